/- Small functions on numbers, in both programs: ranges, divisions that round down. -/
import Derived.Test.YtcphhcnomaociabDoorProg
import Derived.Test.YtcphhcnomaociabDoorMem
import Derived.Test.YtcphhcnomaociabDoorFloor
import Derived.WalkKit
import Derived.WalkLawsBesides
import Derived.WalkSpells
import Derived.Below
import Derived.Deep.QuietTactic
import Derived.BigQuiet
import Derived.KernelRfl
import Derived.Lib.Hide
namespace Go.Proofs.YtcphhcnomaociabDoor
open Go.RowKit

/-- An answer, and nothing else. -/
def Just (v : Value) (w : World) (e : Ending) (w' : World) : Prop := e = .returned v ∧ w = w'
theorem inN (n a b : Int) (w : World) :
    Calls Tryd.prog 42 #[.int .i64 n, .int .i64 a, .int .i64 b] w (Just (.bool (decide (a ≤ n) && decide (n ≤ b))) w) := by
  by_cases h1 : a ≤ n
  · go_enter Tryd.func42, Tryd.ntmps42
    go_wp2
    go_ret
    exact ⟨by simp [h1], rfl⟩
  · go_enter Tryd.func42, Tryd.ntmps42
    go_wp2
    go_ret
    exact ⟨by simp; intro; omega, rfl⟩

end Go.Proofs.YtcphhcnomaociabDoor
