/- Small functions on numbers, in both programs: ranges, divisions that round down. -/
import Derived.Test.YthedanpldebjcaaProg
import Derived.Test.YthedanpldebjcaaMem
import Derived.Test.YthedanpldebjcaaFloor
import Derived.WalkKit
import Derived.WalkLawsBesides
import Derived.WalkSpells
import Derived.Below
import Derived.Deep.QuietTactic
import Derived.BigQuiet
import Derived.KernelRfl
import Derived.Lib.Hide
namespace Go.Proofs.Ythedanpldebjcaa
open Go.RowKit
set_option linter.unusedVariables false

/-- An answer, and nothing else. -/
def Just (v : Value) (w : World) (e : Ending) (w' : World) : Prop := e = .returned v ∧ w = w'
theorem inN (n a b : Int) (w : World) :
    Calls Try.prog 63 #[.int .i64 n, .int .i64 a, .int .i64 b] w (Just (.bool (decide (a ≤ n) && decide (n ≤ b))) w) := by
  by_cases h1 : a ≤ n
  · go_enter Try.func63, Try.ntmps63
    go_wp2
    go_ret
    exact ⟨by simp [h1], rfl⟩
  · go_enter Try.func63, Try.ntmps63
    go_wp2
    go_ret
    exact ⟨by simp; intro; omega, rfl⟩

theorem specAbs (n : Int) (w : World) (h0 : -1000000000000000000 ≤ n) (h1 : n ≤ 1000000000000000000) :
    Calls Try.prog 70 #[.int .i64 n] w (Just (.int .i64 (max n (-n))) w) := by
  by_cases h : n < 0
  · have e : max n (-n) = -n := by omega
    rw [e]
    go_enter Try.func70, Try.ntmps70
    go_wp2_with fail
    go_ret
    exact ⟨rfl, rfl⟩
  · have e : max n (-n) = n := by omega
    rw [e]
    go_enter Try.func70, Try.ntmps70
    go_wp2_with fail
    go_ret
    exact ⟨rfl, rfl⟩
end Go.Proofs.Ythedanpldebjcaa
