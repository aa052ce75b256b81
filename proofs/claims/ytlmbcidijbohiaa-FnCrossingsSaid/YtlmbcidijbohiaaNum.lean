/- Small functions on numbers, in both programs: ranges, divisions that round down. -/
import Derived.Test.YtlmbcidijbohiaaProg
import Derived.Test.YtlmbcidijbohiaaMem
import Derived.Test.YtlmbcidijbohiaaFloor
import Derived.WalkKit
import Derived.WalkLawsBesides
import Derived.WalkSpells
import Derived.Below
import Derived.Deep.QuietTactic
import Derived.BigQuiet
import Derived.KernelRfl
import Derived.Lib.Hide
namespace Go.Proofs.Ytlmbcidijbohiaa
open Go.RowKit

/-- An answer, and nothing else. -/
def Just (v : Value) (w : World) (e : Ending) (w' : World) : Prop := e = .returned v ∧ w = w'
theorem inN (n a b : Int) (w : World) :
    Calls Try.prog 59 #[.int .i64 n, .int .i64 a, .int .i64 b] w (Just (.bool (decide (a ≤ n) && decide (n ≤ b))) w) := by
  by_cases h1 : a ≤ n
  · go_enter Try.func59, Try.ntmps59
    go_wp2
    go_ret
    exact ⟨by simp [h1], rfl⟩
  · go_enter Try.func59, Try.ntmps59
    go_wp2
    go_ret
    exact ⟨by simp; intro; omega, rfl⟩

theorem specMod (n d : Int) (w : World) (hd : 0 < d) (hd2 : d ≤ 4611686018427387904) (h0 : -4611686018427387904 ≤ n) (h1 : n ≤ 4611686018427387904) :
    Calls Try.prog 53 #[.int .i64 n, .int .i64 d] w (Just (.int .i64 (n % d)) w) := by
  have e := mod_of n hd
  obtain ⟨q0, q1⟩ := tmod_bd n hd
  go_enter Try.func53, Try.ntmps53
  go_wp2
  go_ret
  exact ⟨rfl, rfl⟩
end Go.Proofs.Ytlmbcidijbohiaa
