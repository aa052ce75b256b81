/- Small functions on numbers, in both programs: ranges, divisions that round down. -/
import Derived.Test.YtbjoekbgejfebaaProg
import Derived.Test.YtbjoekbgejfebaaMem
import Derived.Test.YtbjoekbgejfebaaFloor
import Derived.WalkKit
import Derived.WalkLawsBesides
import Derived.WalkSpells
import Derived.Below
import Derived.Deep.QuietTactic
import Derived.BigQuiet
import Derived.KernelRfl
import Derived.Lib.Hide
namespace Go.Proofs.Ytbjoekbgejfebaa
open Go.RowKit
set_option linter.unusedVariables false

/-- An answer, and nothing else. -/
def Just (v : Value) (w : World) (e : Ending) (w' : World) : Prop := e = .returned v ∧ w = w'
theorem inN (n a b : Int) (w : World) :
    Calls Try.prog 66 #[.int .i64 n, .int .i64 a, .int .i64 b] w (Just (.bool (decide (a ≤ n) && decide (n ≤ b))) w) := by
  by_cases h1 : a ≤ n
  · go_enter Try.func66, Try.ntmps66
    go_wp2
    go_ret
    exact ⟨by simp [h1], rfl⟩
  · go_enter Try.func66, Try.ntmps66
    go_wp2
    go_ret
    exact ⟨by simp; intro; omega, rfl⟩

theorem specFloor (n d : Int) (w : World) (hd : 0 < d) (hd2 : d ≤ 4611686018427387904) (h0 : -4611686018427387904 ≤ n) (h1 : n ≤ 4611686018427387904) :
    Calls Try.prog 72 #[.int .i64 n, .int .i64 d] w (Just (.int .i64 (n / d)) w) := by
  obtain ⟨q0, q1⟩ := floor_bd hd h0 h1
  by_cases h : n.tmod d < 0
  · have e := (floor_neg hd h).1
    go_enter Try.func72, Try.ntmps72
    go_wp2
    go_ret
    exact ⟨rfl, rfl⟩
  · have e := (floor_pos hd h).1
    go_enter Try.func72, Try.ntmps72
    go_wp2
    go_ret
    exact ⟨rfl, rfl⟩
theorem implDown (n d : Int) (w : World) (hd : 0 < d) (hd2 : d ≤ 4611686018427387904) (h0 : -4611686018427387904 ≤ n) (h1 : n ≤ 4611686018427387904) :
    Calls Try.prog 58 #[.int .i64 n, .int .i64 d] w (Just (.int .i64 (n / d)) w) := by
  obtain ⟨q0, q1⟩ := floor_bd hd h0 h1
  by_cases h : n.tmod d < 0
  · have e := (floor_neg hd h).1
    go_enter Try.func58, Try.ntmps58
    go_wp2
    go_ret
    exact ⟨rfl, rfl⟩
  · have e := (floor_pos hd h).1
    go_enter Try.func58, Try.ntmps58
    go_wp2
    go_ret
    exact ⟨rfl, rfl⟩
end Go.Proofs.Ytbjoekbgejfebaa
