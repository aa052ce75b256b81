/- Small functions on numbers, in both programs: ranges, divisions that round down. -/
import Derived.Test.YtifblmcocikopaaProg
import Derived.Test.YtifblmcocikopaaMem
import Derived.Test.YtifblmcocikopaaFloor
import Derived.WalkKit
import Derived.WalkLawsBesides
import Derived.WalkSpells
import Derived.Below
import Derived.Deep.QuietTactic
import Derived.BigQuiet
import Derived.KernelRfl
import Derived.Lib.Hide
namespace Go.Proofs.Ytifblmcocikopaa
open Go.RowKit
set_option linter.unusedVariables false

/-- An answer, and nothing else. -/
def Just (v : Value) (w : World) (e : Ending) (w' : World) : Prop := e = .returned v ∧ w = w'
theorem inN (n a b : Int) (w : World) :
    Calls Try.prog 59 #[.int .i64 n, .int .i64 a, .int .i64 b] w (Just (.bool (decide (a ≤ n) && decide (n ≤ b))) w) := by
  by_cases h1 : a ≤ n
  · go_enter Try.func59, Try.ntmps59
    go_wp2
    go_ret
    exact ⟨by simp [h1], rfl⟩
  · go_enter Try.func59, Try.ntmps59
    go_wp2
    go_ret
    exact ⟨by simp; intro; omega, rfl⟩

theorem specFloor (n d : Int) (w : World) (hd : 0 < d) (hd2 : d ≤ 4611686018427387904) (h0 : -4611686018427387904 ≤ n) (h1 : n ≤ 4611686018427387904) :
    Calls Try.prog 84 #[.int .i64 n, .int .i64 d] w (Just (.int .i64 (n / d)) w) := by
  obtain ⟨q0, q1⟩ := floor_bd hd h0 h1
  by_cases h : n.tmod d < 0
  · have e := (floor_neg hd h).1
    go_enter Try.func84, Try.ntmps84
    go_wp2
    go_ret
    exact ⟨rfl, rfl⟩
  · have e := (floor_pos hd h).1
    go_enter Try.func84, Try.ntmps84
    go_wp2
    go_ret
    exact ⟨rfl, rfl⟩
theorem implDown (n d : Int) (w : World) (hd : 0 < d) (hd2 : d ≤ 4611686018427387904) (h0 : -4611686018427387904 ≤ n) (h1 : n ≤ 4611686018427387904) :
    Calls Try.prog 70 #[.int .i64 n, .int .i64 d] w (Just (.int .i64 (n / d)) w) := by
  obtain ⟨q0, q1⟩ := floor_bd hd h0 h1
  by_cases h : n.tmod d < 0
  · have e := (floor_neg hd h).1
    go_enter Try.func70, Try.ntmps70
    go_wp2
    go_ret
    exact ⟨rfl, rfl⟩
  · have e := (floor_pos hd h).1
    go_enter Try.func70, Try.ntmps70
    go_wp2
    go_ret
    exact ⟨rfl, rfl⟩
theorem specNearest (n d : Int) (w : World) (hd : 0 < d) (hd2 : d ≤ 1000000000000) (h0 : -2000000000000000000 ≤ n) (h1 : n ≤ 2000000000000000000) :
    Calls Try.prog 80 #[.int .i64 n, .int .i64 d] w (Just (.int .i64 ((2 * n + d) / (2 * d))) w) := by
  have HF := Go.Lib.hid (specFloor (2 * n + d) (2 * d) w (by omega) (by omega) (by omega) (by omega))
  go_enter Try.func80, Try.ntmps80
  go_wp2_with fail
  refine HF.out.mono ?_
  rintro _ _ ⟨rfl, rfl⟩
  go_wp2_with fail
  go_ret
  exact ⟨rfl, rfl⟩
theorem specAbs (n : Int) (w : World) (h0 : -1000000000000000000 ≤ n) (h1 : n ≤ 1000000000000000000) :
    Calls Try.prog 61 #[.int .i64 n] w (Just (.int .i64 (max n (-n))) w) := by
  by_cases h : n < 0
  · have e : max n (-n) = -n := by omega
    rw [e]
    go_enter Try.func61, Try.ntmps61
    go_wp2_with fail
    go_ret
    exact ⟨rfl, rfl⟩
  · have e : max n (-n) = n := by omega
    rw [e]
    go_enter Try.func61, Try.ntmps61
    go_wp2_with fail
    go_ret
    exact ⟨rfl, rfl⟩
end Go.Proofs.Ytifblmcocikopaa
