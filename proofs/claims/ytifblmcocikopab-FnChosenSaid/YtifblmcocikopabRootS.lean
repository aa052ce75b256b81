/- Contracts of the square roots that round down, in both programs. -/
import Derived.Test.YtifblmcocikopabNum
import Derived.Test.YtifblmcocikopabPlainIv
import Derived.Deep.LoopGhost
import Derived.StillTailTactics
namespace Go.Proofs.Ytifblmcocikopab
open Go.RowKit

theorem sqle {a b : Int} (h0 : 0 ≤ a) (h : a ≤ b) : a * a ≤ b * b := Int.mul_le_mul h h h0 (by omega)
theorem rootI_bd {n : Int} (h0 : 0 ≤ n) (h1 : n ≤ 1000000000) : 0 ≤ rootI n ∧ rootI n ≤ 31623 := by
  obtain ⟨a, b, c⟩ := rootI_ok h0
  refine ⟨a, ?_⟩
  rcases Int.lt_or_le (rootI n) 31624 with h | h
  · omega
  · have := sqle (a := 31624) (by omega) h
    omega

set_option maxRecDepth 100000 in
theorem specRoot (n : Int) (w : World) (h0 : 0 ≤ n) (h1 : n ≤ 1000000000) :
    Calls Try.prog 48 #[.int .i64 n] w fun e w' => e = .returned (.int .i64 (rootI n)) ∧ w = w' := by
  go_enter Try.func48, Try.ntmps48
  go_wp2_with fail
  go_loop [3, 4] (fun a b => ∃ l h : Int, a = .int .i64 l ∧ b = .int .i64 h ∧ 0 ≤ l ∧ l < h ∧ h ≤ 2000000001 ∧ l * l ≤ n ∧ n < h * h) (fun a b => (intOf b - intOf a).toNat)
  case atStart => exact ⟨0, 2000000001, rfl, rfl, by omega, by omega, by omega, by omega, by omega⟩
  case round =>
    obtain ⟨l, h, rfl, rfl, p0, p1, p2, p3, p4⟩ := hrel
    by_cases hc : l + 1 < h
    · have m0 : 0 ≤ (l + h) / 2 := by omega
      have m1 : (l + h) / 2 ≤ 2000000001 := by omega
      have m2 : l < (l + h) / 2 := by omega
      have m3 : (l + h) / 2 < h := by omega
      have e1 := mul_bd (a := (l + h) / 2) (n := (l + h) / 2) (p := 2000000001) (q := 2000000001) (by omega) (by omega)
      obtain ⟨e1, e2⟩ := e1
      have wm : IntKind.i64.wrap ((l + h) / 2 * ((l + h) / 2)) = (l + h) / 2 * ((l + h) / 2) := IntWalk.i64_in _ (by omega)
      by_cases hm : (l + h) / 2 * ((l + h) / 2) ≤ n
      · go_wp2_with fail
        go_round
        case rel => exact ⟨(l + h) / 2, h, rfl, rfl, m0, m3, p2, hm, p4⟩
        case measure => simp [intOf]; omega
      · go_wp2_with fail
        go_round
        case rel => exact ⟨l, (l + h) / 2, rfl, rfl, p0, m2, m1, p3, by omega⟩
        case measure => simp [intOf]; omega
    · have HR := Go.Lib.hid (Root.is (n := n) (r := l) ⟨p0, p3, by rw [show h = l + 1 by omega] at p4; exact p4⟩ h0)
      go_wp2_with fail
      go_ret
      exact ⟨ret_int HR.out, rfl⟩

set_option maxRecDepth 100000 in
theorem implRootDown (n : Int) (w : World) (h0 : 0 ≤ n) (h1 : n ≤ 1000000000) :
    Calls Try.prog 55 #[.int .i64 n] w fun e w' => e = .returned (.int .i64 (rootI n)) ∧ w = w' := by
  go_enter Try.func55, Try.ntmps55
  go_wp2_with fail
  go_loop [3] (fun a => ∃ r : Int, a = .int .i64 r ∧ 0 ≤ r ∧ r ≤ 1000000000 ∧ n < (r + 1) * (r + 1)) (fun a => (intOf a).toNat)
  case atStart =>
    refine ⟨n, rfl, h0, h1, ?_⟩
    have := Int.mul_nonneg h0 h0
    simp only [Int.add_mul, Int.mul_add]
    omega
  case round =>
    obtain ⟨r, rfl, p0, p1, p2⟩ := hrel
    have e1 := mul_bd (a := r) (n := r) (p := 1000000000) (q := 1000000000) (by omega) (by omega)
    obtain ⟨e1, e2⟩ := e1
    have wm : IntKind.i64.wrap (r * r) = r * r := IntWalk.i64_in _ (by omega)
    by_cases hc : n < r * r
    · obtain ⟨q0, q1, q2⟩ := newton p0 hc h0
      have d0 : 0 ≤ n / r := Int.ediv_nonneg h0 p0
      have hr0 : 0 < r := by
        rcases Int.lt_or_le 0 r with h1 | h1
        · exact h1
        · obtain rfl : r = 0 := by omega
          omega
      have d1 : n / r ≤ 1000000000 := Int.le_trans (Int.ediv_le_self _ h0) h1
      have hne : (r == 0) = false := by simp; omega
      have ht : n.tdiv r = n / r := Int.tdiv_eq_ediv_of_nonneg h0
      have wd : IntKind.i64.wrap (n / r) = n / r := IntWalk.i64_in _ (by omega)
      have HQ := Go.Lib.hid (And.intro q0 (And.intro q1 q2))
      clear q2
      go_wp2_with fail
      go_round
      case rel => exact ⟨(r + n / r) / 2, rfl, HQ.out.1, by have := HQ.out.2.1; omega, HQ.out.2.2⟩
      case measure => have := HQ.out.1; have := HQ.out.2.1; simp [intOf]; omega
    · have HR := Go.Lib.hid (Root.is (n := n) (r := r) ⟨p0, by omega, p2⟩ h0)
      go_wp2_with fail
      go_ret
      exact ⟨ret_int HR.out, rfl⟩

end Go.Proofs.Ytifblmcocikopab
