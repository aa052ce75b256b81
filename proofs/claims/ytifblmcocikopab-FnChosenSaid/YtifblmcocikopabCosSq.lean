/- The contract of the model's square between two points, by itself. -/
import Derived.Test.YtifblmcocikopabCos
namespace Go.Proofs.Ytifblmcocikopab
open Go.RowKit

theorem sq_bd {a : Int} (h0 : 0 ≤ a) (h1 : a ≤ 10000) : 0 ≤ a * a ∧ a * a ≤ 100000000 := by
  have := prod_le (a := a) (b := a) (p := 10000) (q := 10000) ⟨by omega, h1⟩ ⟨by omega, h1⟩
  have := sq0 a
  omega
theorem two_bd {a b : Int} (a0 : 0 ≤ a) (a1 : a ≤ 10000) (b0 : 0 ≤ b) (b1 : b ≤ 10000) : 0 ≤ 2 * a * b ∧ 2 * a * b ≤ 200000000 := by
  have := prod_le (a := 2 * a) (b := b) (p := 20000) (q := 10000) ⟨by omega, by omega⟩ ⟨by omega, b1⟩
  have : 0 ≤ 2 * a * b := Int.mul_nonneg (by omega) b0
  omega
theorem three_bd {p c : Int} (h0 : 0 ≤ p) (h1 : p ≤ 200000000) (hc : -1000000000 ≤ c ∧ c ≤ 1000000000) : -200000000000000000 ≤ p * c ∧ p * c ≤ 200000000000000000 := by
  have := prod_le (a := p) (b := c) (p := 200000000) (q := 1000000000) ⟨by omega, h1⟩ hc
  omega
theorem specSquare (a b n : Int) (w : World) (a0 : 0 ≤ a) (a1 : a ≤ 10000) (b0 : 0 ≤ b) (b1 : b ≤ 10000) (h0 : -1000000 ≤ n) (h1 : n ≤ 1000000) : Calls Try.prog 60 #[.int .i64 a, .int .i64 b, .int .i64 n] w (Ans (.int .i64 (sqI a b n)) w) := by
  have HC := Go.Lib.hid (fun w0 => specCosine n w0 h0 h1)
  have hc := cosI_bd n
  obtain ⟨p0, p1⟩ := two_bd a0 a1 b0 b1
  have p2 := three_bd p0 p1 hc
  have p3 := nrm_mul p0 hc
  have s1 := sq_bd a0 a1
  have s2 := sq_bd b0 b1
  have HV : Hid (sqI a b n = a * a + b * b - nrm (2 * a * b * cosI n)) := rfl
  have HN := Go.Lib.hid (fun w0 => specNearestU (2 * a * b * cosI n) w0 (by omega) (by omega))
  generalize cosI n = c at HC HN HV hc p2 p3
  go_enter Try.func60, Try.ntmps60
  go_wp2_with fail
  refine (HC.out _).mono ?_
  rintro _ w1 ⟨rfl, b1⟩
  go_wp2_with fail
  refine (HN.out _).mono ?_
  rintro _ _ ⟨rfl, rfl⟩
  go_wp2_with fail
  go_ret
  exact ⟨by rw [HV.out]; rfl, b1⟩
end Go.Proofs.Ytifblmcocikopab
