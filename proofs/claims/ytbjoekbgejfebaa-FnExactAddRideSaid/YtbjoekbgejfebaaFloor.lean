/- Plain facts on division that rounds down. No program. -/
import Derived.KernelRfl
namespace Go.Proofs.Ytbjoekbgejfebaa
theorem floor_of {n d q r : Int} (hd : 0 < d) (h : d * q + r = n) (h0 : 0 ≤ r) (h1 : r < d) : n / d = q ∧ n % d = r :=
  (Int.ediv_emod_unique hd).2 ⟨by omega, h0, h1⟩
theorem tmod_bd (n : Int) {d : Int} (hd : 0 < d) : -d < n.tmod d ∧ n.tmod d < d := by
  refine ⟨?_, Int.tmod_lt_of_pos n hd⟩
  have h := Int.tmod_lt_of_pos (-n) hd
  rw [Int.neg_tmod] at h
  omega
theorem floor_neg {n d : Int} (hd : 0 < d) (h : n.tmod d < 0) : n.tdiv d - 1 = n / d ∧ n.tmod d + d = n % d := by
  have h1 := Int.mul_tdiv_add_tmod n d
  have h2 := (tmod_bd n hd).1
  have h3 := floor_of (n := n) (q := n.tdiv d - 1) (r := n.tmod d + d) hd (by rw [Int.mul_sub]; omega) (by omega) (by omega)
  exact ⟨h3.1.symm, h3.2.symm⟩
theorem floor_pos {n d : Int} (hd : 0 < d) (h : ¬ n.tmod d < 0) : n.tdiv d = n / d ∧ n.tmod d = n % d := by
  have h1 := Int.mul_tdiv_add_tmod n d
  have h2 := (tmod_bd n hd).2
  have h3 := floor_of (n := n) (q := n.tdiv d) (r := n.tmod d) hd h1 (by omega) (by omega)
  exact ⟨h3.1.symm, h3.2.symm⟩
/-- The remainder of at least 0, as a remainder of a remainder. -/
theorem mod_of (n : Int) {d : Int} (hd : 0 < d) : (n.tmod d + d).tmod d = n % d := by
  by_cases h : n.tmod d < 0
  · rw [(floor_neg hd h).2, Int.tmod_eq_emod_of_nonneg (Int.emod_nonneg _ (by omega)), Int.emod_emod]
  · rw [(floor_pos hd h).2, Int.tmod_eq_emod_of_nonneg (by have := Int.emod_nonneg n (show d ≠ 0 by omega); omega), Int.add_emod_right, Int.emod_emod]
theorem floor_bd {n d : Int} (hd : 0 < d) (h0 : -4611686018427387904 ≤ n) (h1 : n ≤ 4611686018427387904) : -4611686018427387904 ≤ n / d ∧ n / d ≤ 4611686018427387904 := by
  refine ⟨(Int.le_ediv_iff_mul_le hd).2 (by omega), ?_⟩
  have : n / d < 4611686018427387905 := (Int.ediv_lt_iff_lt_mul hd).2 (by omega)
  omega
end Go.Proofs.Ytbjoekbgejfebaa
