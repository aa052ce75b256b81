/- More on squares and roots of intervals. No program. -/
import Derived.Test.YtcknknicknolaaaPlainIv
namespace Go.Proofs.Ytcknknicknolaaa
theorem square_ok {a b x y : Int} (h : squareIv a b = ⟨x, y, 0⟩) : vldB a b = true ∧ vldB x y = true ∧ 0 ≤ x ∧ ∀ n, a ≤ n → n ≤ b → x ≤ n * n ∧ n * n ≤ y := by
  unfold squareIv at h
  cases hv : vldB a b
  · rw [hv, if_neg (by decide)] at h
    injection h with _ _ h3
    omega
  · rw [hv, if_pos rfl] at h
    unfold limIv at h
    cases hl : vldB (if a ≤ 0 ∧ 0 ≤ b then 0 else min (a * a) (b * b)) (max (a * a) (b * b))
    · rw [hl, if_neg (by decide)] at h
      injection h with _ _ h3
      omega
    · rw [hl, if_pos rfl] at h
      injection h with h1 h2 _
      rw [h1, h2] at hl
      refine ⟨rfl, hl, ?_, fun n p q => ?_⟩
      · rw [← h1]
        have ea := sq_nonneg a
        have eb := sq_nonneg b
        split <;> omega
      · have := square_in p q
        rw [h1, h2] at this
        exact this
theorem lim_ok {p q x y : Int} (h : limIv p q = ⟨x, y, 0⟩) : vldB p q = true ∧ x = p ∧ y = q := by
  unfold limIv at h
  cases hl : vldB p q
  · rw [hl, if_neg (by decide)] at h
    injection h with _ _ h3
    omega
  · rw [hl, if_pos rfl] at h
    injection h with h1 h2 _
    exact ⟨rfl, h1.symm, h2.symm⟩
theorem add_ok {a b c d x y : Int} (h : addIv a b c d = ⟨x, y, 0⟩) : vldB a b = true ∧ vldB c d = true ∧ x = a + c ∧ y = b + d ∧ addIv c d a b = ⟨x, y, 0⟩ := by
  have h0 := h
  unfold addIv at h
  by_cases hv : vldB a b = true ∧ vldB c d = true
  · rw [if_pos hv] at h
    obtain ⟨h1, h2, h3⟩ := lim_ok h
    refine ⟨hv.1, hv.2, h2, h3, ?_⟩
    unfold addIv
    rw [if_pos ⟨hv.2, hv.1⟩, Int.add_comm c a, Int.add_comm d b]
    exact h
  · rw [if_neg hv] at h
    injection h with _ _ h3
    omega
theorem times_ok {a b n x y : Int} (h : timesIv a b n = ⟨x, y, 0⟩) : vldB a b = true ∧ -1000000 ≤ n ∧ n ≤ 1000000 ∧ ∀ k, a ≤ k → k ≤ b → x ≤ k * n ∧ k * n ≤ y := by
  unfold timesIv at h
  cases hv : vldB a b
  · rw [hv, if_neg (by decide)] at h
    injection h with _ _ h3
    omega
  · rw [hv, if_pos rfl] at h
    by_cases hn : -1000000 ≤ n ∧ n ≤ 1000000
    · rw [if_pos hn] at h
      obtain ⟨h1, h2, h3⟩ := lim_ok h
      refine ⟨rfl, hn.1, hn.2, fun k p q => ?_⟩
      rw [h2, h3]
      exact times_in p q
    · rw [if_neg hn] at h
      injection h with _ _ h3
      omega
theorem upI_ok {n : Int} (h : 0 ≤ n) : 0 ≤ upI n ∧ n ≤ upI n * upI n := by
  obtain ⟨a, b, c⟩ := rootI_ok h
  unfold upI
  by_cases hc : rootI n * rootI n < n
  · rw [if_pos hc]; exact ⟨by omega, by omega⟩
  · rw [if_neg hc]; exact ⟨a, by omega⟩
theorem sqle' {a b : Int} (h0 : 0 ≤ a) (h : a ≤ b) : a * a ≤ b * b := Int.mul_le_mul h h h0 (by omega)
theorem root_le {n : Int} (h0 : 0 ≤ n) (h1 : n ≤ 1000000000) : rootI n ≤ 31623 ∧ upI n ≤ 31624 := by
  obtain ⟨a, b, c⟩ := rootI_ok h0
  have hr : rootI n ≤ 31623 := by
    rcases Int.lt_or_le (rootI n) 31624 with h | h
    · omega
    · have := sqle' (a := 31624) (by omega) h
      omega
  refine ⟨hr, ?_⟩
  unfold upI
  split <;> omega
theorem rootIv_ok {a b : Int} (hv : vldB a b = true) (h : 0 ≤ a) : rootIv a b = ⟨rootI a, upI b, 0⟩ := by
  unfold rootIv
  rw [if_pos hv, if_neg (by omega)]
theorem rootIv_facts {a b x y : Int} (h : rootIv a b = ⟨x, y, 0⟩) : x * x ≤ a ∧ b ≤ y * y ∧ 0 ≤ x ∧ x ≤ 31623 ∧ 0 ≤ y ∧ y ≤ 31624 := by
  unfold rootIv at h
  cases hv : vldB a b
  · rw [hv, if_neg (by decide)] at h
    injection h with _ _ h3
    omega
  · rw [hv, if_pos rfl] at h
    obtain ⟨v1, v2, v3⟩ := vldB_of hv
    by_cases hn : a < 0
    · rw [if_pos hn] at h
      injection h with _ _ h3
      omega
    · rw [if_neg hn] at h
      injection h with h1 h2 _
      obtain ⟨r0, r1, r2⟩ := rootI_ok (n := a) (by omega)
      obtain ⟨u0, u1⟩ := upI_ok (n := b) (by omega)
      have l1 := root_le (n := a) (by omega) (by omega)
      have l2 := root_le (n := b) (by omega) (by omega)
      rw [h1] at r0 r1 l1
      rw [h2] at u0 u1 l2
      exact ⟨r1, u1, r0, l1.1, u0, l2.2⟩
theorem root_in {x y n : Int} (hx : 0 ≤ x) (h1 : x ≤ n * n) (h2 : n * n ≤ y) : rootI x ≤ max n (-n) ∧ max n (-n) ≤ upI y := by
  have hm : max n (-n) * max n (-n) = n * n := by
    rcases Int.le_total n (-n) with h | h
    · rw [Int.max_eq_right h, Int.neg_mul_neg]
    · rw [Int.max_eq_left h]
  have hm0 : 0 ≤ max n (-n) := by omega
  obtain ⟨a, b, c⟩ := rootI_ok hx
  obtain ⟨u, v⟩ := upI_ok (n := y) (by omega)
  generalize max n (-n) = m at hm hm0
  refine ⟨?_, ?_⟩
  · rcases Int.lt_or_le m (rootI x) with h | h
    · have := sqle' (a := m + 1) (by omega) (show m + 1 ≤ rootI x by omega)
      simp only [Int.add_mul, Int.mul_add] at this
      omega
    · exact h
  · rcases Int.lt_or_le (upI y) m with h | h
    · have := sqle' (a := upI y + 1) (by omega) (show upI y + 1 ≤ m by omega)
      simp only [Int.add_mul, Int.mul_add] at this
      omega
    · exact h
end Go.Proofs.Ytcknknicknolaaa
