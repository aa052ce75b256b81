/- Truing in numbers: what the laws of chapter 8 ask of the least plan and of the best turn. No program. -/
import Derived.Test.YtpcaakmcjdginaaPlainTru2
namespace Go.Proofs.Ytpcaakmcjdginaa

theorem zeros_get (n k : Nat) : (List.replicate n (0 : Int)).getD k 0 = 0 := by
  rw [List.getD_eq_getElem?_getD, List.getElem?_replicate]
  split <;> rfl
theorem effI_zeros : ∀ n : Nat, effI (List.replicate n 0) = 0
  | 0 => rfl
  | n + 1 => by
    rw [List.replicate_succ, effI, effI_zeros n]
    rfl
theorem after_zero {zs e ts : List Int} (hl : ts.length = zs.length) (h : ∀ k, ts.getD k 0 = 0) : afterI zs e ts = zs := by
  unfold afterI
  refine allTo_zero _ _ _ _ (fun k hk => ?_) _ (by rw [sgT_len]; omega)
  rw [sgT_len] at hk
  rw [sgT_get hk, h]
  simp [sgQ]
theorem effI_zero {ts : List Int} (h : effI ts = 0) (k : Nat) : ts.getD k 0 = 0 := by
  have := effI_at (ts := ts) (k := k)
  omega
structure Least (zs e : List Int) (tol : Int) (p : List Int) : Prop where
  dev : Dev zs
  eff : Eff e
  t0 : 0 ≤ tol
  t1 : tol ≤ 500
  len : p.length = zs.length
  most : effI p ≤ 4
  rng : rngB (-100) 100 p = true
  good : trueB (afterI zs e p) tol = true
  none : trueB zs tol = true ↔ effI p = 0
theorem least_ok {zs e : List Int} {tol : Int} {p : List Int} (h : leastR zs e tol = (p, 0)) : Least zs e tol p := by
  unfold leastR at h
  by_cases h1 : (devB zs && effB e) = true
  case neg => rw [if_neg h1] at h; injection h with _ h2; omega
  case pos =>
  rw [if_pos h1] at h
  by_cases h2 : (decide (0 ≤ tol) && decide (tol ≤ 500)) = true
  case neg => rw [if_neg h2] at h; injection h with _ h3; omega
  case pos =>
  rw [if_pos h2] at h
  by_cases h3 : 0 < (leastI zs e tol).length
  case neg => rw [if_neg h3] at h; injection h with _ h4; omega
  case pos =>
  rw [if_pos h3] at h
  injection h with h4 _
  rw [Bool.and_eq_true] at h1
  have hD := devB_iff.1 h1.1
  have hE := effB_iff.1 h1.2
  have ht : 0 ≤ tol ∧ tol ≤ 500 := by simpa using h2
  have h4n := hD.lo
  obtain ⟨i, hi, e1, hl, hno⟩ := leastUp_mem (show 0 < (leastUp (fun eff => firstR zs e tol zs.length eff []) 0 5).length from h3)
  obtain ⟨ys, e2, hyl, hye, hyt⟩ := first_spec (show (0 : Int) ≤ 0 + i by omega) hl
  have hp : p = ys := by
    rw [← h4]
    show leastUp (fun eff => firstR zs e tol zs.length eff []) 0 5 = ys
    rw [e1]
    simpa using e2
  subst hp
  rw [List.nil_append] at hyt
  have hz := hye
  refine ⟨hD, hE, ht.1, ht.2, hyl, by omega, rngB_of fun k hk => ?_, hyt, ?_⟩
  · have := effI_at (ts := p) (k := k)
    omega
  · constructor
    · intro hT
      by_cases hi0 : i = 0
      · subst hi0; simpa using hye
      · have hF := hno 0 (by omega)
        have := first_none (r := zs.length) (eff := 0 + ((0 : Nat) : Int)) (b := []) (by omega) (fun h0 => by omega) hF (List.replicate zs.length 0) (by simp) (by rw [effI_zeros]; rfl)
        rw [List.nil_append, after_zero (by simp) (zeros_get _), hT] at this
        cases this
    · intro h0
      rw [after_zero hyl (effI_zero h0)] at hyt
      exact hyt
theorem least_after {zs e : List Int} {tol : Int} {p : List Int} (h : Least zs e tol p) : Dev (afterI zs e p) ∧ afterR zs e p = (afterI zs e p, 0) ∧ trueR (afterI zs e p) tol = (true, 0) ∧ trueR zs tol = (trueB zs tol, 0) := by
  have hl := afterI_len zs e p
  have hd : Dev (afterI zs e p) := ⟨by rw [hl]; exact h.dev.lo, by rw [hl]; exact h.dev.hi, trueB_rng h.good h.t1⟩
  refine ⟨hd, ?_, ?_, ?_⟩
  · unfold afterR
    rw [devB_iff.2 h.dev, effB_iff.2 h.eff, h.rng, devB_iff.2 hd]
    simp [h.len]
  · unfold trueR
    rw [devB_iff.2 hd, h.good]
    simp [h.t0, h.t1]
  · unfold trueR
    rw [devB_iff.2 h.dev]
    simp [h.t0, h.t1]
theorem after_ok {zs e ts a : List Int} (h : afterR zs e ts = (a, 0)) : Dev zs ∧ Eff e ∧ ts.length = zs.length ∧ rngB (-100) 100 ts = true ∧ Dev a ∧ a = afterI zs e ts := by
  unfold afterR at h
  by_cases h1 : (devB zs && effB e) = true
  case neg => rw [if_neg h1] at h; injection h with _ h2; omega
  case pos =>
  rw [if_pos h1] at h
  by_cases h2 : (decide (ts.length = zs.length) && rngB (-100) 100 ts) = true
  case neg => rw [if_neg h2] at h; injection h with _ h3; omega
  case pos =>
  rw [if_pos h2] at h
  by_cases h3 : devB (afterI zs e ts) = true
  case neg => rw [if_neg h3] at h; injection h with _ h4; omega
  case pos =>
  rw [if_pos h3] at h
  injection h with h4 _
  rw [Bool.and_eq_true] at h1 h2
  subst h4
  exact ⟨devB_iff.1 h1.1, effB_iff.1 h1.2, by simpa using h2.1, h2.2, devB_iff.1 h3, rfl⟩
theorem negI_rng8 {ts : List Int} (h : rngB (-100) 100 ts = true) : rngB (-100) 100 (negI ts) = true := rngB_of fun k hk => by
  rw [negI_len] at hk
  have := rngB_at h hk
  rw [negI_get]
  omega
/-- The plan that undoes leads back. -/
theorem undo_back {zs e ts a : List Int} (h : afterR zs e ts = (a, 0)) : undoR ts = (negI ts, 0) ∧ afterR a e (negI ts) = (zs, 0) := by
  obtain ⟨hD, hE, hl, hr, hA, rfl⟩ := after_ok h
  have h10 := hD.hi
  constructor
  · unfold undoR
    rw [hr]
    simp
    omega
  · unfold afterR
    rw [devB_iff.2 hA, effB_iff.2 hE, negI_rng8 hr, negI_len, afterI_len, after_back, devB_iff.2 hD]
    simp [hl]
/-- The best turn is the best one. -/
theorem bestStep_le (zs e : List Int) (i : Nat) (q : Int) (b : Best) : (bestStep zs e i q b).s ≤ b.s ∧ (bestStep zs e i q b).s ≤ turnSq zs e i q := by
  unfold bestStep
  split
  · exact ⟨by simp only; omega, Int.le_refl _⟩
  · exact ⟨Int.le_refl _, by omega⟩
theorem bestTo_le (zs e : List Int) : ∀ k : Nat, (bestTo zs e k).s ≤ sqS zs ∧ ∀ (i : Nat) (q : Int), i < k → (q = 1 ∨ q = -1) → (bestTo zs e k).s ≤ turnSq zs e i q
  | 0 => ⟨Int.le_refl _, fun i q h => by omega⟩
  | k + 1 => by
    have h := bestTo_le zs e k
    have h1 := bestStep_le zs e k 1 (bestTo zs e k)
    have h2 := bestStep_le zs e k (-1) (bestStep zs e k 1 (bestTo zs e k))
    refine ⟨by unfold bestTo; omega, fun i q hi hq => ?_⟩
    unfold bestTo
    by_cases e0 : i = k
    · subst e0
      rcases hq with rfl | rfl <;> omega
    · have := h.2 i q (by omega) hq
      omega
theorem bestStep_is (zs e : List Int) (i : Nat) (q : Int) (b : Best) (h : 0 ≤ b.p → b.s = turnSq zs e b.p.toNat b.q ∧ b.s < sqS zs) (hs : b.s ≤ sqS zs) : 0 ≤ (bestStep zs e i q b).p → (bestStep zs e i q b).s = turnSq zs e (bestStep zs e i q b).p.toNat (bestStep zs e i q b).q ∧ (bestStep zs e i q b).s < sqS zs := by
  unfold bestStep
  split
  · intro _
    exact ⟨by simp, by simp only; omega⟩
  · exact h
theorem bestTo_is (zs e : List Int) : ∀ k : Nat, 0 ≤ (bestTo zs e k).p → (bestTo zs e k).s = turnSq zs e (bestTo zs e k).p.toNat (bestTo zs e k).q ∧ (bestTo zs e k).s < sqS zs
  | 0 => fun h => by simp [bestTo] at h
  | k + 1 => by
    have h0 := bestTo_le zs e k
    have h1 := bestStep_le zs e k 1 (bestTo zs e k)
    exact bestStep_is zs e k (-1) _ (bestStep_is zs e k 1 _ (bestTo_is zs e k) h0.1) (by omega)
structure BestOk (zs e : List Int) (k q : Int) : Prop where
  dev : Dev zs
  eff : Eff e
  k0 : 0 ≤ k
  k1 : k < zs.length
  q1 : q = 1 ∨ q = -1
  less : turnSq zs e k.toNat q < sqS zs
  best : ∀ (i : Nat) (r : Int), i < zs.length → (r = 1 ∨ r = -1) → turnSq zs e k.toNat q ≤ turnSq zs e i r
theorem best_ok {zs e : List Int} {k q : Int} (h : bestR zs e = (k, q, 0)) : BestOk zs e k q := by
  unfold bestR at h
  by_cases h1 : (devB zs && effB e) = true
  case neg => rw [if_neg h1] at h; injection h with _ h2; injection h2 with _ h3; omega
  case pos =>
  rw [if_pos h1] at h
  by_cases h2 : (bestI zs e).p < 0
  case pos => rw [if_pos h2] at h; injection h with _ h3; injection h3 with _ h4; omega
  case neg =>
  rw [if_neg h2] at h
  injection h with h3 h4
  injection h4 with h5 _
  rw [Bool.and_eq_true] at h1
  have hb := bestTo_bd zs e zs.length
  have hi := bestTo_is zs e zs.length (by show 0 ≤ (bestI zs e).p; omega)
  have hl := bestTo_le zs e zs.length
  change (bestI zs e).Ok zs.length at hb
  change (bestI zs e).s = turnSq zs e (bestI zs e).p.toNat (bestI zs e).q ∧ (bestI zs e).s < sqS zs at hi
  change (bestI zs e).s ≤ sqS zs ∧ ∀ (i : Nat) (q : Int), i < zs.length → (q = 1 ∨ q = -1) → (bestI zs e).s ≤ turnSq zs e i q at hl
  subst h3 h5
  unfold Best.Ok at hb
  refine ⟨devB_iff.1 h1.1, effB_iff.1 h1.2, by omega, by omega, by omega, by rw [← hi.1]; exact hi.2, fun i r hi2 hr => by rw [← hi.1]; exact hl.2 i r hi2 hr⟩
end Go.Proofs.Ytpcaakmcjdginaa
