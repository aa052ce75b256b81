/- Truing in numbers: what the program of chapter 8 does: turns one after another, plans in the making. No program. -/
import Derived.Test.YtpcaakmcjdginaaPlainTru3
namespace Go.Proofs.Ytpcaakmcjdginaa

theorem trueB_within (zs : List Int) (t : Int) : trueB zs t = rngB (-t) t zs := by
  unfold trueB rngB
  congr 1
  funext x
  rw [Bool.eq_iff_iff]
  simp only [decide_eq_true_eq, Bool.and_eq_true]
  omega
theorem sgQ_add (k : Nat) (a b : Int) : sgQ k (a + b) = sgQ k a + sgQ k b := by unfold sgQ; split <;> omega
theorem effAll_add {n : Nat} {s : List Int} {j p : Nat} {q : Int} {ts : List Int} (hp : p < ts.length) : ∀ k, k ≤ ts.length → effAll n s (sgT (addAt ts p q)) j k = effAll n s (sgT ts) j k + if p < k then sgQ p q * effD n s p j s.length else 0
  | 0, _ => by simp [effAll]
  | k + 1, hk => by
    rw [effAll, effAll, effAll_add hp k (by omega), sgT_get (by rw [addAt_len]; omega), sgT_get (by omega), addAt_get (by omega)]
    by_cases e : k = p
    · subst e
      rw [if_pos rfl, if_neg (by omega), if_pos (by omega), sgQ_add, Int.add_mul]
      omega
    · rw [if_neg e, Int.add_zero]
      by_cases h2 : p < k
      · rw [if_pos h2, if_pos (by omega)]
        omega
      · rw [if_neg h2, if_neg (by omega)]
        omega
/-- One turn more. -/
theorem after_add {zs e ts : List Int} {p : Nat} {q : Int} (hl : ts.length = zs.length) (hp : p < zs.length) : afterI zs e (addAt ts p q) = turn1 zs.length (afterI zs e ts) p (sgQ p q) e := by
  refine list_ext' (by rw [afterI_len, turn1_len, afterI_len]) fun i hi => ?_
  rw [afterI_len] at hi
  unfold afterI
  rw [allTo_get hi, turn1, turnTo_get (by rw [allTo_len]; exact hi), allTo_get hi, effAll_add (by omega) _ (by omega), if_pos hp]
  omega
theorem sgT_one {n p : Nat} {q : Int} (hp : p < n) : sgT (oneT n p q) = oneT n p (sgQ p q) := by
  refine list_ext' (by rw [sgT_len, oneT_len, oneT_len]) fun i hi => ?_
  rw [sgT_len, oneT_len] at hi
  rw [sgT_get (by rw [oneT_len]; exact hi), oneT_get hi, oneT_get hi]
  by_cases e : i = p
  · subst e; rw [if_pos rfl, if_pos rfl]
  · rw [if_neg e, if_neg e]; simp [sgQ]
theorem after_one {zs e : List Int} {p : Nat} {q : Int} (hp : p < zs.length) : afterI zs e (oneT zs.length p q) = turn1 zs.length zs p (sgQ p q) e := by
  unfold afterI
  rw [sgT_one hp, oneT_all _ (Nat.le_refl _), if_pos hp]
/-- A plan that has been begun, and nothing behind. -/
def padI (bg : List Int) (r : Nat) : List Int := bg ++ List.replicate r 0
theorem padI_len (bg : List Int) (r : Nat) : (padI bg r).length = bg.length + r := by simp [padI]
theorem padI_snoc (bg : List Int) (q : Int) (r : Nat) : padI (bg ++ [q]) r = bg ++ q :: List.replicate r 0 := by simp [padI]
theorem padI_at (bg : List Int) (q : Int) (r : Nat) : (padI (bg ++ [q]) r).getD bg.length 0 = q := by
  rw [padI_snoc]
  simp
theorem pad_set (bg : List Int) (x q : Int) (r : Nat) : (bg ++ x :: List.replicate r (0 : Int)).set bg.length q = bg ++ q :: List.replicate r 0 := by simp
theorem pad_add (bg : List Int) (q : Int) (r : Nat) : addAt (padI bg (r + 1)) bg.length q = padI (bg ++ [q]) r := by
  unfold addAt
  have e : padI bg (r + 1) = bg ++ (0 : Int) :: List.replicate r 0 := by simp [padI, List.replicate_succ]
  rw [e, padI_snoc, pad_set]
  congr 2
  simp
theorem pad_back (bg : List Int) (q : Int) (r : Nat) : addAt (padI (bg ++ [q]) r) bg.length (-q) = padI bg (r + 1) := by
  unfold addAt
  have e : padI bg (r + 1) = bg ++ (0 : Int) :: List.replicate r 0 := by simp [padI, List.replicate_succ]
  rw [padI_at, e, padI_snoc, pad_set]
  congr 2
  omega
theorem padI_get0 (bg : List Int) (r : Nat) : (padI bg (r + 1)).getD bg.length 0 = 0 := by
  have e : padI bg (r + 1) = bg ++ (0 : Int) :: List.replicate r 0 := by simp [padI, List.replicate_succ]
  rw [e]
  simp
/-- Where no effort is left there is one plan. -/
theorem first_zero {zs e : List Int} {tol : Int} : ∀ (r : Nat) (bg : List Int), firstR zs e tol r 0 bg = if trueB (afterI zs e (padI bg r)) tol then padI bg r else []
  | 0, bg => by
    unfold firstR
    rw [if_pos rfl, show padI bg 0 = bg by simp [padI]]
  | r + 1, bg => by
    have h := first_zero (zs := zs) (e := e) (tol := tol) r (bg ++ [0])
    have e1 : padI (bg ++ [0]) r = padI bg (r + 1) := by simp [padI, List.replicate_succ]
    rw [e1] at h
    unfold firstR
    show scanI _ 0 1 = _
    unfold scanI
    have e2 : (0 : Int) - max 0 (-0) = 0 := by omega
    simp only [e2]
    rw [h]
    by_cases ht : trueB (afterI zs e (padI bg (r + 1))) tol = true
    · rw [if_pos ht, if_pos (by rw [padI_len]; omega)]
    · rw [if_neg ht, if_neg (by simp)]
      rfl
theorem rngB_append {a b : Int} {xs ys : List Int} (h : rngB a b xs = true) (k : rngB a b ys = true) : rngB a b (xs ++ ys) = true := by
  unfold rngB at *
  rw [List.all_append, h, k]
  rfl
theorem rngB_zeros {a b : Int} (h0 : a ≤ 0) (h1 : 0 ≤ b) (n : Nat) : rngB a b (List.replicate n 0) = true := by
  refine rngB_of fun k _ => ?_
  rw [zeros_get]
  exact ⟨h0, h1⟩
theorem padI_rng {bg : List Int} {r : Nat} (h : rngB (-100) 100 bg = true) : rngB (-100) 100 (padI bg r) = true := rngB_append h (rngB_zeros (by omega) (by omega) r)
/-- The best turn as the program holds it. -/
def bestP (b : Best) : Int := max b.p 0
def bestF (b : Best) : Bool := decide (0 ≤ b.p)
theorem bestR_of (zs e : List Int) (hz : devB zs = true) (he : effB e = true) : bestR zs e = if bestF (bestI zs e) then (bestP (bestI zs e), (bestI zs e).q, 0) else (0, 0, 4) := by
  have e1 : (devB zs && effB e) = true := by rw [hz, he]; rfl
  unfold bestR bestP bestF
  rw [if_pos e1]
  by_cases h : (bestI zs e).p < 0
  · rw [if_pos h, if_neg (by simpa using h)]
  · rw [if_neg h, if_pos (by simpa using h)]
    congr 1
    omega
end Go.Proofs.Ytpcaakmcjdginaa
