/- Truing in numbers: deviations, effects, plans, squares. No program. -/
import Derived.Test.YtpcaakmcjdginaaPlainTen2
namespace Go.Proofs.Ytpcaakmcjdginaa

def devB (zs : List Int) : Bool := decide (4 ≤ (zs.length : Int)) && decide ((zs.length : Int) ≤ 10) && rngB (-500) 500 zs
structure Dev (zs : List Int) : Prop where
  lo : 4 ≤ zs.length
  hi : zs.length ≤ 10
  rng : rngB (-500) 500 zs = true
theorem devB_iff {zs : List Int} : devB zs = true ↔ Dev zs := by
  simp only [devB, Bool.and_eq_true, decide_eq_true_eq]
  exact ⟨fun ⟨⟨a, b⟩, c⟩ => ⟨by omega, by omega, c⟩, fun h => ⟨⟨by have := h.lo; omega, by have := h.hi; omega⟩, h.rng⟩⟩
def effB (e : List Int) : Bool := decide (1 ≤ (e.length : Int)) && decide ((e.length : Int) ≤ 3) && rngB 0 20 e && decide (0 < e.getD 0 0)
structure Eff (e : List Int) : Prop where
  lo : 1 ≤ e.length
  hi : e.length ≤ 3
  rng : rngB 0 20 e = true
  one : 0 < e.getD 0 0
theorem effB_iff {e : List Int} : effB e = true ↔ Eff e := by
  simp only [effB, Bool.and_eq_true, decide_eq_true_eq]
  exact ⟨fun ⟨⟨⟨a, b⟩, c⟩, d⟩ => ⟨by omega, by omega, c, d⟩, fun h => ⟨⟨⟨by have := h.lo; omega, by have := h.hi; omega⟩, h.rng⟩, h.one⟩⟩
theorem Dev.bd {zs : List Int} (h : Dev zs) : Bd 500 zs := fun k => by
  by_cases hk : k < zs.length
  · have := rngB_at h.rng hk; omega
  · rw [List.getD_eq_getElem?_getD, List.getElem?_eq_none (by omega)]; simp
/-- Quarter turns as they count: spokes on the left the other way round. -/
def sgQ (k : Nat) (q : Int) : Int := if k % 2 = 0 then -q else q
def sgT (ts : List Int) : List Int := (List.range ts.length).map fun k => sgQ k (ts.getD k 0)
theorem sgT_len (ts : List Int) : (sgT ts).length = ts.length := by simp [sgT]
theorem sgT_get {ts : List Int} {k : Nat} (hk : k < ts.length) : (sgT ts).getD k 0 = sgQ k (ts.getD k 0) := by simp [sgT, hk]
theorem sgQ_bd {k : Nat} {q b : Int} (h0 : -b ≤ q) (h1 : q ≤ b) : -b ≤ sgQ k q ∧ sgQ k q ≤ b := by unfold sgQ; split <;> omega
/-- The deviations after a plan. -/
def afterI (zs e ts : List Int) : List Int := allTo zs.length zs (sgT ts) e zs.length
theorem afterI_len (zs e ts : List Int) : (afterI zs e ts).length = zs.length := allTo_len ..
theorem mul_small2 {q x : Int} (q0 : -100 ≤ q) (q1 : q ≤ 100) (x0 : 0 ≤ x) (x1 : x ≤ 20) : -2000 ≤ q * x ∧ q * x ≤ 2000 := by
  have h1 := Int.mul_le_mul_of_nonneg_right q1 x0
  have h2 := Int.mul_le_mul_of_nonneg_right q0 x0
  omega
theorem bdStep2 {B : Int} {n : Nat} {zs : List Int} {p : Nat} {q : Int} {e : List Int} {d : Nat} (h : Bd B zs) (q0 : -100 ≤ q) (q1 : q ≤ 100) (hs : rngB 0 20 e = true) (hd : d < e.length) : Bd (B + 4000) (stepD n zs p q e d) := by
  have hx := rngB_at hs hd
  have hm := mul_small2 q0 q1 hx.1 hx.2
  unfold stepD
  split
  · exact (h.add (C := 2000) hm.1 hm.2).mono (by omega)
  · exact ((h.add (C := 2000) hm.1 hm.2).add (C := 2000) hm.1 hm.2).mono (by omega)
theorem bdTurnTo2 {B : Int} {n : Nat} {zs : List Int} {p : Nat} {q : Int} {e : List Int} (h : Bd B zs) (q0 : -100 ≤ q) (q1 : q ≤ 100) (hs : rngB 0 20 e = true) : ∀ d : Nat, d ≤ e.length → Bd (B + 4000 * d) (turnTo n zs p q e d)
  | 0, _ => h.mono (by omega)
  | d + 1, hd => (bdStep2 (bdTurnTo2 h q0 q1 hs d (by omega)) q0 q1 hs (by omega)).mono (by omega)
theorem bdAllTo2 {B : Int} {n : Nat} {zs ts e : List Int} (h : Bd B zs) (ht : ∀ k, k < ts.length → -100 ≤ ts.getD k 0 ∧ ts.getD k 0 ≤ 100) (hs : rngB 0 20 e = true) (h3 : e.length ≤ 3) : ∀ k : Nat, k ≤ ts.length → Bd (B + 12000 * k) (allTo n zs ts e k)
  | 0, _ => h.mono (by omega)
  | k + 1, hk => by
    have ht2 := ht k (by omega)
    exact (bdTurnTo2 (n := n) (p := k) (bdAllTo2 h ht hs h3 k (by omega)) ht2.1 ht2.2 hs e.length (Nat.le_refl _)).mono (by omega)
theorem sgT_bd {ts : List Int} (h : rngB (-100) 100 ts = true) : ∀ k, k < (sgT ts).length → -100 ≤ (sgT ts).getD k 0 ∧ (sgT ts).getD k 0 ≤ 100 := fun k hk => by
  rw [sgT_len] at hk
  rw [sgT_get hk]
  have := rngB_at h hk
  exact sgQ_bd this.1 this.2
theorem sgT_neg (ts : List Int) : sgT (negI ts) = negI (sgT ts) := by
  refine list_ext' (by rw [sgT_len, negI_len, negI_len, sgT_len]) fun i hi => ?_
  rw [sgT_len, negI_len] at hi
  rw [sgT_get (by rw [negI_len]; exact hi), negI_get, negI_get, sgT_get hi]
  unfold sgQ
  split <;> omega
theorem after_back (zs e ts : List Int) : afterI (afterI zs e ts) e (negI ts) = zs := by
  unfold afterI
  rw [allTo_len, sgT_neg, all_back]
/-- Turning nothing changes nothing. -/
theorem allTo_zero (n : Nat) (zs e : List Int) (ts : List Int) (h : ∀ k, k < ts.length → ts.getD k 0 = 0) : ∀ k, k ≤ ts.length → allTo n zs ts e k = zs
  | 0, _ => rfl
  | k + 1, hk => by rw [allTo, allTo_zero n zs e ts h k (by omega), h k (by omega), turn1_zero]
theorem absI_nonneg (x : Int) : 0 ≤ max x (-x) := by omega
def trueB (zs : List Int) (t : Int) : Bool := zs.all fun x => decide (max x (-x) ≤ t)
theorem trueB_step {t : Int} {zs : List Int} {k : Nat} (hk : k < zs.length) (h : max (zs.getD k 0) (-(zs.getD k 0)) ≤ t) (e : trueB zs t = trueB (zs.drop k) t) : trueB zs t = trueB (zs.drop (k + 1)) t := by
  have h2 : zs.getD k 0 = zs[k] := by simp [hk]
  rw [h2] at h
  rw [e, List.drop_eq_getElem_cons hk]
  unfold trueB
  rw [List.all_cons]
  simp only [h, decide_true, Bool.true_and]
theorem trueB_at {t : Int} {zs : List Int} (h : trueB zs t = true) {k : Nat} (hk : k < zs.length) : max (zs.getD k 0) (-(zs.getD k 0)) ≤ t := by
  have := List.all_eq_true.1 h _ (getD_mem hk)
  simpa using this
theorem trueB_miss {t : Int} {zs : List Int} {k : Nat} (hk : k < zs.length) (h : ¬ max (zs.getD k 0) (-(zs.getD k 0)) ≤ t) : trueB zs t = false := by
  rw [← Bool.not_eq_true]
  exact fun e => h (trueB_at e hk)
theorem trueB_end {t : Int} {zs : List Int} {k : Nat} (hk : zs.length ≤ k) (e : trueB zs t = trueB (zs.drop k) t) : trueB zs t = true := by
  rw [e, List.drop_eq_nil_of_le hk]; rfl
theorem trueB_rng {t : Int} {zs : List Int} (h : trueB zs t = true) (ht : t ≤ 500) : rngB (-500) 500 zs = true := rngB_of fun k hk => by have := trueB_at h hk; omega
def sqTo (zs : List Int) : Nat → Int
  | 0 => 0
  | k + 1 => sqTo zs k + zs.getD k 0 * zs.getD k 0
def sqS (zs : List Int) : Int := sqTo zs zs.length
theorem sq_bd {x B : Int} (h0 : -B ≤ x) (h1 : x ≤ B) : 0 ≤ x * x ∧ x * x ≤ B * B := by
  have hB : 0 ≤ B := by omega
  by_cases hx : 0 ≤ x
  · exact ⟨Int.mul_nonneg hx hx, Int.mul_le_mul h1 h1 hx hB⟩
  · have e : x * x = (-x) * (-x) := by rw [Int.neg_mul_neg]
    rw [e]
    exact ⟨Int.mul_nonneg (by omega) (by omega), Int.mul_le_mul (by omega) (by omega) (by omega) hB⟩
theorem sqTo_bd {B : Int} {zs : List Int} (h : Bd B zs) : ∀ k : Nat, 0 ≤ sqTo zs k ∧ sqTo zs k ≤ B * B * k
  | 0 => by simp [sqTo]
  | k + 1 => by
    have h1 := sqTo_bd h k
    have h2 := sq_bd (h k).1 (h k).2
    rw [sqTo, show B * B * ((k + 1 : Nat) : Int) = B * B * k + B * B by rw [Int.natCast_add, Int.mul_add]; simp]
    omega
/-- Codes. -/
def code8 (zs e : List Int) (t : Int) : Int := if devB zs && effB e then if decide (0 ≤ t) && decide (t ≤ 500) then 0 else 2 else 1
def afterR (zs e ts : List Int) : List Int × Int :=
  if devB zs && effB e then if decide (ts.length = zs.length) && rngB (-100) 100 ts then if devB (afterI zs e ts) then (afterI zs e ts, 0) else ([], 3) else ([], 2) else ([], 1)
def trueR (zs : List Int) (t : Int) : Bool × Int := if devB zs then if decide (0 ≤ t) && decide (t ≤ 500) then (trueB zs t, 0) else (false, 2) else (false, 1)
def undoR (ts : List Int) : List Int × Int := if decide (ts.length ≤ 10) && rngB (-100) 100 ts then (negI ts, 0) else ([], 2)
def dishR (zs : List Int) : Int × Int := if devB zs then (meanI zs, 0) else (0, 1)
/-- The worst place up to k: the first of several. -/
def absAt (zs : List Int) (k : Nat) : Int := max (zs.getD k 0) (-(zs.getD k 0))
def worstTo (zs : List Int) : Nat → Nat
  | 0 => 0
  | k + 1 => if absAt zs (worstTo zs k) < absAt zs k then k else worstTo zs k
theorem worstTo_lt {zs : List Int} (h : 0 < zs.length) : ∀ k, k ≤ zs.length → worstTo zs k < zs.length
  | 0, _ => h
  | k + 1, hk => by
    unfold worstTo
    split
    · omega
    · exact worstTo_lt h k (by omega)
theorem worstTo_ge {zs : List Int} : ∀ k, ∀ i, i < k → absAt zs i ≤ absAt zs (worstTo zs k)
  | 0, i, hi => by omega
  | k + 1, i, hi => by
    unfold worstTo
    split
    · rename_i h
      by_cases e : i = k
      · subst e; exact Int.le_refl _
      · have := worstTo_ge (zs := zs) k i (by omega); omega
    · rename_i h
      by_cases e : i = k
      · subst e; omega
      · exact worstTo_ge (zs := zs) k i (by omega)
def worstR (zs : List Int) : Int × Int := if devB zs then ((worstTo zs zs.length : Nat), 0) else (0, 1)
end Go.Proofs.Ytpcaakmcjdginaa
