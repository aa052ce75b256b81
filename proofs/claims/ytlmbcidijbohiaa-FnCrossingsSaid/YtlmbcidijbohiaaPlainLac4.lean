/- Lacings stay lacings; what is done twice changes nothing. No program. -/
import Derived.Test.YtlmbcidijbohiaaPlainLac3
import Derived.Test.YtlmbcidijbohiaaLacI2
namespace Go.Proofs.Ytlmbcidijbohiaa
open Go.RowKit

theorem nd_ne {zs : List Int} (h : zs.Nodup) {a b : Nat} (ha : a < zs.length) (hb : b < zs.length) (hab : a ≠ b) : zs.getD a 0 ≠ zs.getD b 0 := by
  have ea : zs.getD a 0 = zs[a] := by simp [ha]
  have eb : zs.getD b 0 = zs[b] := by simp [hb]
  rw [ea, eb]
  rcases Nat.lt_or_ge a b with hlt | hge
  · exact List.pairwise_iff_getElem.1 h a b ha hb hlt
  · exact fun e => List.pairwise_iff_getElem.1 h b a hb ha (by omega) e.symm
/-- A list whose numbers are those of a lacing at places that are all different. -/
theorem Lac.of {n : Int} {zs ys : List Int} (h : Lac n zs) (hl : ys.length = zs.length) (f : Nat → Nat) (F : Int → Int) (hf : ∀ i, i < zs.length → f i < zs.length) (inj : ∀ i j, i < zs.length → j < zs.length → f i = f j → i = j)
    (hF : ∀ x, 0 ≤ x → x < n → 0 ≤ F x ∧ F x < n) (iF : ∀ x y, 0 ≤ x → x < n → 0 ≤ y → y < n → F x = F y → x = y) (hy : ∀ i, i < zs.length → ys.getD i 0 = F (zs.getD (f i) 0)) : Lac n ys := by
  have hg : ∀ i (hi : i < ys.length), ys[i] = F (zs.getD (f i) 0) := fun i hi => by
    have := hy i (by omega)
    simpa [hi] using this
  refine ⟨h.ok, by rw [hl]; exact h.len, fun x hx => ?_, List.pairwise_iff_getElem.2 fun i j hi hj hij => ?_⟩
  · obtain ⟨i, hi, rfl⟩ := List.getElem_of_mem hx
    rw [hg i hi]
    have := h.in0 (hf i (by omega))
    exact hF _ this.1 this.2
  · rw [hg i hi, hg j hj]
    intro e
    have a := h.in0 (hf i (by omega))
    have b := h.in0 (hf j (by omega))
    have := iF _ _ a.1 a.2 b.1 b.2 e
    exact nd_ne h.nd (hf i (by omega)) (hf j (by omega)) (fun e2 => absurd (inj i j (by omega) (by omega) e2) (by omega)) this

theorem usual_all : (([6, 8, 10, 12, 16, 18, 20, 24] : List Nat).all fun n => (List.range (n / 2)).all fun c => decide (Lac (n : Int) (usualI n c))) = true := by decide +kernel
theorem usual_lac {n c : Int} (h : holes6 n = true) (h0 : 0 ≤ c) (h1 : c ≤ n / 2 - 1) : Lac n (usualI n c) := by
  have hb := holes6_bd h
  obtain ⟨m, rfl⟩ := Int.eq_ofNat_of_zero_le (show 0 ≤ n by omega)
  obtain ⟨k, rfl⟩ := Int.eq_ofNat_of_zero_le h0
  have hm : m ∈ ([6, 8, 10, 12, 16, 18, 20, 24] : List Nat) := by
    simp [holes6] at h
    simp
    omega
  have h2 := List.all_eq_true.1 usual_all m hm
  have h3 := List.all_eq_true.1 h2 k (by simp; omega)
  exact of_decide_eq_true h3

def swapAt (k l i : Nat) : Nat := if i = l then k else if i = k then l else i
theorem swap_get {zs : List Int} {k l i : Nat} (hi : i < zs.length) : (swapI zs k l).getD i 0 = zs.getD (swapAt k l i) 0 := by
  unfold swapI swapAt
  simp only [List.getD, List.getElem?_set, List.length_set]
  by_cases h1 : i = l
  · subst h1; simp [hi]
  · rw [if_neg (fun e => h1 e.symm), if_neg h1]
    by_cases h2 : i = k
    · subst h2; simp [hi]
    · rw [if_neg (fun e => h2 e.symm), if_neg h2]
theorem swapAt_lt {m k l i : Nat} (hk : k < m) (hl : l < m) (hi : i < m) : swapAt k l i < m := by
  unfold swapAt; split
  · exact hk
  · split <;> omega
theorem swapAt_inv (k l i : Nat) : swapAt k l (swapAt k l i) = i := by
  unfold swapAt
  by_cases h1 : i = l
  · subst h1; simp
  · by_cases h2 : i = k
    · subst h2; simp [h1]
    · simp [h1, h2]
theorem swap_lac {n : Int} {zs : List Int} {k l : Nat} (h : Lac n zs) (hk : k < zs.length) (hl : l < zs.length) : Lac n (swapI zs k l) :=
  h.of (swapI_len _ _ _) (swapAt k l) id (fun i hi => swapAt_lt hk hl hi) (fun i j _ _ e => by rw [← swapAt_inv k l i, e, swapAt_inv]) (fun x a b => ⟨a, b⟩) (fun x y _ _ _ _ e => e) (fun i hi => swap_get hi)
theorem list_ext {xs ys : List Int} (hl : xs.length = ys.length) (h : ∀ i, i < xs.length → xs.getD i 0 = ys.getD i 0) : xs = ys := by
  apply List.ext_getElem hl
  intro i h1 h2
  have := h i h1
  simpa [h1, h2] using this
theorem swap_swap {zs : List Int} {k l : Nat} (hk : k < zs.length) (hl : l < zs.length) : swapI (swapI zs k l) k l = zs := by
  apply list_ext (by rw [swapI_len, swapI_len])
  intro i hi
  rw [swapI_len, swapI_len] at hi
  rw [swap_get (by rw [swapI_len]; exact hi), swap_get (swapAt_lt hk hl hi), swapAt_inv]
theorem mirror_get {n : Int} {zs : List Int} {i : Nat} (hi : i < zs.length) : (mirrorI n zs).getD i 0 = (- zs.getD (mirrorAt zs.length i) 0) % n := by
  simp [mirrorI, hi]
theorem neg_mod {n x : Int} (h0 : 0 ≤ x) (h1 : x < n) : (-x) % n = if x = 0 then 0 else n - x := by
  by_cases h : x = 0
  · subst h; simp
  · rw [if_neg h, ← Int.add_emod_right]
    rw [show -x + n = n - x by omega]
    exact Int.emod_eq_of_lt (by omega) (by omega)
theorem mirror_lac {n : Int} {zs : List Int} (h : Lac n zs) : Lac n (mirrorI n zs) := by
  have hr := h.rim
  have hl := h.len
  have hpos : 0 < zs.length := by have := hr.lo; omega
  refine h.of (mirrorI_len _ _) (mirrorAt zs.length) (fun x => (-x) % n) (fun i hi => mirrorAt_lt hpos) (fun i j hi hj e => by rw [← mirrorAt_inv hi, e, mirrorAt_inv hj]) (fun x a b => ?_) (fun x y a b c d e => ?_) (fun i hi => mirror_get hi)
  · show 0 ≤ (-x) % n ∧ (-x) % n < n
    rw [neg_mod a b]; split <;> omega
  · rw [neg_mod a b, neg_mod c d] at e
    by_cases hx : x = 0 <;> by_cases hy : y = 0 <;> simp [hx, hy] at e <;> omega
theorem mirror_mirror {n : Int} {zs : List Int} (h : Lac n zs) : mirrorI n (mirrorI n zs) = zs := by
  have hr := h.rim
  have hpos : 0 < zs.length := by have := hr.lo; have := h.len; omega
  apply list_ext (by rw [mirrorI_len, mirrorI_len])
  intro i hi
  rw [mirrorI_len, mirrorI_len] at hi
  rw [mirror_get (by rw [mirrorI_len]; exact hi), mirrorI_len, mirror_get (mirrorAt_lt hpos), mirrorAt_inv hi]
  obtain ⟨a, b⟩ := h.in0 hi
  rw [neg_mod a b]
  by_cases hx : zs.getD i 0 = 0
  · rw [if_pos hx, hx]; simp
  · rw [if_neg hx, neg_mod (by omega) (by omega), if_neg (by omega)]; omega
theorem rot_get {n r : Int} {zs : List Int} {i : Nat} (hi : i < zs.length) : (rotI n r zs).getD i 0 = (zs.getD i 0 + r) % n := by
  simp [rotI, hi]
theorem add_mod {n x r : Int} (h0 : 0 ≤ x) (h1 : x < n) (r0 : 0 ≤ r) (r1 : r < n) : (x + r) % n = if x + r < n then x + r else x + r - n := by
  by_cases h : x + r < n
  · rw [if_pos h]; exact Int.emod_eq_of_lt (by omega) h
  · rw [if_neg h, ← Int.sub_emod_right]
    exact Int.emod_eq_of_lt (by omega) (by omega)
theorem rot_lac {n r : Int} {zs : List Int} (h : Lac n zs) (r0 : 0 ≤ r) (r1 : r < n) : Lac n (rotI n r zs) := by
  refine h.of (rotI_len _ _ _) id (fun x => (x + r) % n) (fun i hi => hi) (fun i j _ _ e => e) (fun x a b => ?_) (fun x y a b c d e => ?_) (fun i hi => rot_get hi)
  · show 0 ≤ (x + r) % n ∧ (x + r) % n < n
    rw [add_mod a b r0 r1]; split <;> omega
  · rw [add_mod a b r0 r1, add_mod c d r0 r1] at e
    split at e <;> split at e <;> omega
theorem rot_back {n r : Int} {zs : List Int} (h : Lac n zs) (r0 : 0 ≤ r) (r1 : r < n) : rotI n ((n - r) % n) (rotI n r zs) = zs := by
  apply list_ext (by rw [rotI_len, rotI_len])
  intro i hi
  rw [rotI_len, rotI_len] at hi
  rw [rot_get (by rw [rotI_len]; exact hi), rot_get hi]
  obtain ⟨a, b⟩ := h.in0 hi
  rw [add_mod a b r0 r1]
  have hnr : (n - r) % n = if r = 0 then 0 else n - r := by
    by_cases h0 : r = 0
    · subst h0; simp
    · rw [if_neg h0]; exact Int.emod_eq_of_lt (by omega) (by omega)
  rw [hnr]
  by_cases h0 : r = 0
  · subst h0
    simp only [if_true, Int.add_zero]
    rw [if_pos b]; exact Int.emod_eq_of_lt a b
  · rw [if_neg h0]
    by_cases h1 : zs.getD i 0 + r < n
    · rw [if_pos h1, add_mod (by omega) h1 (by omega) (by omega), if_neg (by omega)]; omega
    · rw [if_neg h1, add_mod (by omega) (by omega) (by omega) (by omega), if_pos (by omega)]; omega
theorem rot_zero {n : Int} {zs : List Int} (h : Lac n zs) : rotI n 0 zs = zs := by
  apply list_ext (rotI_len _ _ _)
  intro i hi
  rw [rotI_len] at hi
  rw [rot_get hi, Int.add_zero]
  obtain ⟨a, b⟩ := h.in0 hi
  exact Int.emod_eq_of_lt a b
/-- Crossing is mutual. -/
theorem cross_sym {n : Int} {zs : List Int} (hn : (zs.length : Int) = n) {k l : Nat} (hk : k < zs.length) (hl : l < zs.length) (h : k ≠ l) : crossB n zs k l = crossB n zs l k := by
  have e1 := behind_mod (n := n) (k := k) (l := l) (by omega) (by omega) (fun e => h e.symm)
  have e2 := behind_mod (n := n) (k := l) (l := k) (by omega) (by omega) h
  unfold crossB crossD
  rw [e1, e2, Bool.eq_iff_iff]
  simp only [Bool.or_eq_true, decide_eq_true_eq]
  by_cases hlt : k < l
  · rw [if_pos hlt, if_neg (by omega)]; omega
  · rw [if_neg hlt, if_pos (by omega)]; omega
theorem pairs_even (C : Nat → Nat → Bool) : ∀ m : Nat, (∀ a b, a < m → b < m → a ≠ b → C a b = C b a) → (((List.range m).map fun k => (List.range m).countP fun l => decide (l ≠ k) && C k l).sum) % 2 = 0
  | 0, _ => rfl
  | m + 1, h => by
    have ih := pairs_even C m fun a b ha hb hab => h a b (by omega) (by omega) hab
    have e : ((List.range m).map fun k => (List.range (m + 1)).countP fun l => decide (l ≠ k) && C k l) = (List.range m).map fun k => ((List.range m).countP fun l => decide (l ≠ k) && C k l) + if C k m then 1 else 0 := by
      apply List.map_congr_left
      intro k hk
      have : k < m := by simpa using hk
      rw [List.range_succ, List.countP_append]
      have : m ≠ k := by omega
      simp [this]
    have e2 : ((List.range (m + 1)).countP fun l => decide (l ≠ m) && C m l) = (List.range m).countP fun l => C l m := by
      rw [List.range_succ, List.countP_append]
      have : (List.range m).countP (fun l => decide (l ≠ m) && C m l) = (List.range m).countP fun l => C l m := by
        apply List.countP_congr
        intro l hl
        have hlm : l < m := by simpa using hl
        have hne : l ≠ m := by omega
        rw [h l m (by omega) (by omega) hne]
        simp [hne]
      rw [this]
      simp
    have e3 : ∀ (f g : Nat → Nat) (L : List Nat), (L.map fun k => f k + g k).sum = (L.map f).sum + (L.map g).sum := fun f g L => by
      induction L with
      | nil => rfl
      | cons a L ih => simp only [List.map_cons, List.sum_cons, ih]; omega
    have e4 : ∀ L : List Nat, (L.map fun k => if C k m then 1 else 0).sum = L.countP fun l => C l m := fun L => by
      induction L with
      | nil => rfl
      | cons a L ih => simp only [List.map_cons, List.sum_cons, ih, List.countP_cons]; omega
    rw [show ((List.range (m + 1)).map fun k => (List.range (m + 1)).countP fun l => decide (l ≠ k) && C k l) = ((List.range m).map fun k => (List.range (m + 1)).countP fun l => decide (l ≠ k) && C k l) ++ [(List.range (m + 1)).countP fun l => decide (l ≠ m) && C m l] by rw [List.range_succ, List.map_append]; rfl]
    rw [List.sum_append, e, e2, e3, e4]
    simp only [List.sum_cons, List.sum_nil]
    omega
/-- All crossings together, counted from both sides. -/
def sumTo (n : Int) (zs : List Int) (j : Nat) : Nat := ((List.range j).map (countAt n zs)).sum
theorem sumTo_succ (n : Int) (zs : List Int) (j : Nat) : sumTo n zs (j + 1) = sumTo n zs j + countAt n zs j := by simp [sumTo, List.range_succ]
theorem sum_even {n : Int} {zs : List Int} (hn : (zs.length : Int) = n) : sumTo n zs zs.length % 2 = 0 :=
  pairs_even (crossB n zs) zs.length fun a b ha hb hab => cross_sym hn ha hb hab
theorem shift_law {n k x : Int} (hn : 0 < n) : (k + shiftI n k x - x) % n = 0 := by
  unfold shiftI
  have h := Int.emod_add_mul_ediv (x - k + n / 2) n
  have e : k + ((x - k + n / 2) % n - n / 2) - x = n * (-((x - k + n / 2) / n)) := by
    rw [Int.mul_neg]; omega
  rw [e]
  exact Int.mul_emod_right _ _
end Go.Proofs.Ytlmbcidijbohiaa
