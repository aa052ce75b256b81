/- Rides in numbers: wear, changes, and the least life. No program. -/
import Derived.KernelRfl
namespace Go.Proofs.Ytbjoekbgejfebaa
set_option linter.unusedSimpArgs false
set_option linter.unusedVariables false

/-- A ride: its day, its length, whether it is wet. -/
structure Rid where
  day : Int
  tens : Int
  wet : Bool
deriving DecidableEq, Inhabited
def rid0 : Rid := ⟨0, 0, false⟩
def wearOne (r : Rid) : Int := if r.wet then 3 * r.tens else r.tens
def wears (xs : List Rid) : List Int := xs.map wearOne
def okRide (r : Rid) : Bool := decide (0 ≤ r.day) && decide (r.day ≤ 100000) && decide (1 ≤ r.tens) && decide (r.tens ≤ 10000)
/-- From a day on: rides that don't go back. -/
def okFrom : Int → List Rid → Bool
  | _, [] => true
  | d, r :: xs => decide (d ≤ r.day) && okRide r && okFrom r.day xs
def ridesB (xs : List Rid) : Bool := decide (xs.length ≤ 40) && okFrom 0 xs

theorem okFrom_iff : ∀ {xs : List Rid} {d : Int}, okFrom d xs = true ↔ (∀ k, k < xs.length → okRide (xs.getD k rid0) = true ∧ (if k = 0 then d else (xs.getD (k - 1) rid0).day) ≤ (xs.getD k rid0).day)
  | [], d => by simp [okFrom]
  | r :: xs, d => by
    simp only [okFrom, Bool.and_eq_true, decide_eq_true_eq, okFrom_iff (xs := xs) (d := r.day), List.length_cons]
    constructor
    · rintro ⟨⟨h1, h2⟩, h3⟩ k hk
      match k with
      | 0 => exact ⟨h2, by simpa using h1⟩
      | 1 =>
        have := h3 0 (by omega)
        simpa using this
      | k + 2 =>
        have := h3 (k + 1) (by omega)
        simpa using this
    · intro h
      refine ⟨⟨by simpa using (h 0 (by omega)).2, by simpa using (h 0 (by omega)).1⟩, ?_⟩
      intro k hk
      have := h (k + 1) (by omega)
      match k with
      | 0 => simpa using this
      | k + 1 => simpa using this
/-- The rides are rides, place by place. -/
theorem ridesB_iff {xs : List Rid} : ridesB xs = true ↔ xs.length ≤ 40 ∧ ∀ k, k < xs.length → okRide (xs.getD k rid0) = true ∧ (0 < k → (xs.getD (k - 1) rid0).day ≤ (xs.getD k rid0).day) := by
  unfold ridesB
  rw [Bool.and_eq_true, decide_eq_true_eq, okFrom_iff]
  refine and_congr_right fun _ => forall_congr' fun k => forall_congr' fun hk => and_congr_right fun h1 => ?_
  by_cases h0 : k = 0
  · subst h0
    simp only [okRide, Bool.and_eq_true, decide_eq_true_eq] at h1
    rw [if_pos rfl]
    exact ⟨fun _ h => absurd h (by omega), fun _ => h1.1.1.1⟩
  · rw [if_neg h0]
    exact ⟨fun h _ => h, fun h => h (by omega)⟩
theorem okRide_rng {r : Rid} (h : okRide r = true) : (0 ≤ r.day ∧ r.day ≤ 100000) ∧ 1 ≤ r.tens ∧ r.tens ≤ 10000 ∧ 1 ≤ wearOne r ∧ wearOne r ≤ 30000 := by
  simp only [okRide, Bool.and_eq_true, decide_eq_true_eq] at h
  unfold wearOne
  split <;> omega
theorem okFrom_all : ∀ {xs : List Rid} {d : Int}, okFrom d xs = true → ∀ r ∈ xs, okRide r = true ∧ d ≤ r.day
  | r :: xs, d, h, a, ha => by
    simp only [okFrom, Bool.and_eq_true, decide_eq_true_eq] at h
    rcases List.mem_cons.1 ha with rfl | ha
    · exact ⟨h.1.2, h.1.1⟩
    · obtain ⟨h1, h2⟩ := okFrom_all h.2 a ha
      exact ⟨h1, by omega⟩
theorem rides_all {xs : List Rid} (h : ridesB xs = true) : ∀ r ∈ xs, okRide r = true := fun r hr => (okFrom_all (Bool.and_eq_true .. ▸ h).2 r hr).1
theorem rides_at {xs : List Rid} (h : ridesB xs = true) {k : Nat} (hk : k < xs.length) : okRide (xs.getD k rid0) = true := ((ridesB_iff.1 h).2 k hk).1
theorem rides_mono {xs : List Rid} (h : ridesB xs = true) {i : Nat} : ∀ {k : Nat}, i ≤ k → k < xs.length → (xs.getD i rid0).day ≤ (xs.getD k rid0).day
  | 0, hi, _ => by
    rw [show i = 0 by omega]
    exact Int.le_refl _
  | k + 1, hi, hk => by
    by_cases e : i = k + 1
    · subst e; exact Int.le_refl _
    · have h1 := rides_mono h (show i ≤ k by omega) (by omega)
      have h2 := ((ridesB_iff.1 h).2 (k + 1) hk).2 (by omega)
      simp only [Nat.add_sub_cancel] at h2
      omega
/-- Neighbours of rides are rides. -/
theorem rides_part {xs : List Rid} (h : ridesB xs = true) (a b : Nat) : ridesB ((xs.drop a).take b) = true := by
  obtain ⟨h1, h2⟩ := ridesB_iff.1 h
  refine ridesB_iff.2 ⟨by simp; omega, fun k hk => ?_⟩
  simp only [List.length_take, List.length_drop] at hk
  have e : ∀ j, j ≤ k → ((xs.drop a).take b).getD j rid0 = xs.getD (a + j) rid0 := fun j hj => by
    simp [List.getD, List.getElem?_take, List.getElem?_drop, show j < b by omega]
  rw [e k (Nat.le_refl _)]
  refine ⟨(h2 (a + k) (by omega)).1, fun h0 => ?_⟩
  rw [e (k - 1) (by omega), show a + (k - 1) = a + k - 1 by omega]
  exact (h2 (a + k) (by omega)).2 (by omega)
theorem rides_snoc {xs : List Rid} {r : Rid} (h : ridesB xs = true) : ridesB (xs ++ [r]) = true ↔ xs.length < 40 ∧ okRide r = true ∧ ∀ l, xs.getLast? = some l → l.day ≤ r.day := by
  obtain ⟨h1, h2⟩ := ridesB_iff.1 h
  rw [ridesB_iff]
  constructor
  · rintro ⟨a, b⟩
    simp only [List.length_append, List.length_cons, List.length_nil] at a
    have hb := b xs.length (by simp)
    have e : (xs ++ [r]).getD xs.length rid0 = r := by simp [List.getD]
    rw [e] at hb
    refine ⟨by omega, hb.1, fun l hl => ?_⟩
    have hne : xs ≠ [] := by rintro rfl; simp at hl
    have hp := List.length_pos_iff.2 hne
    have := hb.2 hp
    rw [show (xs ++ [r]).getD (xs.length - 1) rid0 = l by
      rw [List.getLast?_eq_getElem?] at hl
      simp [List.getD, List.getElem?_append_left (show xs.length - 1 < xs.length by omega), hl]] at this
    exact this
  · rintro ⟨a, b, c⟩
    refine ⟨by simp; omega, fun k hk => ?_⟩
    simp only [List.length_append, List.length_cons, List.length_nil] at hk
    by_cases e : k = xs.length
    · subst e
      have e1 : (xs ++ [r]).getD xs.length rid0 = r := by simp [List.getD]
      rw [e1]
      refine ⟨b, fun h0 => ?_⟩
      have := c (xs.getD (xs.length - 1) rid0) (by rw [List.getLast?_eq_getElem?]; simp [List.getD, List.getElem?_eq_getElem (show xs.length - 1 < xs.length by omega)])
      simpa [List.getD, List.getElem?_append_left (show xs.length - 1 < xs.length by omega)] using this
    · have e1 : ∀ j, j < xs.length → (xs ++ [r]).getD j rid0 = xs.getD j rid0 := fun j hj => by simp [List.getD, List.getElem?_append_left hj]
      rw [e1 k (by omega)]
      refine ⟨(h2 k (by omega)).1, fun h0 => ?_⟩
      rw [e1 (k - 1) (by omega)]
      exact (h2 k (by omega)).2 h0

/-- The changes: from the wear w of the part and the index i on. -/
def chg (L : Int) : Int → Nat → List Int → List Int × Int
  | w, _, [] => ([], w)
  | w, i, x :: xs => if L ≤ w + x then ((i : Int) :: (chg L 0 (i + 1) xs).1, (chg L 0 (i + 1) xs).2) else chg L (w + x) (i + 1) xs
def cnt (L : Int) : Int → List Int → Nat
  | _, [] => 0
  | w, x :: xs => if L ≤ w + x then cnt L 0 xs + 1 else cnt L (w + x) xs
theorem chg_len (L : Int) : ∀ (w : Int) (i : Nat) (xs : List Int), (chg L w i xs).1.length = cnt L w xs
  | w, i, [] => rfl
  | w, i, x :: xs => by
    unfold chg cnt
    split
    · simp [chg_len L 0 (i + 1) xs]
    · exact chg_len L (w + x) (i + 1) xs
theorem cnt_le (L : Int) : ∀ (w : Int) (xs : List Int), cnt L w xs ≤ xs.length
  | w, [] => Nat.le_refl _
  | w, x :: xs => by
    unfold cnt
    simp only [List.length_cons]
    split
    · have := cnt_le L 0 xs; omega
    · have := cnt_le L (w + x) xs; omega
/-- The more life, the fewer changes. -/
theorem cnt_mono2 {L M : Int} (hLM : L ≤ M) : ∀ (xs : List Int), (∀ x ∈ xs, 0 ≤ x) → ∀ w v : Int, 0 ≤ w → (v ≤ w → cnt M v xs ≤ cnt L w xs) ∧ cnt M v xs ≤ cnt L w xs + 1
  | [], _, w, v, _ => by simp [cnt]
  | x :: xs, hx, w, v, hw => by
    have h0 : 0 ≤ x := hx x (by simp)
    have ih := cnt_mono2 hLM xs fun y hy => hx y (by simp [hy])
    have a := ih 0 0 (by omega)
    have b := ih 0 (v + x) (by omega)
    have c := ih (w + x) 0 (by omega)
    have d := ih (w + x) (v + x) (by omega)
    have a1 := a.1 (by omega)
    have c1 := c.1 (by omega)
    unfold cnt
    constructor
    · intro hv
      have d1 := d.1 (by omega)
      split <;> split <;> omega
    · split <;> split <;> omega
theorem cnt_mono {L M : Int} (hLM : L ≤ M) {xs : List Int} (hx : ∀ x ∈ xs, 0 ≤ x) : cnt M 0 xs ≤ cnt L 0 xs := (cnt_mono2 hLM xs hx 0 0 (by omega)).1 (by omega)
/-- The sum from place i on of k rides. -/
def win (xs : List Int) (i k : Nat) : Int := ((xs.drop i).take (k - i)).sum
theorem cnt_gap {L : Int} {all : List Int} : ∀ (xs : List Int) (i n : Nat), all.drop n = xs → i ≤ n → (∀ k, n < k → k ≤ all.length → ∀ i, i ≤ k → win all i k ≠ L) → cnt L (win all i n) xs = cnt (L + 1) (win all i n) xs
  | [], i, n, _, _, _ => rfl
  | x :: xs, i, n, e, hi, h => by
    have hn : n < all.length := by
      rcases Nat.lt_or_ge n all.length with h | h
      · exact h
      · rw [List.drop_eq_nil_of_le h] at e; simp at e
    have e2 : all.drop (n + 1) = xs := by rw [← List.drop_drop, e]; rfl
    have hx : all[n] = x := by
      have := List.drop_eq_getElem_cons hn
      rw [e] at this
      exact (List.cons.inj this).1.symm
    have hw : ∀ i, i ≤ n → win all i (n + 1) = win all i n + x := fun i hi => by
      unfold win
      rw [show n + 1 - i = (n - i) + 1 by omega, List.take_succ_eq_append_getElem (by simp; omega)]
      simp [show i + (n - i) = n by omega, hx]
    have h1 := h (n + 1) (by omega) (by omega) i (by omega)
    rw [hw i hi] at h1
    have w0 : win all (n + 1) (n + 1) = 0 := by simp [win]
    have ih1 := cnt_gap xs (n + 1) (n + 1) e2 (by omega) fun k hk => h k (by omega)
    have ih2 := cnt_gap xs i (n + 1) e2 (by omega) fun k hk => h k (by omega)
    rw [w0] at ih1
    rw [hw i hi] at ih2
    unfold cnt
    by_cases q : L ≤ win all i n + x
    · rw [if_pos q, if_pos (by omega), ih1]
    · rw [if_neg q, if_neg (by omega), ih2]
/-- The least life with at most c changes. -/
def isLeast (xs : List Int) (c l : Int) : Prop := 1 ≤ l ∧ (cnt l 0 xs : Int) ≤ c ∧ (l = 1 ∨ c < (cnt (l - 1) 0 xs : Int))
theorem isLeast_le {xs : List Int} (hx : ∀ x ∈ xs, 0 ≤ x) {c l m : Int} (h : isLeast xs c l) (hm : 1 ≤ m) (hc : (cnt m 0 xs : Int) ≤ c) : l ≤ m := by
  obtain ⟨h1, h2, h3⟩ := h
  rcases h3 with rfl | h3
  · exact hm
  · rcases Int.lt_or_le m l with q | q
    · have := cnt_mono (show m ≤ l - 1 by omega) hx
      omega
    · exact q
theorem isLeast_one {xs : List Int} (hx : ∀ x ∈ xs, 0 ≤ x) {c l m : Int} (h : isLeast xs c l) (h2 : isLeast xs c m) : l = m :=
  Int.le_antisymm (isLeast_le hx h h2.1 h2.2.1) (isLeast_le hx h2 h.1 h.2.1)
theorem isLeast_win {xs : List Int} {c l : Int} (h : isLeast xs c l) : l = 1 ∨ ∃ i k, i ≤ k ∧ k ≤ xs.length ∧ win xs i k + 1 = l := by
  obtain ⟨h1, h2, h3⟩ := h
  rcases h3 with h3 | h3
  · exact .inl h3
  · refine .inr (Classical.byContradiction fun hn => ?_)
    have := cnt_gap (L := l - 1) (all := xs) xs 0 0 rfl (Nat.le_refl _) fun k _ hk i hi e => hn ⟨i, k, hi, hk, by omega⟩
    simp only [win, Nat.sub_self, List.drop_zero, List.take_zero, List.sum_nil] at this
    rw [show l - 1 + 1 = l by omega] at this
    omega
theorem cnt_none {L : Int} : ∀ {xs : List Int} {w : Int}, (∀ x ∈ xs, 0 ≤ x) → w + xs.sum < L → cnt L w xs = 0
  | [], _, _, _ => rfl
  | x :: xs, w, hx, h => by
    simp only [List.sum_cons] at h
    have h0 := hx x (by simp)
    have hs : 0 ≤ xs.sum := by
      have : ∀ ys : List Int, (∀ x ∈ ys, 0 ≤ x) → 0 ≤ ys.sum := fun ys => by
        induction ys with
        | nil => simp
        | cons y ys ih => intro hy; simp only [List.sum_cons]; have := ih fun z hz => hy z (by simp [hz]); have := hy y (by simp); omega
      exact this xs fun y hy => hx y (by simp [hy])
    unfold cnt
    rw [if_neg (by omega)]
    exact cnt_none (fun y hy => hx y (by simp [hy])) (by omega)
/-- There always is one, and not above the sum of all and 1. -/
theorem isLeast_ex {xs : List Int} (hx : ∀ x ∈ xs, 0 ≤ x) {c : Int} (hc : 0 ≤ c) : ∃ l, isLeast xs c l ∧ l ≤ xs.sum + 1 := by
  have key : ∀ (n : Nat) (m : Int), m = n + 1 → (cnt m 0 xs : Int) ≤ c → ∃ l, isLeast xs c l ∧ l ≤ m := by
    intro n
    induction n with
    | zero => intro m hm h; exact ⟨m, ⟨by omega, h, .inl (by omega)⟩, Int.le_refl _⟩
    | succ n ih =>
      intro m hm h
      by_cases q : c < (cnt (m - 1) 0 xs : Int)
      · exact ⟨m, ⟨by omega, h, .inr q⟩, Int.le_refl _⟩
      · obtain ⟨l, h1, h2⟩ := ih (m - 1) (by omega) (by omega)
        exact ⟨l, h1, by omega⟩
  have hs : 0 ≤ xs.sum := by
    have : ∀ ys : List Int, (∀ x ∈ ys, 0 ≤ x) → 0 ≤ ys.sum := fun ys => by
      induction ys with
      | nil => simp
      | cons y ys ih => intro hy; simp only [List.sum_cons]; have := ih fun z hz => hy z (by simp [hz]); have := hy y (by simp); omega
    exact this xs hx
  refine key xs.sum.toNat (xs.sum + 1) (by omega) ?_
  rw [cnt_none hx (by omega)]
  exact hc
end Go.Proofs.Ytbjoekbgejfebaa
