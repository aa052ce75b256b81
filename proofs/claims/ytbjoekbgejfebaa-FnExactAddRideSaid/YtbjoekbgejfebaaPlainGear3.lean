/- Gears in memory: four numbers for each; an insertion from behind, in numbers. No program. -/
import Derived.Test.YtbjoekbgejfebaaPlainGearU
import Derived.Test.YtbjoekbgejfebaaTenB
namespace Go.Proofs.Ytbjoekbgejfebaa
open Go.RowKit
set_option linter.unusedSimpArgs false
set_option linter.unusedVariables false

def gearC (x : Trn) (g : Gr) : List Value := [.int .i64 g.1, .int .i64 g.2, .int .i64 (fI x g.1), .int .i64 (rI x g.2)]
def cellsG (x : Trn) (gs : List Gr) : List Value := gs.flatMap (gearC x)
theorem cellsG_len (x : Trn) : ∀ gs : List Gr, (cellsG x gs).length = gs.length * 4
  | [] => rfl
  | g :: t => by
    have := cellsG_len x t
    unfold cellsG at *
    rw [List.flatMap_cons, List.length_append, this, List.length_cons]
    show 4 + _ = _
    omega
theorem cellsG_app (x : Trn) (us vs : List Gr) : cellsG x (us ++ vs) = cellsG x us ++ cellsG x vs := by simp [cellsG]
theorem cellsG_at {x : Trn} : ∀ {gs : List Gr} {i c : Nat}, i < gs.length → c < 4 → (cellsG x gs)[i * 4 + c]? = (gearC x (gs.getD i (0, 0)))[c]?
  | [], i, _, hi, _ => absurd hi (by simp)
  | g :: t, 0, c, _, hc => by
    unfold cellsG
    rw [List.flatMap_cons, Nat.zero_mul, Nat.zero_add, List.getElem?_append_left (by show c < 4; exact hc)]
    rfl
  | g :: t, i + 1, c, hi, hc => by
    have ih := cellsG_at (x := x) (gs := t) (i := i) (c := c) (by simpa using hi) hc
    unfold cellsG at *
    rw [List.flatMap_cons, List.getElem?_append_right (by show 4 ≤ _; omega)]
    show (List.flatMap (gearC x) t)[(i + 1) * 4 + c - 4]? = _
    rw [show (i + 1) * 4 + c - 4 = i * 4 + c by omega, ih]
    rfl
theorem ext_cells {xs ys : List Value} (hl : xs.length = ys.length) (h : ∀ j, j < xs.length → xs[j]? = ys[j]?) : xs = ys := by
  apply List.ext_getElem?
  intro i
  rcases Nat.lt_or_ge i xs.length with hi | hi
  · exact h i hi
  · rw [List.getElem?_eq_none hi, List.getElem?_eq_none (by omega)]
theorem cellsG_set {x : Trn} {gs : List Gr} {k : Nat} {g : Gr} (hk : k < gs.length) :
    ((((cellsG x gs).set (k * 4) (.int .i64 g.1)).set (k * 4 + 1) (.int .i64 g.2)).set (k * 4 + 2) (.int .i64 (fI x g.1))).set (k * 4 + 3) (.int .i64 (rI x g.2)) = cellsG x (gs.set k g) := by
  refine ext_cells (by simp [cellsG_len]) fun j hj => ?_
  simp only [List.length_set, cellsG_len] at hj
  have hjl : (cellsG x gs).length = gs.length * 4 := cellsG_len x gs
  obtain ⟨i, c, rfl, hc⟩ : ∃ i c, j = i * 4 + c ∧ c < 4 := ⟨j / 4, j % 4, by omega, by omega⟩
  have hi : i < gs.length := by omega
  rw [cellsG_at (by rw [List.length_set]; exact hi) hc]
  by_cases e : i = k
  · subst e
    have hg : (gs.set i g).getD i (0, 0) = g := by simp [List.getD, hi]
    rw [hg]
    have h4 : c = 0 ∨ c = 1 ∨ c = 2 ∨ c = 3 := by omega
    rcases h4 with rfl | rfl | rfl | rfl
    · rw [List.getElem?_set_ne (by omega), List.getElem?_set_ne (by omega), List.getElem?_set_ne (by omega), Nat.add_zero, List.getElem?_set_self (by omega)]; rfl
    · rw [List.getElem?_set_ne (by omega), List.getElem?_set_ne (by omega), List.getElem?_set_self (by simp only [List.length_set]; omega)]; rfl
    · rw [List.getElem?_set_ne (by omega), List.getElem?_set_self (by simp only [List.length_set]; omega)]; rfl
    · rw [List.getElem?_set_self (by simp only [List.length_set]; omega)]; rfl
  · have hg : (gs.set k g).getD i (0, 0) = gs.getD i (0, 0) := by
      simp only [List.getD_eq_getElem?_getD]
      rw [List.getElem?_set_ne (by omega)]
    rw [hg, List.getElem?_set_ne (by omega), List.getElem?_set_ne (by omega), List.getElem?_set_ne (by omega), List.getElem?_set_ne (by omega), cellsG_at hi hc]
theorem leG_trans {x : Trn} {a b c : Gr} (ha : 0 ≤ rI x a.2) (hb : 0 < rI x b.2) (hc : 0 ≤ rI x c.2) (h1 : leG x a b) (h2 : leG x b c) : leG x a c := by
  unfold leG at *
  have k1 := Int.mul_le_mul_of_nonneg_right h1 hc
  have k2 := Int.mul_le_mul_of_nonneg_right h2 ha
  refine Int.le_of_mul_le_mul_left (a := rI x b.2) ?_ hb
  have e1 : rI x b.2 * (fI x a.1 * rI x c.2) = fI x a.1 * rI x b.2 * rI x c.2 := by
    rw [Int.mul_comm, Int.mul_assoc, Int.mul_assoc, Int.mul_comm (rI x c.2)]
  have e2 : rI x b.2 * (fI x c.1 * rI x a.2) = fI x c.1 * rI x b.2 * rI x a.2 := by
    rw [Int.mul_comm, Int.mul_assoc, Int.mul_assoc, Int.mul_comm (rI x a.2)]
  have e3 : fI x b.1 * rI x c.2 * rI x a.2 = fI x b.1 * rI x a.2 * rI x c.2 := by
    rw [Int.mul_assoc, Int.mul_comm (rI x c.2), ← Int.mul_assoc]
  rw [e1, e2]
  omega
theorem ins_split {x : Trn} {g : Gr} : ∀ {P1 P2 : List Gr}, (∀ p ∈ P1, leG x p g) → (∀ q, P2.head? = some q → ¬ leG x q g) → ins x g (P1 ++ P2) = P1 ++ g :: P2
  | [], [], _, _ => rfl
  | [], q :: t, _, h2 => by
    have := h2 q rfl
    show ins x g (q :: t) = _
    unfold ins
    rw [if_neg this]
    rfl
  | p :: t, P2, h1, h2 => by
    have ih := ins_split (x := x) (g := g) (P1 := t) (P2 := P2) (fun q hq => h1 q (List.mem_cons_of_mem _ hq)) h2
    show ins x g (p :: (t ++ P2)) = _
    unfold ins
    rw [if_pos (h1 p (List.mem_cons_self ..)), ih]
    rfl
theorem UpG.tail {x : Trn} {a : Gr} : ∀ {t : List Gr}, UpG x (a :: t) → UpG x t
  | [], _ => trivial
  | _ :: _, h => h.2
/-- Gears with sprockets above 0. -/
def Pos (x : Trn) (gs : List Gr) : Prop := ∀ q ∈ gs, 0 < rI x q.2
theorem UpG.head_le {x : Trn} : ∀ {t : List Gr} {a : Gr}, UpG x (a :: t) → Pos x (a :: t) → ∀ q ∈ t, leG x a q
  | [], _, _, _, q, hq => by simp at hq
  | b :: t, a, h, hp, q, hq => by
    rcases List.mem_cons.1 hq with rfl | hq
    · exact h.1
    · have h2 := UpG.head_le (t := t) (a := b) h.2 (fun q hq => hp q (List.mem_cons_of_mem _ hq)) q hq
      exact leG_trans (Int.le_of_lt (hp a (by simp))) (hp b (by simp)) (Int.le_of_lt (hp q (by simp [hq]))) h.1 h2
theorem UpG.le_mid {x : Trn} {p : Gr} {r : List Gr} : ∀ {l : List Gr}, UpG x (l ++ p :: r) → Pos x (l ++ p :: r) → ∀ q ∈ l, leG x q p
  | [], _, _, q, hq => by simp at hq
  | a :: l, h, hp, q, hq => by
    rcases List.mem_cons.1 hq with rfl | hq
    · exact UpG.head_le h hp p (by simp)
    · exact UpG.le_mid (l := l) (UpG.tail h) (fun q hq => hp q (by simp only [List.cons_append]; exact List.mem_cons_of_mem _ hq)) q hq
/-- A gear on its way into those ahead of it: k of them are still ahead. -/
def InS (x : Trn) (P R : List Gr) (g : Gr) (k : Nat) (gs : List Gr) : Prop := ∃ P1 P2, P = P1 ++ P2 ∧ P1.length = k ∧ gs = P1 ++ g :: (P2 ++ R) ∧ ∀ q, P2.head? = some q → ¬ leG x q g
theorem InS.start (x : Trn) (P R : List Gr) (g : Gr) : InS x P R g P.length (P ++ g :: R) := ⟨P, [], by simp, rfl, by simp, by simp⟩
theorem InS.len {x : Trn} {P R : List Gr} {g : Gr} {k : Nat} {gs : List Gr} (h : InS x P R g k gs) : gs.length = P.length + R.length + 1 ∧ k ≤ P.length := by
  obtain ⟨P1, P2, rfl, rfl, rfl, -⟩ := h
  simp
  omega
theorem InS.at_ {x : Trn} {P R : List Gr} {g : Gr} {k : Nat} {gs : List Gr} (h : InS x P R g k gs) : gs.getD k (0, 0) = g := by
  obtain ⟨P1, P2, rfl, rfl, rfl, -⟩ := h
  simp
theorem InS.prev {x : Trn} {P R : List Gr} {g : Gr} {k : Nat} {gs : List Gr} (h : InS x P R g k gs) (hk : 0 < k) : gs.getD (k - 1) (0, 0) ∈ P := by
  obtain ⟨P1, P2, rfl, rfl, rfl, -⟩ := h
  have : (P1 ++ g :: (P2 ++ R)).getD (P1.length - 1) (0, 0) = P1.getD (P1.length - 1) (0, 0) := by
    simp only [List.getD_eq_getElem?_getD]
    rw [List.getElem?_append_left (by omega)]
  rw [this]
  exact List.mem_append_left _ (mem_getD (by omega))
theorem InS.step {x : Trn} {P R : List Gr} {g : Gr} {k : Nat} {gs : List Gr} (h : InS x P R g k gs) (hk : 0 < k) (hn : ¬ leG x (gs.getD (k - 1) (0, 0)) g) : InS x P R g (k - 1) ((gs.set k (gs.getD (k - 1) (0, 0))).set (k - 1) g) := by
  obtain ⟨P1, P2, rfl, rfl, rfl, hq⟩ := h
  rcases List.eq_nil_or_concat P1 with rfl | ⟨P1, p, rfl⟩
  · simp at hk
  · have hl : (P1 ++ [p]).length = P1.length + 1 := by simp
    have e : ((P1 ++ [p]) ++ g :: (P2 ++ R)).getD ((P1 ++ [p]).length - 1) (0, 0) = p := by
      rw [hl, Nat.add_sub_cancel]
      simp
    rw [List.concat_eq_append] at *
    rw [e] at hn ⊢
    refine ⟨P1, p :: P2, by simp, by simp, ?_, fun q h => ?_⟩
    · rw [hl, Nat.add_sub_cancel, List.append_assoc]
      simp [List.set_append]
    · have : p = q := by simpa using h
      subst this
      exact hn
theorem InS.done {x : Trn} {P R : List Gr} {g : Gr} {k : Nat} {gs : List Gr} (h : InS x P R g k gs) (hu : UpG x P) (hp : Pos x P) (hg : 0 < rI x g.2) (hk : 0 < k → leG x (gs.getD (k - 1) (0, 0)) g) : gs = ins x g P ++ R := by
  obtain ⟨P1, P2, rfl, rfl, rfl, hq⟩ := h
  rw [ins_split (fun p h1 => ?_) hq]
  · simp
  · rcases List.eq_nil_or_concat P1 with rfl | ⟨P1, t, rfl⟩
    · simp at h1
    · rw [List.concat_eq_append] at *
      have hl : (P1 ++ [t]).length = P1.length + 1 := by simp
      have e : ((P1 ++ [t]) ++ g :: (P2 ++ R)).getD ((P1 ++ [t]).length - 1) (0, 0) = t := by
        rw [hl, Nat.add_sub_cancel]
        simp
      have ht := hk (by omega)
      rw [e] at ht
      rcases List.mem_append.1 h1 with h1 | h1
      · rw [List.append_assoc] at hu hp
        have := UpG.le_mid (l := P1) (p := t) (r := P2) hu hp p h1
        exact leG_trans (Int.le_of_lt (hp p (by simp [h1]))) (hp t (by simp)) (Int.le_of_lt hg) this ht
      · have : p = t := by simpa using h1
        subst this
        exact ht
/-- What is asked of two gears: does the first one come before the second? -/
def beforeB (x : Trn) (g o : Gr) : Bool := decide (fI x g.1 * rI x o.2 < rI x g.2 * fI x o.1) || (decide (fI x g.1 * rI x o.2 = rI x g.2 * fI x o.1) && decide ((g.1 : Int) < o.1))
theorem beforeB_iff {x : Trn} {g o : Gr} (h : o.1 ≤ g.1) : beforeB x g o = true ↔ ¬ leG x o g := by
  have hn : ¬ (g.1 : Int) < o.1 := by omega
  unfold beforeB leG
  rw [decide_eq_false hn, Bool.and_false, Bool.or_false, decide_eq_true_eq, Int.mul_comm (fI x o.1)]
  omega
theorem nthG_mono {x : Trn} {i j : Nat} (h : i ≤ j) : (nthG x i).1 ≤ (nthG x j).1 := Nat.div_le_div_right h
theorem allG_len (x : Trn) (m : Nat) : (allG x m).length = m := by simp [allG]
theorem allG_succ (x : Trn) (m : Nat) : allG x (m + 1) = allG x m ++ [nthG x m] := by
  unfold allG
  rw [List.range_succ, List.map_append]
  rfl
theorem allG_drop {x : Trn} {m i : Nat} (h : i < m) : (allG x m).drop i = nthG x i :: (allG x m).drop (i + 1) := by
  rw [List.drop_eq_getElem_cons (by rw [allG_len]; exact h)]
  simp [allG]
theorem ordTo_before {x : Trn} {i : Nat} {p : Gr} (h : p ∈ ordTo x i) : p.1 ≤ (nthG x i).1 := by
  have := (ordTo_perm x i).mem_iff.1 h
  obtain ⟨j, hj, rfl⟩ := List.mem_map.1 this
  exact nthG_mono (by have := List.mem_range.1 hj; omega)
/-- Behind i rounds. -/
def sortTo (x : Trn) (m i : Nat) : List Gr := ordTo x i ++ (allG x m).drop i
theorem sortTo_zero (x : Trn) (m : Nat) : sortTo x m 0 = allG x m := rfl
theorem sortTo_end (x : Trn) (m : Nat) : sortTo x m m = ordTo x m := by
  unfold sortTo
  rw [List.drop_eq_nil_of_le (by rw [allG_len]; exact Nat.le_refl _), List.append_nil]
theorem sortTo_len {x : Trn} {m i : Nat} (h : i ≤ m) : (sortTo x m i).length = m := by
  unfold sortTo
  rw [List.length_append, ordTo_len, List.length_drop, allG_len]
  omega
theorem sortTo_in {x : Trn} {m i : Nat} (h : i < m) : InS x (ordTo x i) ((allG x m).drop (i + 1)) (nthG x i) i (sortTo x m i) := by
  have := InS.start x (ordTo x i) ((allG x m).drop (i + 1)) (nthG x i)
  rw [ordTo_len, ← allG_drop h] at this
  exact this
theorem sortTo_next {x : Trn} (hx : Train x) {m i k : Nat} (hm : m ≤ x.f.length * x.r.length) (h : i < m) {gs : List Gr} (hs : InS x (ordTo x i) ((allG x m).drop (i + 1)) (nthG x i) k gs) (hk : 0 < k → leG x (gs.getD (k - 1) (0, 0)) (nthG x i)) : gs = sortTo x m (i + 1) := by
  refine hs.done (ordTo_up x i) (fun q hq => ?_) ?_ hk
  · have := hx.rb (ordTo_ok (by omega) hq)
    omega
  · have := hx.rb (nthG_ok (x := x) (k := i) (by omega))
    omega
end Go.Proofs.Ytbjoekbgejfebaa
