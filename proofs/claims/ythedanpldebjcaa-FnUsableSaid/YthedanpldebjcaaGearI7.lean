/- The program: the order of gears, equal gears. -/
import Derived.Test.YthedanpldebjcaaGearI3
import Derived.Test.YthedanpldebjcaaMgUsable11
import Derived.Test.YthedanpldebjcaaMgUsable10
import Derived.Test.YthedanpldebjcaaEqZ
namespace Go.Proofs.Ythedanpldebjcaa
open Go.RowKit
section
end
set_option linter.unusedSimpArgs false
set_option linter.unusedVariables false

theorem grown_none {w w' : World} {g : Nat} (k : w.grownBy w' none) : w.grownBy w' (some g) := ⟨k.os, k.tape, k.output, k.size, fun i hi ho => k.block i hi (by simp)⟩
theorem Box.grow_any {w w' : World} {q : Nat} {ob : Option Nat} {cs : List Value} (h : Box w q cs) (k : w.grownBy w' ob) (hq : ∀ g, ob = some g → q ≠ g) : Box w' q cs := by
  cases ob with
  | none => exact h.grow (grown_none (g := q + 1) k) (by omega)
  | some g => exact h.grow k (hq g rfl)
def rowP (q : Nat) : Value := .slice (some ⟨q, 0, none⟩) 2 2
/-- Rows of gears in the making, each in a block of its own. -/
structure GatB (w : World) (gs : List Gr) (bs : List Nat) (v : Value) (wr : World) : Prop where
  row : wr.ownsRow w.heap.size 24 1 v gs.length (bs.map rowP)
  len : bs.length = gs.length
  boxes : ∀ i, i < gs.length → Box wr (bs.getD i 0) (ints (rowG (gs.getD i (0, 0))))
  low : ∀ i, i < gs.length → w.heap.size ≤ bs.getD i 0
  apart : ∀ i j, i < gs.length → j < gs.length → i ≠ j → bs.getD i 0 ≠ bs.getD j 0
  own : ∀ g, v.ownBlock = some g → ∀ i, i < gs.length → bs.getD i 0 ≠ g
  b : Below w.heap.size w wr
theorem GatB.nil (w : World) : GatB w [] [] (.slice none 0 0) w :=
  ⟨World.ownsRow_nil _ _ _ _, rfl, fun i h => absurd h (by simp), fun i h => absurd h (by simp), fun i j h => absurd h (by simp), fun g h => by simp [Value.ownBlock] at h, Below.refl _ _⟩
theorem GatB.below {w wr w1 : World} {gs : List Gr} {bs : List Nat} {v : Value} (h : GatB w gs bs v wr) (b : Below wr.heap.size wr w1) : GatB w gs bs v w1 := by
  obtain ⟨A, cap, rfl, ho⟩ := row_ow h.row
  exact ⟨(ho.below b (Nat.le_refl _)).1, h.len, fun i hi => (h.boxes i hi).below b, h.low, h.apart, h.own, h.b.trans (b.mono h.b.size)⟩
theorem getD_app1 {bs : List Nat} {q i : Nat} (h : i < bs.length) : (bs ++ [q]).getD i 0 = bs.getD i 0 := by
  simp only [List.getD_eq_getElem?_getD]
  rw [List.getElem?_append_left h]
theorem getD_app2 {bs : List Nat} {q i : Nat} (h : i = bs.length) : (bs ++ [q]).getD i 0 = q := by
  subst h
  simp
theorem getG_app1 {gs : List Gr} {p : Gr} {i : Nat} (h : i < gs.length) : (gs ++ [p]).getD i (0, 0) = gs.getD i (0, 0) := by
  simp only [List.getD_eq_getElem?_getD]
  rw [List.getElem?_append_left h]
theorem getG_app2 {gs : List Gr} {p : Gr} {i : Nat} (h : i = gs.length) : (gs ++ [p]).getD i (0, 0) = p := by
  subst h
  simp
/-- A row of two more, laid in block q before, is appended. -/
theorem GatB.step {w wr wq w3 : World} {gs : List Gr} {bs : List Nat} {v v' : Value} {p : Gr} {q : Nat} {o : Obj} (h : GatB w gs bs v wr) (bq : Below wr.heap.size wr wq) (hq : wr.heap.size ≤ q) (hx : Box wq q (ints (rowG p)))
    (hown : w3.ownsRow w.heap.size 24 1 v' (gs.length + 1) (bs.map rowP ++ [rowP q])) (hgrow : (wq.alloc o).grownBy w3 v.ownBlock) (hat : v'.ownBlock = v.ownBlock ∨ v'.ownBlock = some (wq.alloc o).heap.size) : GatB w (gs ++ [p]) (bs ++ [q]) v' w3 := by
  have hl := h.len
  have hsz := h.b.size
  have hbs := bq.size
  have hlt : ∀ i, i < gs.length → bs.getD i 0 < wr.heap.size := fun i hi => (h.boxes i hi).lt
  have hvb : ∀ g, v.ownBlock = some g → w.heap.size ≤ g ∧ g < wr.heap.size := fun g e => by
    rcases h.row.2 with ⟨rfl, _⟩ | ⟨g', cap, cur, rfl, hb, hh, _⟩
    · simp [Value.ownBlock] at e
    · obtain rfl : g' = g := by simpa [Value.ownBlock] using e
      exact ⟨hb, (Array.getElem?_eq_some_iff.1 hh).1⟩
  have hso : (wq.alloc o).heap.size = wq.heap.size + 1 := by simp
  have boxes : ∀ i, i < gs.length → Box w3 (bs.getD i 0) (ints (rowG (gs.getD i (0, 0)))) := fun i hi =>
    (((h.boxes i hi).below bq).alloc o).grow_any hgrow (fun g e => h.own g e i hi)
  have boxq : Box w3 q (ints (rowG p)) := (hx.alloc o).grow_any hgrow (fun g e => by have := hvb g e; omega)
  refine ⟨by rw [List.map_append, List.length_append]; exact hown, by simp [hl], fun i hi => ?_, fun i hi => ?_, fun i j hi hj hne => ?_, fun g e i hi => ?_, ?_⟩
  · rw [List.length_append, List.length_singleton] at hi
    rcases Nat.lt_or_ge i gs.length with h1 | h1
    · rw [getD_app1 (by omega), getG_app1 h1]; exact boxes i h1
    · rw [getD_app2 (by omega), getG_app2 (by omega)]; exact boxq
  · rw [List.length_append, List.length_singleton] at hi
    rcases Nat.lt_or_ge i gs.length with h1 | h1
    · rw [getD_app1 (by omega)]; exact h.low i h1
    · rw [getD_app2 (by omega)]; omega
  · rw [List.length_append, List.length_singleton] at hi hj
    rcases Nat.lt_or_ge i gs.length with h1 | h1 <;> rcases Nat.lt_or_ge j gs.length with h2 | h2
    · rw [getD_app1 (by omega), getD_app1 (by omega)]; exact h.apart i j h1 h2 hne
    · rw [getD_app1 (by omega), getD_app2 (by omega)]; have := hlt i h1; omega
    · rw [getD_app2 (by omega), getD_app1 (by omega)]; have := hlt j h2; omega
    · omega
  · rw [List.length_append, List.length_singleton] at hi
    rcases hat with e2 | e2
    · have e3 := e2.symm.trans e
      rcases Nat.lt_or_ge i gs.length with h1 | h1
      · rw [getD_app1 (by omega)]; exact h.own g e3 i h1
      · rw [getD_app2 (by omega)]; have := hvb g e3; omega
    · have e4 : g = (wq.alloc o).heap.size := by have := e2.symm.trans e; injection this with e5; exact e5.symm
      rcases Nat.lt_or_ge i gs.length with h1 | h1
      · rw [getD_app1 (by omega)]; have := hlt i h1; omega
      · rw [getD_app2 (by omega)]; have := hx.lt; omega
  · refine h.b.trans (((bq.mono hsz).alloc (Nat.le_trans hsz hbs) o).trans ?_)
    exact (Below.refl w.heap.size (wq.alloc o)).grown hgrow (by omega) (fun j ej => (hvb j ej).1)
theorem GatB.done {w0 w wr : World} {gs : List Gr} {bs : List Nat} {v : Value} {p : List (List Int) × Int} (h : GatB w gs bs v wr) (hp : p = (rowsG gs, 0)) (hf : gs.length ≤ 36) (hb : Below w0.heap.size w0 w) : GivesG p w0 (.returned (.tuple #[v, .int .i64 0])) wr := by
  subst hp
  obtain ⟨A, cap, rfl, ho⟩ := row_ow h.row
  have hlen : (rowsG gs).length = gs.length := rowsG_len gs
  have hrow : ∀ i, i < gs.length → rowAt (rowsG gs) i = rowG (gs.getD i (0, 0)) := fun i hi => by unfold rowAt; exact rowsG_at hi
  have hl := h.len
  have hsz := hb.size
  obtain ⟨g, hg⟩ : ∃ g, 0 < gs.length → A = some ⟨g, 0, none⟩ ∧ (w0.heap.size ≤ g ∧ g < wr.heap.size) ∧ Box wr g (bs.map rowP) := by
    rcases h.row.2 with ⟨_, e⟩ | ⟨g', cap', cur, hv, hbb, hh, _⟩
    · exact ⟨0, fun h0 => by omega⟩
    · have e : A = some ⟨g', 0, none⟩ := by injection hv with e
      subst e
      exact ⟨g', fun _ => ⟨rfl, ⟨by omega, (Array.getElem?_eq_some_iff.1 hh).1⟩, Box.of_own h.row⟩⟩
  refine ⟨A, cap, fun i => some ⟨bs.getD i 0, 0, none⟩, fun _ => 2, fun i => bs.getD i 0, g, by rw [hlen], ⟨rfl, fun h0 => ?_, fun i hi h0 => ?_, fun i j hi hj hne _ _ => ?_, by rw [hlen]; omega, fun i hi => ?_⟩, upB hb h.b⟩
  · rw [hlen] at h0
    obtain ⟨e, b1, hx⟩ := hg h0
    refine ⟨e, b1, ?_⟩
    have : gcells (rowsG gs) (fun i => some ⟨bs.getD i 0, 0, none⟩) (fun _ => 2) = bs.map rowP := by
      refine ext_cells (by simp [gcells, hlen, hl]) fun i hi => ?_
      have hi2 : i < gs.length := by simpa [gcells, hlen] using hi
      rw [gcells_at _ _ _ (by rw [hlen]; exact hi2), hrow i hi2, List.getElem?_map]
      have hib : i < bs.length := by omega
      simp [hib, rowP, rowG, List.getD]
    rw [this]
    exact hx
  · rw [hlen] at hi
    have hx := h.boxes i hi
    refine ⟨rfl, ⟨by have := h.low i hi; omega, hx.lt, ?_⟩, by rw [hrow i hi]; exact hx⟩
    obtain ⟨e, _, _⟩ := hg (by omega)
    exact h.own g (by rw [e]; simp [Value.ownBlock]) i hi
  · rw [hlen] at hi hj
    exact h.apart i j hi hj hne
  · rw [hlen] at hi
    rw [hrow i hi]
    simp [rowG]
theorem ints_rowG (p : Gr) : ints [(p.1 : Int), (p.2 : Int)] = ints (rowG p) := rfl
theorem GivesG.nil {p : List (List Int) × Int} {z : Int} {w w' : World} (hp : p = ([], z)) (hb : Below w.heap.size w w') : GivesG p w (.returned (.tuple #[.slice none 0 0, .int .i64 z])) w' := by
  subst hp
  exact ⟨none, 0, fun _ => none, fun _ => 0, fun _ => 0, 0, rfl, ⟨rfl, fun h => absurd h (by simp), fun i h => absurd h (by simp), fun i j h => absurd h (by simp), by simp, fun i h => absurd h (by simp)⟩, hb⟩
theorem take_succ_G {L : List Gr} {k : Nat} (h : k < L.length) : L.take (k + 1) = L.take k ++ [L.getD k (0, 0)] := by
  rw [List.take_add_one]
  simp [List.getD, h]
end Go.Proofs.Ythedanpldebjcaa
