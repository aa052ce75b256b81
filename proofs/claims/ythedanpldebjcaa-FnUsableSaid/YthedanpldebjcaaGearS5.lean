/- The model: gears in their order, equal gears, steps, the nearest. -/
import Derived.Test.YthedanpldebjcaaGearS3
namespace Go.Proofs.Ythedanpldebjcaa
open Go.RowKit
section
end
set_option linter.unusedSimpArgs false
set_option linter.unusedVariables false

/-- An answer of rows and a code. -/
def GivesZ (p : List (List Int) × Int) (w : World) (e : Ending) (w' : World) : Prop := Below w.heap.size w w' ∧ ((p.1 = [] ∧ e = .returned (.tuple #[.slice none 0 0, .int .i64 p.2])) ∨ ∃ g cap, e = .returned (.tuple #[.slice (some ⟨g, 0, none⟩) p.1.length cap, .int .i64 p.2]) ∧ OwZ w.heap.size p.1 g cap w')
theorem GivesZ.nil {p : List (List Int) × Int} {z : Int} {w w' : World} (hp : p = ([], z)) (hb : Below w.heap.size w w') : GivesZ p w (.returned (.tuple #[.slice none 0 0, .int .i64 z])) w' := by
  subst hp
  exact ⟨hb, .inl ⟨rfl, rfl⟩⟩
theorem GivesZ.row {p : List (List Int) × Int} {zs : List (List Int)} {w w' : World} {g n cap : Nat} (hp : p = (zs, 0)) (hn : zs.length = n) (h : OwZ w.heap.size zs g cap w') (hb : Below w.heap.size w w') : GivesZ p w (.returned (.tuple #[.slice (some ⟨g, 0, none⟩) n cap, .int .i64 0])) w' := by
  subst hp hn
  exact ⟨hb, .inr ⟨g, cap, rfl, h⟩⟩
theorem OwZ.low {b b1 : Nat} {zs : List (List Int)} {g cap : Nat} {W : World} (h : OwZ b zs g cap W) (hb : b1 ≤ b) : OwZ b1 zs g cap W := by
  obtain ⟨us, o, r⟩ := h.us
  have hO : Ow W b W.heap.size 24 (some ⟨g, 0, none⟩) zs.length cap us := own_top o
  exact ⟨⟨us, (hO.lower hb).1, r⟩⟩
theorem cmpI_zero (x : Trn) (a b : Gr) : cmpI x a b = 0 ↔ sameG x a b = true := by
  unfold cmpI sameG
  rw [decide_eq_true_eq]
  split
  · exact ⟨fun h => by omega, fun h => by omega⟩
  · split
    · exact ⟨fun h => by omega, fun h => by omega⟩
    · exact ⟨fun _ => by omega, fun _ => rfl⟩
/-- A list of rows in the making; the rows lie where it began. -/
structure GatZ (w : World) (zs : List (List Int)) (v : Value) (wr : World) : Prop where
  us : ∃ us, wr.ownsRow w.heap.size 24 1 v zs.length us ∧ RowsZ w us zs
  b : Below w.heap.size w wr
theorem GatZ.start (w : World) : GatZ w [] (.slice (some ⟨w.heap.size, 0, none⟩) 0 0) (w.alloc (.cells #[] 24)) :=
  ⟨⟨[], own_none (Nat.le_refl _), trivial⟩, (Below.refl _ _).alloc (Nat.le_refl _) _⟩
theorem GatZ.below {w wr w1 : World} {zs : List (List Int)} {v : Value} (h : GatZ w zs v wr) (b : Below wr.heap.size wr w1) : GatZ w zs v w1 := by
  obtain ⟨us, r, z⟩ := h.us
  obtain ⟨A, cap, rfl, ho⟩ := row_ow r
  exact ⟨⟨us, (ho.below b (Nat.le_refl _)).1, z⟩, h.b.trans (b.mono h.b.size)⟩
theorem GatZ.step {w wr w3 : World} {zs : List (List Int)} {v v' : Value} {z : List Int} {o : Obj} {us : List Value} {B : Option Addr} {d n : Nat} (hr : wr.ownsRow w.heap.size 24 1 v zs.length us) (hz : RowsZ w us zs) (hb : Below w.heap.size w wr) (hl : Ls z B d w) (hn : z.length = n) (hown : w3.ownsRow w.heap.size 24 1 v' (zs.length + 1) (us ++ [.slice B n d])) (hgrow : (wr.alloc o).grownBy w3 v.ownBlock) : GatZ w (zs ++ [z]) v' w3 := by
  subst hn
  refine ⟨⟨us ++ [.slice B z.length d], by rw [List.length_append]; exact hown, hz.app (RowsZ.one hl)⟩, hb.trans ((((Below.refl w.heap.size wr).alloc hb.size o).grown hgrow (by simp; have := hb.size; omega) fun j ej => ?_))⟩
  rcases hr.2 with ⟨rfl, _⟩ | ⟨g, cap, cur, rfl, hb, _, _⟩
  · simp [Value.ownBlock] at ej
  · obtain rfl : g = j := by simpa [Value.ownBlock] using ej
    exact hb
theorem GatZ.done {w0 w wr : World} {zs : List (List Int)} {v : Value} {p : List (List Int) × Int} (h : GatZ w zs v wr) (hp : p = (zs, 0)) (hb : Below w0.heap.size w0 w) : GivesZ p w0 (.returned (.tuple #[v, .int .i64 0])) wr := by
  subst hp
  obtain ⟨us, r, z⟩ := h.us
  have hb2 := upB hb h.b
  rcases r.2 with ⟨rfl, h0⟩ | ⟨g, cap, cur, rfl, rr⟩
  · have hl := z.len
    have h1 := h.us
    refine ⟨hb2, .inl ⟨?_, rfl⟩⟩
    have h2 := r.1
    have : zs.length = 0 := by simp_all
    exact List.eq_nil_of_length_eq_zero this
  · exact ⟨hb2, .inr ⟨g, cap, rfl, (⟨⟨us, r, z.below h.b⟩⟩ : OwZ w.heap.size zs g cap wr).low hb.size⟩⟩
end Go.Proofs.Ythedanpldebjcaa
