/- What a law keeps while it calls: two boxed intervals, and all that was there before. -/
import Derived.Test.YtcknknicknolaabDoorLawIv
import Derived.Deep.RegionHeld3
import Derived.Deep.DeepCutAuto
namespace Go.Proofs.YtcknknicknolaabDoor
open Go.RowKit

theorem keep4 {u W w1 : World} {k : Nat} {a b c d : Int} (hb : Below W.heap.size W w1) (h : W.cell? ⟨k, 0, none⟩ = some (.int .i64 a) ∧ W.cell? ⟨k, 1, none⟩ = some (.int .i64 b) ∧ W.cell? ⟨k + 1, 0, none⟩ = some (.int .i64 c) ∧ W.cell? ⟨k + 1, 1, none⟩ = some (.int .i64 d) ∧ k + 1 < W.heap.size ∧ Below u.heap.size u W) : w1.cell? ⟨k, 0, none⟩ = some (.int .i64 a) ∧ w1.cell? ⟨k, 1, none⟩ = some (.int .i64 b) ∧ w1.cell? ⟨k + 1, 0, none⟩ = some (.int .i64 c) ∧ w1.cell? ⟨k + 1, 1, none⟩ = some (.int .i64 d) ∧ k + 1 < w1.heap.size ∧ Below u.heap.size u w1 := by
  obtain ⟨h0, h1, h2, h3, hz, hu⟩ := h
  have hk : k < W.heap.size := by omega
  exact ⟨(hb.cell (p := ⟨k, 0, none⟩) hk).trans h0, (hb.cell (p := ⟨k, 1, none⟩) hk).trans h1, (hb.cell (p := ⟨k + 1, 0, none⟩) hz).trans h2, (hb.cell (p := ⟨k + 1, 1, none⟩) hz).trans h3, Nat.lt_of_lt_of_le hz hb.size, up hu hb⟩
theorem keep4h {u W w1 : World} {k : Nat} {a b c d : Int} (hb : Below W.heap.size W w1) (h : Hid (W.cell? ⟨k, 0, none⟩ = some (.int .i64 a) ∧ W.cell? ⟨k, 1, none⟩ = some (.int .i64 b) ∧ W.cell? ⟨k + 1, 0, none⟩ = some (.int .i64 c) ∧ W.cell? ⟨k + 1, 1, none⟩ = some (.int .i64 d) ∧ k + 1 < W.heap.size ∧ Below u.heap.size u W)) : w1.cell? ⟨k, 0, none⟩ = some (.int .i64 a) ∧ w1.cell? ⟨k, 1, none⟩ = some (.int .i64 b) ∧ w1.cell? ⟨k + 1, 0, none⟩ = some (.int .i64 c) ∧ w1.cell? ⟨k + 1, 1, none⟩ = some (.int .i64 d) ∧ k + 1 < w1.heap.size ∧ Below u.heap.size u w1 := keep4 hb h.out
theorem set4 {u W : World} {k q : Nat} {a b c d : Int} {x y : Value} (h : W.cell? ⟨k, 0, none⟩ = some (.int .i64 a) ∧ W.cell? ⟨k, 1, none⟩ = some (.int .i64 b) ∧ W.cell? ⟨k + 1, 0, none⟩ = some (.int .i64 c) ∧ W.cell? ⟨k + 1, 1, none⟩ = some (.int .i64 d) ∧ k + 1 < W.heap.size ∧ Below u.heap.size u W) (hp : k + 1 < q) (hk : u.heap.size ≤ q) :
    ((W.setCell ⟨q, 0, none⟩ x).setCell ⟨q, 1, none⟩ y).cell? ⟨k, 0, none⟩ = some (.int .i64 a) ∧ ((W.setCell ⟨q, 0, none⟩ x).setCell ⟨q, 1, none⟩ y).cell? ⟨k, 1, none⟩ = some (.int .i64 b) ∧ ((W.setCell ⟨q, 0, none⟩ x).setCell ⟨q, 1, none⟩ y).cell? ⟨k + 1, 0, none⟩ = some (.int .i64 c) ∧ ((W.setCell ⟨q, 0, none⟩ x).setCell ⟨q, 1, none⟩ y).cell? ⟨k + 1, 1, none⟩ = some (.int .i64 d) ∧ k + 1 < ((W.setCell ⟨q, 0, none⟩ x).setCell ⟨q, 1, none⟩ y).heap.size ∧ Below u.heap.size u ((W.setCell ⟨q, 0, none⟩ x).setCell ⟨q, 1, none⟩ y) := by
  obtain ⟨h0, h1, h2, h3, hz, hu⟩ := h
  refine ⟨?_, ?_, ?_, ?_, by simpa [World.setCell] using hz, (hu.setCell (p := ⟨q, 0, none⟩) (show u.heap.size ≤ q from hk) x).setCell (p := ⟨q, 1, none⟩) (show u.heap.size ≤ q from hk) y⟩
  · rw [World.cell?_setCell_other _ _ _ _ (by simp <;> omega), World.cell?_setCell_other _ _ _ _ (by simp <;> omega)]; exact h0
  · rw [World.cell?_setCell_other _ _ _ _ (by simp <;> omega), World.cell?_setCell_other _ _ _ _ (by simp <;> omega)]; exact h1
  · rw [World.cell?_setCell_other _ _ _ _ (by simp <;> omega), World.cell?_setCell_other _ _ _ _ (by simp <;> omega)]; exact h2
  · rw [World.cell?_setCell_other _ _ _ _ (by simp <;> omega), World.cell?_setCell_other _ _ _ _ (by simp <;> omega)]; exact h3
theorem set4h {u W V : World} {k : Nat} {a b c d : Int} {x y : Value} (h : W.cell? ⟨k, 0, none⟩ = some (.int .i64 a) ∧ W.cell? ⟨k, 1, none⟩ = some (.int .i64 b) ∧ W.cell? ⟨k + 1, 0, none⟩ = some (.int .i64 c) ∧ W.cell? ⟨k + 1, 1, none⟩ = some (.int .i64 d) ∧ k + 1 < W.heap.size ∧ Below u.heap.size u W) (hp : Hid (V.cell? ⟨k, 0, none⟩ = some (.int .i64 a) ∧ V.cell? ⟨k, 1, none⟩ = some (.int .i64 b) ∧ V.cell? ⟨k + 1, 0, none⟩ = some (.int .i64 c) ∧ V.cell? ⟨k + 1, 1, none⟩ = some (.int .i64 d) ∧ k + 1 < V.heap.size ∧ Below u.heap.size u V)) :
    ((W.setCell ⟨V.heap.size, 0, none⟩ x).setCell ⟨V.heap.size, 1, none⟩ y).cell? ⟨k, 0, none⟩ = some (.int .i64 a) ∧ ((W.setCell ⟨V.heap.size, 0, none⟩ x).setCell ⟨V.heap.size, 1, none⟩ y).cell? ⟨k, 1, none⟩ = some (.int .i64 b) ∧ ((W.setCell ⟨V.heap.size, 0, none⟩ x).setCell ⟨V.heap.size, 1, none⟩ y).cell? ⟨k + 1, 0, none⟩ = some (.int .i64 c) ∧ ((W.setCell ⟨V.heap.size, 0, none⟩ x).setCell ⟨V.heap.size, 1, none⟩ y).cell? ⟨k + 1, 1, none⟩ = some (.int .i64 d) ∧ k + 1 < ((W.setCell ⟨V.heap.size, 0, none⟩ x).setCell ⟨V.heap.size, 1, none⟩ y).heap.size ∧ Below u.heap.size u ((W.setCell ⟨V.heap.size, 0, none⟩ x).setCell ⟨V.heap.size, 1, none⟩ y) := set4 h hp.out.2.2.2.2.1 hp.out.2.2.2.2.2.size
/-- A pointer to an answer. -/
def PtrTo (x y : Int) (s : Value) (W : World) : Prop := ∃ q : Nat, s = .pointer (some ⟨q, 0, none⟩) ∧ W.cell? ⟨q, 0, none⟩ = some (.int .i64 x) ∧ W.cell? ⟨q, 1, none⟩ = some (.int .i64 y) ∧ q < W.heap.size
theorem PtrTo.below {x y : Int} {s : Value} {W w1 : World} (h : PtrTo x y s W) (hb : Below W.heap.size W w1) : PtrTo x y s w1 := by
  obtain ⟨q, e, h0, h1, hq⟩ := h
  exact ⟨q, e, (hb.cell (p := ⟨q, 0, none⟩) hq).trans h0, (hb.cell (p := ⟨q, 1, none⟩) hq).trans h1, Nat.lt_of_lt_of_le hq hb.size⟩
theorem PtrTo.new {x y : Int} {W : World} {t : TypeId} : PtrTo x y (.pointer (some ⟨W.heap.size, 0, none⟩)) (W.alloc (.cells #[.int .i64 x, .int .i64 y] t)) :=
  ⟨W.heap.size, rfl, by simp [go_sem], by simp [go_sem], by simp⟩
theorem PtrTo.set {x y : Int} {q : Nat} {W : World} (h0 : ∃ v, W.cell? ⟨q, 0, none⟩ = some v) (h1 : ∃ v, W.cell? ⟨q, 1, none⟩ = some v) (hq : q < W.heap.size) :
    PtrTo x y (.pointer (some ⟨q, 0, none⟩)) ((W.setCell ⟨q, 0, none⟩ (.int .i64 x)).setCell ⟨q, 1, none⟩ (.int .i64 y)) := by
  obtain ⟨v0, h0⟩ := h0
  obtain ⟨v1, h1⟩ := h1
  refine ⟨q, rfl, ?_, ?_, by simpa [World.setCell] using hq⟩
  · rw [World.cell?_setCell_other _ _ _ _ (by simp)]
    exact World.cell?_setCell_same _ _ _ h0
  · refine World.cell?_setCell_same _ _ _ (u := v1) ?_
    rw [World.cell?_setCell_other _ _ _ _ (by simp)]
    exact h1
end Go.Proofs.YtcknknicknolaabDoor
