/- Draws: what stays, and an empty list of one's own. -/
import Derived.Test.YthedanpldebjcaaDraw2
import Derived.Deep.RegionHeld3
namespace Go.Proofs.Ythedanpldebjcaa
open Go.RowKit
theorem keepAlloc (w : World) (g : Nat) (o : Obj) : Keep g (g + 1) w (w.alloc o) := Keep.of_below ((Below.refl w.heap.size w).alloc (Nat.le_refl _) o) (Nat.le_refl _) _ _
theorem Src.below' {w w' : World} {g B : Nat} {A : Option Addr} {n cap : Nat} {bs : List Int} (h : Src w g A n cap bs) (hb : Below B w w') (hB : g < B) : Src w' g A n cap bs := by
  have hc : ∀ j, w'.cell? ⟨g, j, none⟩ = w.cell? ⟨g, j, none⟩ := fun j => World.cell?_of_block (hb.block g hB)
  refine ⟨Nat.lt_of_lt_of_le h.lt hb.size, (hc 0).trans h.code, ?_, ?_, fun j => ?_, h.rd.below hb (by omega), h.small, h.many⟩
  · obtain ⟨k, hk, hp⟩ := h.place
    exact ⟨k, hk, (hc 1).trans hp⟩
  · obtain ⟨z, h0, h1, hp⟩ := h.seed
    exact ⟨z, h0, h1, (hc 2).trans hp⟩
  · have := h.free j
    simp only [World.frozen?] at this ⊢
    rw [hb.block g hB]
    exact this
theorem Keep.then_below {w w1 w2 : World} {g : Nat} (h : Keep g (g + 1) w w1) (hb : Below w.heap.size w1 w2) : Keep g (g + 1) w w2 :=
  ⟨hb.os.trans h.os, hb.tape.trans h.tape, hb.output.trans h.output, Nat.le_trans h.size hb.size, fun k hk ho => (hb.block k hk).trans (h.block k hk ho)⟩

theorem own_empty' {w : World} {base g : Nat} {t : TypeId} (hg : w.heap.size = g) (hb : base ≤ g) : (w.alloc (.cells #[] t)).ownsRow base t 1 (.slice (some ⟨g, 0, none⟩) 0 0) 0 [] := by
  subst hg
  exact ⟨rfl, .inr ⟨w.heap.size, 0, #[], rfl, hb, heap_alloc_new w _, Nat.le_refl _, Nat.zero_le _, rfl, rfl⟩⟩

theorem Keep.setNew {w w' : World} {lo hi : Nat} (h : Keep lo hi w w') {p : Addr} (hp : w.heap.size ≤ p.block) (u : Value) : Keep lo hi w (w'.setCell p u) :=
  ⟨h.os, h.tape, h.output, by simpa [World.setCell] using h.size, fun k hk ho => (Below.heap_setCell _ _ _ _ (by omega)).trans (h.block k hk ho)⟩
theorem Src.other {w : World} {g : Nat} {A : Option Addr} {n cap : Nat} {bs : List Int} (h : Src w g A n cap bs) {p : Addr} (hp : g < p.block) (u : Value) : Src (w.setCell p u) g A n cap bs := by
  have hk : Keep p.block (p.block + 1) w (w.setCell p u) := (Keep.refl _ _ w).setCell (Nat.le_refl _) (Nat.lt_succ_self _) u
  have hb : ∀ k, k < w.heap.size → k ≤ g → (w.setCell p u).heap[k]? = w.heap[k]? := fun k h1 h2 => hk.block k h1 (.inl (by omega))
  have hc : ∀ j, (w.setCell p u).cell? ⟨g, j, none⟩ = w.cell? ⟨g, j, none⟩ := fun j => World.cell?_of_block (hb g h.lt (Nat.le_refl _))
  refine ⟨Nat.lt_of_lt_of_le h.lt hk.size, (hc 0).trans h.code, ?_, ?_, fun j => ?_, h.rd.of_blocks fun k _ q => hb k (by have := h.lt; omega) (by omega), h.small, h.many⟩
  · obtain ⟨k, hk, hp⟩ := h.place
    exact ⟨k, hk, (hc 1).trans hp⟩
  · obtain ⟨z, h0, h1, hp⟩ := h.seed
    exact ⟨z, h0, h1, (hc 2).trans hp⟩
  · have := h.free j
    simp only [World.frozen?] at this ⊢
    rw [hb g h.lt (Nat.le_refl _)]
    exact this

end Go.Proofs.Ythedanpldebjcaa
