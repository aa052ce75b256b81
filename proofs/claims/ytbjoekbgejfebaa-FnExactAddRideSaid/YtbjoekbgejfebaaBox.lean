/- A block of cells that is the call's own to write: what it holds, through stores, calls and new blocks. No program. -/
import Derived.Test.YtbjoekbgejfebaaMem
import Derived.WalkKit
import Derived.Deep.Cut
namespace Go.Proofs.Ytbjoekbgejfebaa
open Go.RowKit

/-- The block q holds the cells cs, and may be written. -/
structure Box (w : World) (q : Nat) (cs : List Value) : Prop where
  at_ : ∀ k v, cs[k]? = some v → w.cell? ⟨q, k, none⟩ = some v
  fr : ∀ j, w.frozen? ⟨q, j, none⟩ = false
  lt : q < w.heap.size
theorem Box.new {w : World} {cs : Array Value} {t : TypeId} {q : Nat} {l : List Value} (hq : q = w.heap.size) (hl : l = cs.toList) : Box (w.alloc (.cells cs t)) q l := by
  subst hq
  subst hl
  have hh := heap_alloc_new w (.cells cs t)
  refine ⟨fun k v hv => ?_, fun j => ?_, by simp⟩
  · simp only [World.cell?, hh, Option.isSome_none, Bool.false_eq_true, if_false]
    simpa using hv
  · simp only [World.frozen?, hh]
    simp
theorem Box.below {w w1 : World} {q : Nat} {cs : List Value} (h : Box w q cs) (hb : Below w.heap.size w w1) : Box w1 q cs :=
  ⟨fun k v hv => (hb.cell (p := ⟨q, k, none⟩) h.lt).trans (h.at_ k v hv), fun j => (hb.frozen (p := ⟨q, j, none⟩) h.lt).trans (h.fr j), Nat.lt_of_lt_of_le h.lt hb.size⟩
theorem Box.alloc {w : World} {q : Nat} {cs : List Value} (h : Box w q cs) (o : Obj) : Box (w.alloc o) q cs := h.below ((Below.refl _ _).alloc (Nat.le_refl _) o)
theorem Box.drewN {w : World} {q : Nat} {cs : List Value} (h : Box w q cs) (m : Nat) : Box (w.drewN m) q cs := ⟨h.at_, h.fr, h.lt⟩
theorem Box.drew {w : World} {q : Nat} {cs : List Value} (h : Box w q cs) : Box w.drew q cs := ⟨h.at_, h.fr, h.lt⟩
theorem Box.keep {w w1 : World} {q lo hi : Nat} {cs : List Value} (h : Box w q cs) (hk : Keep lo hi w w1) (ho : q < lo ∨ hi ≤ q) : Box w1 q cs := by
  have hb := hk.block q h.lt ho
  refine ⟨fun k v hv => (World.cell?_of_block hb).trans (h.at_ k v hv), fun j => ?_, Nat.lt_of_lt_of_le h.lt hk.size⟩
  have := h.fr j
  simp only [World.frozen?] at this ⊢
  rw [hb]
  exact this
theorem Box.set {w : World} {q k : Nat} {cs : List Value} (h : Box w q cs) (v : Value) (hk : k < cs.length) : Box (w.setCell ⟨q, k, none⟩ v) q (cs.set k v) := by
  refine ⟨fun j u hu => ?_, fun j => ?_, by simpa [World.setCell] using h.lt⟩
  · by_cases hj : j = k
    · subst hj
      have : u = v := by simpa [hk] using hu.symm
      subst this
      exact World.cell?_setCell_same _ _ _ (h.at_ j cs[j] (by simp))
    · rw [World.cell?_setCell_other _ _ _ _ (by simp <;> omega)]
      exact h.at_ j u (by rwa [List.getElem?_set_ne (by omega)] at hu)
  · rw [World.frozen?_setCell]; exact h.fr j
theorem Box.other {w : World} {q : Nat} {cs : List Value} (h : Box w q cs) {p : Addr} (hp : p.block ≠ q) (v : Value) : Box (w.setCell p v) q cs := by
  have hk : Keep p.block (p.block + 1) w (w.setCell p v) := (Keep.refl _ _ w).setCell (Nat.le_refl _) (Nat.lt_succ_self _) v
  exact h.keep hk (by omega)
/-- Forget how the world came about. -/
theorem wp_gen {P : Program} {c : Code} {Q : Exit → Act → World → Prop} {a : Act} {W : World} {R : World → Prop} (h : R W) (k : ∀ w', R w' → Code.wp P c Q a w') : Code.wp P c Q a W := k W h
theorem wpl_gen {P : Program} {A : Array Oper} {Q : Exit → Act → World → Prop} {L : List Oper} {a : Act} {W : World} {R : World → Prop} (h : R W) (k : ∀ w', R w' → wpList P A Q L a w') : wpList P A Q L a W := k W h
theorem calls_gen {P : Program} {f : FuncId} {args : Array Value} {Q : Ending → World → Prop} {W : World} {R : World → Prop} (h : R W) (k : ∀ w', R w' → Calls P f args w' Q) : Calls P f args W Q := k W h
end Go.Proofs.Ytbjoekbgejfebaa
