/- Draws of trains: what is held on the way. -/
import Derived.Test.YthedanpldebjcaaDrawList
import Derived.Test.YthedanpldebjcaaBox
import Derived.Test.YthedanpldebjcaaGearS1
namespace Go.Proofs.Ythedanpldebjcaa
open Go.RowKit
set_option linter.unusedSimpArgs false
set_option linter.unusedVariables false

theorem Ow.block1 {w : World} {lo hi n g cap : Nat} {t : TypeId} {xs : List Value} (h : Ow w lo hi t (some ⟨g, 0, none⟩) n cap xs) : Ow w g (g + 1) t (some ⟨g, 0, none⟩) n cap xs := by
  refine ⟨⟨h.1.1, ?_⟩, fun g' e => ?_⟩
  · rcases h.1.2 with ⟨e, _⟩ | ⟨g', cap', cur, hv, hg, r⟩
    · injection e with e1; cases e1
    · have e : g' = g := by injection hv with e1; injection e1 with e2; injection e2 with e3; exact e3.symm
      subst e
      exact .inr ⟨g', cap', cur, hv, Nat.le_refl _, r⟩
  · have e1 : g = g' := by simpa [Value.ownBlock] using e
    omega
def trCells (gf nf cf gr nr cr : Nat) (z : Int) : List Value := [.slice (some ⟨gf, 0, none⟩) nf cf, .slice (some ⟨gr, 0, none⟩) nr cr, .int .i64 z]
/-- What a draw of a train holds: the source, the train in its variable x, its lists in gf and gr, and the result's own variable, still empty. -/
structure TrS (w : World) (g : Nat) (A : Option Addr) (n cap : Nat) (bs : List Int) (x gf cf gr cr : Nat) (fs rs : List Int) (z : Int) (W : World) : Prop where
  src : Src W g A n cap bs
  kp : Keep g (g + 1) w W
  box : Box W x (trCells gf fs.length cf gr rs.length cr z)
  res : Box W w.heap.size [.slice none 0 0, .slice none 0 0, .int .i64 0]
  of : Ow W gf (gf + 1) 2 (some ⟨gf, 0, none⟩) fs.length cf (ints fs)
  or : Ow W gr (gr + 1) 2 (some ⟨gr, 0, none⟩) rs.length cr (ints rs)
  ne : gf ≠ gr
  nf : gf ≠ x
  nr : gr ≠ x
  lf : w.heap.size < gf
  lr : w.heap.size < gr
  lx : w.heap.size < x
  uf : gf < W.heap.size
  ur : gr < W.heap.size
theorem keepAlloc' (W : World) (g : Nat) (o : Obj) : Keep g (g + 1) W (W.alloc o) := Keep.of_below ((Below.refl W.heap.size W).alloc (Nat.le_refl _) o) (Nat.le_refl _) _ _
section
variable {w W W1 : World} {g : Nat} {A : Option Addr} {n cap : Nat} {bs : List Int} {x gf cf gr cr : Nat} {fs rs : List Int} {z : Int}
theorem TrS.next (h : TrS w g A n cap bs x gf cf gr cr fs rs z W) (hg : g < w.heap.size) (s : Src W1 g A n cap bs) (k : Keep g (g + 1) W W1) : TrS w g A n cap bs x gf cf gr cr fs rs z W1 := by
  have hlf := h.lf
  have hlr := h.lr
  have hlx := h.lx
  have huf := h.uf
  have hur := h.ur
  have hs := k.size
  exact ⟨s, h.kp.trans k, h.box.keep k (by omega), h.res.keep k (by omega), h.of.keep k (by omega) (by omega), h.or.keep k (by omega) (by omega), h.ne, h.nf, h.nr, h.lf, h.lr, h.lx, by omega, by omega⟩
theorem TrS.alloc (h : TrS w g A n cap bs x gf cf gr cr fs rs z W) (hg : g < w.heap.size) (o : Obj) : TrS w g A n cap bs x gf cf gr cr fs rs z (W.alloc o) :=
  h.next hg (h.src.below ((Below.refl _ _).alloc (Nat.le_refl _) _)) (keepAlloc' W g o)
theorem TrS.appF {v' : Value} {t : Int} {o : Obj} {m : Nat} (h : TrS w g A n cap bs x gf cf gr cr fs rs z W) (hg : g < w.heap.size) (hm : fs.length = m) (hown : W1.ownsRow (w.heap.size + 1) 2 1 v' (m + 1) (ints fs ++ [.int .i64 t])) (hgrow : (W.alloc o).grownBy W1 (Value.slice (some ⟨gf, 0, none⟩) m cf).ownBlock) (hat : v'.ownBlock = (Value.slice (some ⟨gf, 0, none⟩) m cf).ownBlock ∨ v'.ownBlock = some (W.alloc o).heap.size) :
    ∃ g' c', v' = .slice (some ⟨g', 0, none⟩) (m + 1) c' ∧ Box W1 x (trCells gf fs.length cf gr rs.length cr z) ∧ TrS w g A n cap bs x g' c' gr cr (fs ++ [t]) rs z (W1.setCell ⟨x, 0, none⟩ (.slice (some ⟨g', 0, none⟩) (m + 1) c')) := by
  subst hm
  have hlf := h.lf
  have hlr := h.lr
  have hlx := h.lx
  have huf := h.uf
  have hur := h.ur
  have hne := h.ne
  have hnf := h.nf
  have hnr := h.nr
  have hux := h.box.lt
  have kk : Keep gf (gf + 1) (W.alloc o) W1 := ⟨hgrow.os, hgrow.tape, hgrow.output, hgrow.size, fun i hi ho => hgrow.block i hi (by simp [Value.ownBlock]; omega)⟩
  have k1 : Keep gf (gf + 1) W W1 := (keepAlloc' W gf o).trans kk
  have hs1 := k1.size
  obtain ⟨g', c', rfl, hgg⟩ : ∃ g' c', v' = .slice (some ⟨g', 0, none⟩) (fs.length + 1) c' ∧ (g' = gf ∨ g' = W.heap.size + 1) := by
    rcases hown.2 with ⟨rfl, h0⟩ | ⟨g', c', cur, rfl, hb, hr⟩
    · simp [Value.ownBlock] at hat
    · exact ⟨g', c', rfl, by simpa [Value.ownBlock] using hat⟩
  have hlt := hown.lt g' rfl
  have ho2 : Ow W1 g' (g' + 1) 2 (some ⟨g', 0, none⟩) (fs.length + 1) c' (ints (fs ++ [t])) := by
    have h0 : Ow W1 (w.heap.size + 1) W1.heap.size 2 (some ⟨g', 0, none⟩) (fs.length + 1) c' (ints (fs ++ [t])) := ⟨by rw [show ints (fs ++ [t]) = ints fs ++ [.int .i64 t] by simp [ints]]; exact hown, fun g1 e => (hown.lt g1 e).2⟩
    exact h0.block1
  have b1 : Below w.heap.size W W1 := k1.below (by omega) h.kp.size
  have kx : Keep x (x + 1) W1 (W1.setCell ⟨x, 0, none⟩ (.slice (some ⟨g', 0, none⟩) (fs.length + 1) c')) := keepSet W1 x 0 _
  have bx1 := h.box.keep k1 (by omega)
  have b2 : Below w.heap.size W1 (W1.setCell ⟨x, 0, none⟩ (.slice (some ⟨g', 0, none⟩) (fs.length + 1) c')) := kx.below (by omega) (by have := h.kp.size; omega)
  have hos : W1.heap.size = (W1.setCell ⟨x, 0, none⟩ (.slice (some ⟨g', 0, none⟩) (fs.length + 1) c')).heap.size := by simp
  refine ⟨g', c', rfl, bx1, ?_⟩
  refine ⟨(h.src.below' b1 hg).below' b2 hg, (h.kp.then_below b1).then_below b2, ?_, (h.res.keep k1 (by omega)).keep kx (by omega), ?_, ?_, by omega, by omega, by omega, by omega, by omega, hlx, by rw [← hos]; omega, by rw [← hos]; omega⟩
  · have := bx1.set (k := 0) (.slice (some ⟨g', 0, none⟩) (fs.length + 1) c') (by simp [trCells])
    simpa [trCells] using this
  · have h3 := ho2.keep kx (by omega) (by omega)
    simpa using h3
  · exact (h.or.keep k1 (by omega) (by omega)).keep kx (by omega) (by omega)
    
theorem TrS.appR {v' : Value} {t : Int} {o : Obj} {m : Nat} (h : TrS w g A n cap bs x gf cf gr cr fs rs z W) (hg : g < w.heap.size) (hm : rs.length = m) (hown : W1.ownsRow (w.heap.size + 1) 2 1 v' (m + 1) (ints rs ++ [.int .i64 t])) (hgrow : (W.alloc o).grownBy W1 (Value.slice (some ⟨gr, 0, none⟩) m cr).ownBlock) (hat : v'.ownBlock = (Value.slice (some ⟨gr, 0, none⟩) m cr).ownBlock ∨ v'.ownBlock = some (W.alloc o).heap.size) :
    ∃ g' c', v' = .slice (some ⟨g', 0, none⟩) (m + 1) c' ∧ Box W1 x (trCells gf fs.length cf gr rs.length cr z) ∧ TrS w g A n cap bs x gf cf g' c' fs (rs ++ [t]) z (W1.setCell ⟨x, 1, none⟩ (.slice (some ⟨g', 0, none⟩) (m + 1) c')) := by
  subst hm
  have hlf := h.lf
  have hlr := h.lr
  have hlx := h.lx
  have huf := h.uf
  have hur := h.ur
  have hne := h.ne
  have hnf := h.nf
  have hnr := h.nr
  have hux := h.box.lt
  have kk : Keep gr (gr + 1) (W.alloc o) W1 := ⟨hgrow.os, hgrow.tape, hgrow.output, hgrow.size, fun i hi ho => hgrow.block i hi (by simp [Value.ownBlock]; omega)⟩
  have k1 : Keep gr (gr + 1) W W1 := (keepAlloc' W gr o).trans kk
  have hs1 := k1.size
  obtain ⟨g', c', rfl, hgg⟩ : ∃ g' c', v' = .slice (some ⟨g', 0, none⟩) (rs.length + 1) c' ∧ (g' = gr ∨ g' = W.heap.size + 1) := by
    rcases hown.2 with ⟨rfl, h0⟩ | ⟨g', c', cur, rfl, hb, hr⟩
    · simp [Value.ownBlock] at hat
    · exact ⟨g', c', rfl, by simpa [Value.ownBlock] using hat⟩
  have hlt := hown.lt g' rfl
  have ho2 : Ow W1 g' (g' + 1) 2 (some ⟨g', 0, none⟩) (rs.length + 1) c' (ints (rs ++ [t])) := by
    have h0 : Ow W1 (w.heap.size + 1) W1.heap.size 2 (some ⟨g', 0, none⟩) (rs.length + 1) c' (ints (rs ++ [t])) := ⟨by rw [show ints (rs ++ [t]) = ints rs ++ [.int .i64 t] by simp [ints]]; exact hown, fun g1 e => (hown.lt g1 e).2⟩
    exact h0.block1
  have b1 : Below w.heap.size W W1 := k1.below (by omega) h.kp.size
  have kx : Keep x (x + 1) W1 (W1.setCell ⟨x, 1, none⟩ (.slice (some ⟨g', 0, none⟩) (rs.length + 1) c')) := keepSet W1 x 1 _
  have bx1 := h.box.keep k1 (by omega)
  have b2 : Below w.heap.size W1 (W1.setCell ⟨x, 1, none⟩ (.slice (some ⟨g', 0, none⟩) (rs.length + 1) c')) := kx.below (by omega) (by have := h.kp.size; omega)
  have hos : W1.heap.size = (W1.setCell ⟨x, 1, none⟩ (.slice (some ⟨g', 0, none⟩) (rs.length + 1) c')).heap.size := by simp
  refine ⟨g', c', rfl, bx1, ?_⟩
  refine ⟨(h.src.below' b1 hg).below' b2 hg, (h.kp.then_below b1).then_below b2, ?_, (h.res.keep k1 (by omega)).keep kx (by omega), ?_, ?_, by omega, by omega, by omega, by omega, by omega, hlx, by rw [← hos]; omega, by rw [← hos]; omega⟩
  · have := bx1.set (k := 1) (.slice (some ⟨g', 0, none⟩) (rs.length + 1) c') (by simp [trCells])
    simpa [trCells] using this
  · exact (h.of.keep k1 (by omega) (by omega)).keep kx (by omega) (by omega)
    
  · have h3 := ho2.keep kx (by omega) (by omega)
    simpa using h3
end
end Go.Proofs.Ythedanpldebjcaa
