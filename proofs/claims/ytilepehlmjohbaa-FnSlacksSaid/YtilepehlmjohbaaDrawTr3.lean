/- Draws of trains and numbers. -/
import Derived.Test.YtilepehlmjohbaaDrawTr2
namespace Go.Proofs.Ytilepehlmjohbaa
open Go.RowKit
section
end
set_option linter.unusedSimpArgs false
set_option linter.unusedVariables false

def put3 (w : World) (q : Nat) (a b c : Value) : World := ((w.setCell ⟨q, 0, none⟩ a).setCell ⟨q, 1, none⟩ b).setCell ⟨q, 2, none⟩ c
theorem put3_keep (w : World) (q : Nat) (a b c : Value) : Keep q (q + 1) w (put3 w q a b c) :=
  (((Keep.refl q (q + 1) w).setCell (p := ⟨q, 0, none⟩) (Nat.le_refl _) (Nat.lt_succ_self _) _).setCell (p := ⟨q, 1, none⟩) (Nat.le_refl _) (Nat.lt_succ_self _) _).setCell (p := ⟨q, 2, none⟩) (Nat.le_refl _) (Nat.lt_succ_self _) _
theorem put3_box {w : World} {q : Nat} {a b c d e f : Value} (h : Box w q [d, e, f]) : Box (put3 w q a b c) q [a, b, c] :=
  ((h.set (k := 0) a (by simp)).set (k := 1) b (by simp)).set (k := 2) c (by simp)
theorem put3_far {b q : Nat} (h : b ≠ q) (w : World) (o : Nat) (x y z : Value) : (put3 w q x y z).cell? ⟨b, o, none⟩ = w.cell? ⟨b, o, none⟩ := by
  unfold put3
  rw [cell_far h, cell_far h, cell_far h]
/-- What a draw holds: the source in g, the train in its variable x, its lists in gf and gr, the result's own variable q, still empty. -/
structure TrH (w : World) (q g : Nat) (A : Option Addr) (n cap : Nat) (bs : List Int) (x gf cf gr cr : Nat) (fs rs : List Int) (z : Int) (W : World) : Prop where
  src : Src W g A n cap bs
  kp : Keep g (g + 1) w W
  box : Box W x (trCells gf fs.length cf gr rs.length cr z)
  res : Box W q [.slice none 0 0, .slice none 0 0, .int .i64 0]
  of : Ow W gf (gf + 1) 2 (some ⟨gf, 0, none⟩) fs.length cf (ints fs)
  or : Ow W gr (gr + 1) 2 (some ⟨gr, 0, none⟩) rs.length cr (ints rs)
  ne : gf ≠ gr
  qg : q ≠ g
  qf : q ≠ gf
  qr : q ≠ gr
  qx : q ≠ x
  lf : w.heap.size ≤ gf
  lr : w.heap.size ≤ gr
  lx : w.heap.size ≤ x
  uf : gf < W.heap.size
  ur : gr < W.heap.size
section
variable {w W W1 : World} {q g : Nat} {A : Option Addr} {n cap : Nat} {bs : List Int} {x gf cf gr cr : Nat} {fs rs : List Int} {z : Int}
theorem TrH.next (h : TrH w q g A n cap bs x gf cf gr cr fs rs z W) (hg : g < w.heap.size) (s : Src W1 g A n cap bs) (k : Keep g (g + 1) W W1) : TrH w q g A n cap bs x gf cf gr cr fs rs z W1 := by
  have hlf := h.lf
  have hlr := h.lr
  have hlx := h.lx
  have huf := h.uf
  have hur := h.ur
  have hqg := h.qg
  have hs := k.size
  exact ⟨s, h.kp.trans k, h.box.keep k (by omega), h.res.keep k (by omega), h.of.keep k (by omega) (by omega), h.or.keep k (by omega) (by omega), h.ne, h.qg, h.qf, h.qr, h.qx, h.lf, h.lr, h.lx, by omega, by omega⟩
theorem TrH.below (h : TrH w q g A n cap bs x gf cf gr cr fs rs z W) (hg : g < w.heap.size) (b : Below W.heap.size W W1) : TrH w q g A n cap bs x gf cf gr cr fs rs z W1 :=
  h.next hg (h.src.below b) (Keep.of_below b (Nat.le_refl _) _ _)
theorem TrH.make {w2 : World} {t : TypeId} (s : Src w2 g A n cap bs) (k : Keep g (g + 1) w w2) (hres : Box w2 q [.slice none 0 0, .slice none 0 0, .int .i64 0]) (of : Ow w2 gf (gf + 1) 2 (some ⟨gf, 0, none⟩) fs.length cf (ints fs)) (or : Ow w2 gr (gr + 1) 2 (some ⟨gr, 0, none⟩) rs.length cr (ints rs)) (hne : gf ≠ gr) (qg : q ≠ g) (qf : q ≠ gf) (qr : q ≠ gr) (lf : w.heap.size ≤ gf) (lr : w.heap.size ≤ gr) (uf : gf < w2.heap.size) (ur : gr < w2.heap.size) :
    TrH w q g A n cap bs w2.heap.size gf cf gr cr fs rs z (w2.alloc (.cells #[.slice (some ⟨gf, 0, none⟩) fs.length cf, .slice (some ⟨gr, 0, none⟩) rs.length cr, .int .i64 z] t)) := by
  have hb := (Below.refl w2.heap.size w2).alloc (Nat.le_refl _) (.cells #[.slice (some ⟨gf, 0, none⟩) fs.length cf, .slice (some ⟨gr, 0, none⟩) rs.length cr, .int .i64 z] t)
  have hs := hb.size
  have hq := hres.lt
  exact ⟨s.below hb, k.trans (keepAlloc' _ _ _), Box.new rfl rfl, hres.below hb, of.below hb (by omega), or.below hb (by omega), hne, qg, qf, qr, by omega, lf, lr, k.size, by omega, by omega⟩
theorem TrH.cells (h : TrH w q g A n cap bs x gf cf gr cr fs rs z W) : W.cell? ⟨x, 0, none⟩ = some (.slice (some ⟨gf, 0, none⟩) fs.length cf) ∧ W.cell? ⟨x, 1, none⟩ = some (.slice (some ⟨gr, 0, none⟩) rs.length cr) ∧ W.cell? ⟨x, 2, none⟩ = some (.int .i64 z) :=
  ⟨h.box.at_ 0 _ rfl, h.box.at_ 1 _ rfl, h.box.at_ 2 _ rfl⟩
theorem TrH.trl (h : TrH w q g A n cap bs x gf cf gr cr fs rs z W) (hf : fs.length ≤ 4) (hr : rs.length ≤ 12) (k : Keep q (q + 1) W W1) : TrL ⟨fs, rs, z⟩ (some ⟨gf, 0, none⟩) cf (some ⟨gr, 0, none⟩) cr W1 := by
  have hqf := h.qf
  have hqr := h.qr
  have huf := h.uf
  have hur := h.ur
  exact ⟨Ls.of (h.of.keep k (by omega) (by omega)).rd h.of.le (by show fs.length ≤ _; omega), Ls.of (h.or.keep k (by omega) (by omega)).rd h.or.le (by show rs.length ≤ _; omega)⟩
end
/-- A train, drawn with two numbers. -/
def DrawnS (w : World) (g : Nat) (A : Option Addr) (n cap : Nat) (bs : List Int) (e : Ending) (w' : World) : Prop :=
  ∃ (x : Trn) (gf cf gr cr : Nat) (a b : Int), e = .returned (.tuple #[trainV x (some ⟨gf, 0, none⟩) cf (some ⟨gr, 0, none⟩) cr, .int .i64 a, .int .i64 b]) ∧ (1 ≤ x.f.length ∧ x.f.length ≤ 4) ∧ x.r.length ≤ 11 ∧ Src w' g A n cap bs ∧ Keep g (g + 1) w w' ∧ Ow w' gf (gf + 1) 2 (some ⟨gf, 0, none⟩) x.f.length cf (ints x.f) ∧ Ow w' gr (gr + 1) 2 (some ⟨gr, 0, none⟩) x.r.length cr (ints x.r) ∧ gf ≠ gr ∧ w.heap.size ≤ gf ∧ w.heap.size ≤ gr ∧ gf < w'.heap.size ∧ gr < w'.heap.size
theorem DrawnS.of {w w' : World} {g : Nat} {A : Option Addr} {n cap : Nat} {bs : List Int} {gf cf gr cr : Nat} {fs rs : List Int} {z a b : Int} {v : Value} (hv : v = .tuple #[trainV ⟨fs, rs, z⟩ (some ⟨gf, 0, none⟩) cf (some ⟨gr, 0, none⟩) cr, .int .i64 a, .int .i64 b]) (hf : 1 ≤ fs.length ∧ fs.length ≤ 4) (hr : rs.length ≤ 11) (s : Src w' g A n cap bs) (k : Keep g (g + 1) w w') (of : Ow w' gf (gf + 1) 2 (some ⟨gf, 0, none⟩) fs.length cf (ints fs)) (or : Ow w' gr (gr + 1) 2 (some ⟨gr, 0, none⟩) rs.length cr (ints rs)) (hne : gf ≠ gr) (lf : w.heap.size ≤ gf) (lr : w.heap.size ≤ gr) (uf : gf < w'.heap.size) (ur : gr < w'.heap.size) : DrawnS w g A n cap bs (.returned v) w' :=
  ⟨⟨fs, rs, z⟩, gf, cf, gr, cr, a, b, by rw [hv], hf, hr, s, k, of, or, hne, lf, lr, uf, ur⟩
def DvT0 (w : World) (e : Ending) (w' : World) : Prop := ∃ (x : Trn) (A : Option Addr) (c : Nat) (B : Option Addr) (d : Nat), e = .returned (trainV x A c B d) ∧ TrL x A c B d w' ∧ Below w.heap.size w w'
def DvT1 (w : World) (e : Ending) (w' : World) : Prop := ∃ (x : Trn) (A : Option Addr) (c : Nat) (B : Option Addr) (d : Nat) (a : Int), e = .returned (.tuple #[trainV x A c B d, .int .i64 a]) ∧ TrL x A c B d w' ∧ Below w.heap.size w w'
def DvT2 (w : World) (e : Ending) (w' : World) : Prop := ∃ (x : Trn) (A : Option Addr) (c : Nat) (B : Option Addr) (d : Nat) (a b : Int), e = .returned (.tuple #[trainV x A c B d, .int .i64 a, .int .i64 b]) ∧ TrL x A c B d w' ∧ Below w.heap.size w w'
def DvT3 (w : World) (e : Ending) (w' : World) : Prop := ∃ (x : Trn) (A : Option Addr) (c : Nat) (B : Option Addr) (d : Nat) (a b s : Int), e = .returned (.tuple #[trainV x A c B d, .int .i64 a, .int .i64 b, .int .i64 s]) ∧ TrL x A c B d w' ∧ Below w.heap.size w w'
end Go.Proofs.Ytilepehlmjohbaa
