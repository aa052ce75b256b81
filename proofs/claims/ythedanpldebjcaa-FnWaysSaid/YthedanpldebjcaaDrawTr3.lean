/- Draws of trains and numbers. -/
import Derived.Test.YthedanpldebjcaaDrawTr2
namespace Go.Proofs.Ythedanpldebjcaa
open Go.RowKit
section
end
set_option linter.unusedSimpArgs false
set_option linter.unusedVariables false

def put3 (w : World) (q : Nat) (a b c : Value) : World := ((w.setCell ⟨q, 0, none⟩ a).setCell ⟨q, 1, none⟩ b).setCell ⟨q, 2, none⟩ c
theorem put3_keep (w : World) (q : Nat) (a b c : Value) : Keep q (q + 1) w (put3 w q a b c) :=
  (((Keep.refl q (q + 1) w).setCell (p := ⟨q, 0, none⟩) (Nat.le_refl _) (Nat.lt_succ_self _) _).setCell (p := ⟨q, 1, none⟩) (Nat.le_refl _) (Nat.lt_succ_self _) _).setCell (p := ⟨q, 2, none⟩) (Nat.le_refl _) (Nat.lt_succ_self _) _
theorem put3_box {w : World} {q : Nat} {a b c d e f : Value} (h : Box w q [d, e, f]) : Box (put3 w q a b c) q [a, b, c] :=
  ((h.set (k := 0) a (by simp)).set (k := 1) b (by simp)).set (k := 2) c (by simp)
theorem put3_far {b q : Nat} (h : b ≠ q) (w : World) (o : Nat) (x y z : Value) : (put3 w q x y z).cell? ⟨b, o, none⟩ = w.cell? ⟨b, o, none⟩ := by
  unfold put3
  rw [cell_far h, cell_far h, cell_far h]
/-- What a draw holds: the source in g, the train in its variable x, its lists in gf and gr, the result's own variable q, still empty. -/
structure TrH (w : World) (q g : Nat) (A : Option Addr) (n cap : Nat) (bs : List Int) (x gf cf gr cr : Nat) (fs rs : List Int) (z : Int) (W : World) : Prop where
  src : Src W g A n cap bs
  kp : Keep g (g + 1) w W
  box : Box W x (trCells gf fs.length cf gr rs.length cr z)
  res : Box W q [.slice none 0 0, .slice none 0 0, .int .i64 0]
  of : Ow W gf (gf + 1) 2 (some ⟨gf, 0, none⟩) fs.length cf (ints fs)
  or : Ow W gr (gr + 1) 2 (some ⟨gr, 0, none⟩) rs.length cr (ints rs)
  ne : gf ≠ gr
  qg : q ≠ g
  qf : q ≠ gf
  qr : q ≠ gr
  qx : q ≠ x
  lf : w.heap.size ≤ gf
  lr : w.heap.size ≤ gr
  lx : w.heap.size ≤ x
  uf : gf < W.heap.size
  ur : gr < W.heap.size
section
variable {w W W1 : World} {q g : Nat} {A : Option Addr} {n cap : Nat} {bs : List Int} {x gf cf gr cr : Nat} {fs rs : List Int} {z : Int}
theorem TrH.next (h : TrH w q g A n cap bs x gf cf gr cr fs rs z W) (hg : g < w.heap.size) (s : Src W1 g A n cap bs) (k : Keep g (g + 1) W W1) : TrH w q g A n cap bs x gf cf gr cr fs rs z W1 := by
  have hlf := h.lf
  have hlr := h.lr
  have hlx := h.lx
  have huf := h.uf
  have hur := h.ur
  have hqg := h.qg
  have hs := k.size
  exact ⟨s, h.kp.trans k, h.box.keep k (by omega), h.res.keep k (by omega), h.of.keep k (by omega) (by omega), h.or.keep k (by omega) (by omega), h.ne, h.qg, h.qf, h.qr, h.qx, h.lf, h.lr, h.lx, by omega, by omega⟩
theorem TrH.below (h : TrH w q g A n cap bs x gf cf gr cr fs rs z W) (hg : g < w.heap.size) (b : Below W.heap.size W W1) : TrH w q g A n cap bs x gf cf gr cr fs rs z W1 :=
  h.next hg (h.src.below b) (Keep.of_below b (Nat.le_refl _) _ _)
theorem TrH.make {w2 : World} {t : TypeId} (s : Src w2 g A n cap bs) (k : Keep g (g + 1) w w2) (hres : Box w2 q [.slice none 0 0, .slice none 0 0, .int .i64 0]) (of : Ow w2 gf (gf + 1) 2 (some ⟨gf, 0, none⟩) fs.length cf (ints fs)) (or : Ow w2 gr (gr + 1) 2 (some ⟨gr, 0, none⟩) rs.length cr (ints rs)) (hne : gf ≠ gr) (qg : q ≠ g) (qf : q ≠ gf) (qr : q ≠ gr) (lf : w.heap.size ≤ gf) (lr : w.heap.size ≤ gr) (uf : gf < w2.heap.size) (ur : gr < w2.heap.size) :
    TrH w q g A n cap bs w2.heap.size gf cf gr cr fs rs z (w2.alloc (.cells #[.slice (some ⟨gf, 0, none⟩) fs.length cf, .slice (some ⟨gr, 0, none⟩) rs.length cr, .int .i64 z] t)) := by
  have hb := (Below.refl w2.heap.size w2).alloc (Nat.le_refl _) (.cells #[.slice (some ⟨gf, 0, none⟩) fs.length cf, .slice (some ⟨gr, 0, none⟩) rs.length cr, .int .i64 z] t)
  have hs := hb.size
  have hq := hres.lt
  exact ⟨s.below hb, k.trans (keepAlloc' _ _ _), Box.new rfl rfl, hres.below hb, of.below hb (by omega), or.below hb (by omega), hne, qg, qf, qr, by omega, lf, lr, k.size, by omega, by omega⟩
theorem TrH.cells (h : TrH w q g A n cap bs x gf cf gr cr fs rs z W) : W.cell? ⟨x, 0, none⟩ = some (.slice (some ⟨gf, 0, none⟩) fs.length cf) ∧ W.cell? ⟨x, 1, none⟩ = some (.slice (some ⟨gr, 0, none⟩) rs.length cr) ∧ W.cell? ⟨x, 2, none⟩ = some (.int .i64 z) :=
  ⟨h.box.at_ 0 _ rfl, h.box.at_ 1 _ rfl, h.box.at_ 2 _ rfl⟩
theorem TrH.trl (h : TrH w q g A n cap bs x gf cf gr cr fs rs z W) (hf : fs.length ≤ 4) (hr : rs.length ≤ 12) (k : Keep q (q + 1) W W1) : TrL ⟨fs, rs, z⟩ (some ⟨gf, 0, none⟩) cf (some ⟨gr, 0, none⟩) cr W1 := by
  have hqf := h.qf
  have hqr := h.qr
  have huf := h.uf
  have hur := h.ur
  exact ⟨Ls.of (h.of.keep k (by omega) (by omega)).rd h.of.le (by show fs.length ≤ _; omega), Ls.of (h.or.keep k (by omega) (by omega)).rd h.or.le (by show rs.length ≤ _; omega)⟩
end
/-- A train, drawn with two numbers. -/
def DrawnS (w : World) (g : Nat) (A : Option Addr) (n cap : Nat) (bs : List Int) (e : Ending) (w' : World) : Prop :=
  ∃ (x : Trn) (gf cf gr cr : Nat) (a b : Int), e = .returned (.tuple #[trainV x (some ⟨gf, 0, none⟩) cf (some ⟨gr, 0, none⟩) cr, .int .i64 a, .int .i64 b]) ∧ (1 ≤ x.f.length ∧ x.f.length ≤ 4) ∧ x.r.length ≤ 11 ∧ Src w' g A n cap bs ∧ Keep g (g + 1) w w' ∧ Ow w' gf (gf + 1) 2 (some ⟨gf, 0, none⟩) x.f.length cf (ints x.f) ∧ Ow w' gr (gr + 1) 2 (some ⟨gr, 0, none⟩) x.r.length cr (ints x.r) ∧ gf ≠ gr ∧ w.heap.size ≤ gf ∧ w.heap.size ≤ gr ∧ gf < w'.heap.size ∧ gr < w'.heap.size
theorem DrawnS.of {w w' : World} {g : Nat} {A : Option Addr} {n cap : Nat} {bs : List Int} {gf cf gr cr : Nat} {fs rs : List Int} {z a b : Int} {v : Value} (hv : v = .tuple #[trainV ⟨fs, rs, z⟩ (some ⟨gf, 0, none⟩) cf (some ⟨gr, 0, none⟩) cr, .int .i64 a, .int .i64 b]) (hf : 1 ≤ fs.length ∧ fs.length ≤ 4) (hr : rs.length ≤ 11) (s : Src w' g A n cap bs) (k : Keep g (g + 1) w w') (of : Ow w' gf (gf + 1) 2 (some ⟨gf, 0, none⟩) fs.length cf (ints fs)) (or : Ow w' gr (gr + 1) 2 (some ⟨gr, 0, none⟩) rs.length cr (ints rs)) (hne : gf ≠ gr) (lf : w.heap.size ≤ gf) (lr : w.heap.size ≤ gr) (uf : gf < w'.heap.size) (ur : gr < w'.heap.size) : DrawnS w g A n cap bs (.returned v) w' :=
  ⟨⟨fs, rs, z⟩, gf, cf, gr, cr, a, b, by rw [hv], hf, hr, s, k, of, or, hne, lf, lr, uf, ur⟩
def DvT0 (w : World) (e : Ending) (w' : World) : Prop := ∃ (x : Trn) (A : Option Addr) (c : Nat) (B : Option Addr) (d : Nat), e = .returned (trainV x A c B d) ∧ TrL x A c B d w' ∧ Below w.heap.size w w'
def DvT1 (w : World) (e : Ending) (w' : World) : Prop := ∃ (x : Trn) (A : Option Addr) (c : Nat) (B : Option Addr) (d : Nat) (a : Int), e = .returned (.tuple #[trainV x A c B d, .int .i64 a]) ∧ TrL x A c B d w' ∧ Below w.heap.size w w'
def DvT2 (w : World) (e : Ending) (w' : World) : Prop := ∃ (x : Trn) (A : Option Addr) (c : Nat) (B : Option Addr) (d : Nat) (a b : Int), e = .returned (.tuple #[trainV x A c B d, .int .i64 a, .int .i64 b]) ∧ TrL x A c B d w' ∧ Below w.heap.size w w'
def DvT3 (w : World) (e : Ending) (w' : World) : Prop := ∃ (x : Trn) (A : Option Addr) (c : Nat) (B : Option Addr) (d : Nat) (a b s : Int), e = .returned (.tuple #[trainV x A c B d, .int .i64 a, .int .i64 b, .int .i64 s]) ∧ TrL x A c B d w' ∧ Below w.heap.size w w'
set_option maxRecDepth 100000 in
set_option maxHeartbeats 16000000 in
theorem drawSome (g : Nat) (A : Option Addr) (n cap : Nat) (bs : List Int) (w : World) (h : Src w g A n cap bs) :
    Calls Try.prog 51 #[.pointer (some ⟨g, 0, none⟩)] w (DrawnS w g A n cap bs) := by
  have HN := Go.Lib.hid (fun (m : Int) (w0 : World) (s : Src w0 g A n cap bs) => next g A n cap bs m w0 s)
  have HD := Go.Lib.hid (fun w0 s0 => drawL09 g A n cap bs w0 s0)
  have HG := Go.Lib.hid h.lt
  have S0 := Go.Lib.hid h
  clear h
  go_enter Try.func51, Try.ntmps51
  go_upto_region 1 with fail
  refine wp_gen (R := fun W => Box W w.heap.size [.slice none 0 0, .slice none 0 0, .int .i64 0] ∧ Src W g A n cap bs ∧ Keep g (g + 1) w W ∧ W.heap.size = w.heap.size + 1) ⟨Box.new rfl rfl, S0.out.below (by go_grown), keepAlloc' _ _ _, by simp⟩ ?_
  rintro W1 ⟨kb, s1, k1, e1⟩
  have HB := Go.Lib.hid kb
  have S1 := Go.Lib.hid s1
  have K1 := Go.Lib.hid k1
  have E1 := Go.Lib.hid e1
  clear kb s1 k1 e1 S0
  go_wp2_with fail
  refine (HD.out _ S1.out).mono ?_
  rintro _ w2 ⟨x0, gf, cf, gr, cr, rfl, hf, hr, s2, k2, of, or, hne, lf, lr, uf, ur⟩
  obtain ⟨fs, rs, z⟩ := x0
  have HQW := Go.Lib.hid (show w.heap.size ≤ w.heap.size from Nat.le_refl _)
  obtain ⟨Q, hQ⟩ : ∃ Q, w.heap.size = Q := ⟨_, rfl⟩
  have hst : ∀ t, TrH w Q g A n cap bs w2.heap.size gf cf gr cr fs rs z (w2.alloc (.cells #[.slice (some ⟨gf, 0, none⟩) fs.length cf, .slice (some ⟨gr, 0, none⟩) rs.length cr, .int .i64 z] t)) := fun t => by
    have he := E1.out
    have hg := HG.out
    rw [← hQ]
    exact TrH.make s2 (K1.out.trans k2) (HB.out.keep k2 (by omega)) of or hne (by omega) (by omega) (by omega) (by omega) (by omega) uf ur
  have HFL := Go.Lib.hid (show 1 ≤ fs.length ∧ fs.length ≤ 4 from hf)
  have HRL := Go.Lib.hid (show rs.length ≤ 11 from hr)
  have HQW := Go.Lib.hid (show w.heap.size ≤ Q from Nat.le_of_eq hQ)
  have hxq : w2.heap.size ≠ Q := by have := k2.size; have := E1.out; omega
  have HXQ := Go.Lib.hid hxq
  unfold trainV
  clear hf hr s2 k2 of or hne lf lr uf ur HB S1 K1 E1 hxq
  go_upto_region 2 with fail
  refine wp_gen (R := fun W => TrH w Q g A n cap bs w2.heap.size gf cf gr cr fs rs z W) (hst _) ?_
  rintro W3 ht
  have HT := Go.Lib.hid ht
  clear ht hst
  try simp only [hQ]
  generalize w2.heap.size = x at *
  obtain ⟨hc0, hc1, hc2⟩ := HT.out.cells
  refine wp_region_held_drew (S := fun w' => w'.cell? ⟨x, 0, none⟩ = some (.slice (some ⟨gf, 0, none⟩) fs.length cf) ∧ w'.cell? ⟨x, 1, none⟩ = some (.slice (some ⟨gr, 0, none⟩) rs.length cr) ∧ w'.cell? ⟨x, 2, none⟩ = some (.int .i64 z)) (by kernel_rfl) (by exact ⟨hc0, hc1, hc2⟩) (fun hHeld => ?_)
  change wpAnyH _ _ _ _ _ _ _ _ (W3.drewN 1)
  have HTV := Go.Lib.hid (HT.out.below HG.out (below_drewN (Below.refl W3.heap.size W3) 1))
  generalize W3.drewN 1 = V at *
  clear HT hc0 hc1 hc2
  have hHeld2 := HTV.out.cells
  clear hQ
  refine wpAnyH_take (i := 0) (v := ?va1) rfl (by kernel_rfl) (by kernel_rfl) (by kernel_rfl) (fun _ _ _ h => h) (Or.inl ⟨by rfl, ?hya1⟩) (by assumption) ?resta1
  case hya1 => (intro w hSw; (try dsimp only at hSw); go_simp; try with_reducible rfl)
  try simp only [List.getElem_toArray, List.getElem_cons_succ, List.getElem_cons_zero, Act.put, List.setIfInBounds_toArray, List.set_cons_zero, List.set_cons_succ]
  refine wpAnyH_take (i := 1) (v := ?va2) rfl (by kernel_rfl) (by kernel_rfl) (by kernel_rfl) (fun _ _ _ h => h) (Or.inl ⟨by rfl, ?hya2⟩) (by assumption) ?resta2
  case hya2 => (intro w hSw; (try dsimp only at hSw); go_simp; try with_reducible rfl)
  try simp only [List.getElem_toArray, List.getElem_cons_succ, List.getElem_cons_zero, Act.put, List.setIfInBounds_toArray, List.set_cons_zero, List.set_cons_succ]
  refine wpAnyH_take (i := 2) (v := ?va3) rfl (by kernel_rfl) (by kernel_rfl) (by kernel_rfl) (fun _ _ _ h => h) (Or.inl ⟨by rfl, ?hya3⟩) (by assumption) ?resta3
  case hya3 => (intro w hSw; (try dsimp only at hSw); go_simp; try with_reducible rfl)
  try simp only [List.getElem_toArray, List.getElem_cons_succ, List.getElem_cons_zero, Act.put, List.setIfInBounds_toArray, List.set_cons_zero, List.set_cons_succ]
  refine wpAnyH_take (i := 3) (v := ?va4) rfl (by kernel_rfl) (by kernel_rfl) (by kernel_rfl) (fun _ _ _ h => h) (Or.inl ⟨by rfl, ?hya4⟩) (by assumption) ?resta4
  case hya4 => (intro w hSw; (try dsimp only at hSw); go_simp; try with_reducible rfl)
  try simp only [List.getElem_toArray, List.getElem_cons_succ, List.getElem_cons_zero, Act.put, List.setIfInBounds_toArray, List.set_cons_zero, List.set_cons_succ]
  refine wpAnyH_take (i := 4) (v := ?va5) rfl (by kernel_rfl) (by kernel_rfl) (by kernel_rfl) (fun _ _ _ h => h) (Or.inl ⟨by rfl, ?hya5⟩) (by assumption) ?resta5
  case hya5 => (intro w hSw; (try dsimp only at hSw); go_simp; try with_reducible rfl)
  try simp only [List.getElem_toArray, List.getElem_cons_succ, List.getElem_cons_zero, Act.put, List.setIfInBounds_toArray, List.set_cons_zero, List.set_cons_succ]
  refine wpAnyH_take (i := 5) (v := ?va6) rfl (by kernel_rfl) (by kernel_rfl) (by kernel_rfl) (fun _ _ _ h => h) (Or.inl ⟨by rfl, ?hya6⟩) (by assumption) ?resta6
  case hya6 => (intro w hSw; (try dsimp only at hSw); go_simp; try with_reducible rfl)
  try simp only [List.getElem_toArray, List.getElem_cons_succ, List.getElem_cons_zero, Act.put, List.setIfInBounds_toArray, List.set_cons_zero, List.set_cons_succ]
  refine wpAnyH_take (i := 10) (v := ?va7) rfl (by kernel_rfl) (by kernel_rfl) (by kernel_rfl) (fun _ _ _ h => h) (Or.inl ⟨by rfl, ?hya7⟩) (by assumption) ?resta7
  case hya7 => (intro w hSw; (try dsimp only at hSw); go_simp; try with_reducible rfl)
  try simp only [List.getElem_toArray, List.getElem_cons_succ, List.getElem_cons_zero, Act.put, List.setIfInBounds_toArray, List.set_cons_zero, List.set_cons_succ]
  refine wpAnyH_take (i := 11) (v := ?va8) rfl (by kernel_rfl) (by kernel_rfl) (by kernel_rfl) (fun _ _ _ h => h) (Or.inl ⟨by rfl, ?hya8⟩) (by assumption) ?resta8
  case hya8 => (intro w hSw; (try dsimp only at hSw); go_simp; try with_reducible rfl)
  try simp only [List.getElem_toArray, List.getElem_cons_succ, List.getElem_cons_zero, Act.put, List.setIfInBounds_toArray, List.set_cons_zero, List.set_cons_succ]
  refine wpAnyH_take (i := 12) (v := ?va9) rfl (by kernel_rfl) (by kernel_rfl) (by kernel_rfl) (fun _ _ _ h => h) (Or.inl ⟨by rfl, ?hya9⟩) (by assumption) ?resta9
  case hya9 => (intro w hSw; (try dsimp only at hSw); go_simp; try with_reducible rfl)
  try simp only [List.getElem_toArray, List.getElem_cons_succ, List.getElem_cons_zero, Act.put, List.setIfInBounds_toArray, List.set_cons_zero, List.set_cons_succ]
  refine wpAnyH_take (i := 13) (v := ?va10) rfl (by kernel_rfl) (by kernel_rfl) (by kernel_rfl) (fun _ _ _ h => h) (Or.inl ⟨by rfl, ?hya10⟩) (by assumption) ?resta10
  case hya10 => (intro w hSw; (try dsimp only at hSw); go_simp; try with_reducible rfl)
  try simp only [List.getElem_toArray, List.getElem_cons_succ, List.getElem_cons_zero, Act.put, List.setIfInBounds_toArray, List.set_cons_zero, List.set_cons_succ]
  refine wpAnyH_take (i := 14) (v := ?va11) rfl (by kernel_rfl) (by kernel_rfl) (by kernel_rfl) (fun _ _ _ h => h) (Or.inl ⟨by rfl, ?hya11⟩) (by assumption) ?resta11
  case hya11 => (intro w hSw; (try dsimp only at hSw); go_simp; try with_reducible rfl)
  try simp only [List.getElem_toArray, List.getElem_cons_succ, List.getElem_cons_zero, Act.put, List.setIfInBounds_toArray, List.set_cons_zero, List.set_cons_succ]
  refine wpAnyH_ready (rs := [6]) (by kernel_rfl) (by simp) ?_
  refine AllReadyH.cons rfl (fun K hK => ?_) AllReadyH.nil
  go_simp
  (go_at_call 53; refine (HN.out _ _ HTV.out.src).mono ?_; rintro _ v6 ⟨r6, rfl, p6, m6, s6, k6⟩)
  have HTV := Go.Lib.hid (HTV.out.next HG.out s6 k6)
  clear s6 k6
  have q6 : r6.tdiv 11 = r6 / 11 := Int.tdiv_eq_ediv_of_nonneg p6
  have t6 : IntKind.i64.wrap (r6 / 11) = r6 / 11 := IntWalk.i64_in _ (by omega)
  have u6 : IntKind.i64.wrap ((fs.length : Int) + r6 / 11) = (fs.length : Int) + r6 / 11 := IntWalk.i64_in _ (by have := HFL.out; have := HRL.out; omega)
  refine hK.out _ _ ?_ (fun hHeld => ?_)
  · exact HTV.out.cells
  clear hK K
  try simp only [List.getElem_toArray, List.getElem_cons_succ, List.getElem_cons_zero, Act.put, List.setIfInBounds_toArray, List.set_cons_zero, List.set_cons_succ]
  refine wpAnyH_take (i := 7) (v := ?va12) rfl (by kernel_rfl) (by kernel_rfl) (by kernel_rfl) (fun _ _ _ h => h) (Or.inl ⟨by rfl, ?hya12⟩) (by assumption) ?resta12
  case hya12 => (intro w hSw; (try dsimp only at hSw); go_simp; try with_reducible rfl)
  try simp only [List.getElem_toArray, List.getElem_cons_succ, List.getElem_cons_zero, Act.put, List.setIfInBounds_toArray, List.set_cons_zero, List.set_cons_succ]
  refine wpAnyH_take (i := 8) (v := ?va13) rfl (by kernel_rfl) (by kernel_rfl) (by kernel_rfl) (fun _ _ _ h => h) (Or.inl ⟨by rfl, ?hya13⟩) (by assumption) ?resta13
  case hya13 => (intro w hSw; (try dsimp only at hSw); go_simp; try with_reducible rfl)
  try simp only [List.getElem_toArray, List.getElem_cons_succ, List.getElem_cons_zero, Act.put, List.setIfInBounds_toArray, List.set_cons_zero, List.set_cons_succ]
  refine wpAnyH_ready (rs := [9]) (by kernel_rfl) (by simp) ?_
  refine AllReadyH.cons rfl (fun K hK => ?_) AllReadyH.nil
  go_simp
  (go_at_call 53; refine (HN.out _ _ HTV.out.src).mono ?_; rintro _ v9 ⟨r9, rfl, p9, m9, s9, k9⟩)
  have HTV := Go.Lib.hid (HTV.out.next HG.out s9 k9)
  clear s9 k9
  refine hK.out _ _ ?_ (fun hHeld => ?_)
  · exact HTV.out.cells
  clear hK K
  try simp only [List.getElem_toArray, List.getElem_cons_succ, List.getElem_cons_zero, Act.put, List.setIfInBounds_toArray, List.set_cons_zero, List.set_cons_succ]
  refine wpAnyH_ready (rs := [15]) (by kernel_rfl) (by simp) ?_
  refine AllReadyH.cons rfl (fun K hK => ?_) AllReadyH.nil
  go_simp
  (go_at_call 53; refine (HN.out _ _ HTV.out.src).mono ?_; rintro _ v15 ⟨r15, rfl, p15, m15, s15, k15⟩)
  have HTV := Go.Lib.hid (HTV.out.next HG.out s15 k15)
  clear s15 k15
  have q15 : r15.tdiv 11 = r15 / 11 := Int.tdiv_eq_ediv_of_nonneg p15
  have t15 : IntKind.i64.wrap (r15 / 11) = r15 / 11 := IntWalk.i64_in _ (by omega)
  have u15 : IntKind.i64.wrap ((rs.length : Int) + r15 / 11) = (rs.length : Int) + r15 / 11 := IntWalk.i64_in _ (by have := HFL.out; have := HRL.out; omega)
  refine hK.out _ _ ?_ (fun hHeld => ?_)
  · exact HTV.out.cells
  clear hK K
  try simp only [List.getElem_toArray, List.getElem_cons_succ, List.getElem_cons_zero, Act.put, List.setIfInBounds_toArray, List.set_cons_zero, List.set_cons_succ]
  refine wpAnyH_take (i := 16) (v := ?va14) rfl (by kernel_rfl) (by kernel_rfl) (by kernel_rfl) (fun _ _ _ h => h) (Or.inl ⟨by rfl, ?hya14⟩) (by assumption) ?resta14
  case hya14 => (intro w hSw; (try dsimp only at hSw); go_simp; try with_reducible rfl)
  try simp only [List.getElem_toArray, List.getElem_cons_succ, List.getElem_cons_zero, Act.put, List.setIfInBounds_toArray, List.set_cons_zero, List.set_cons_succ]
  refine wpAnyH_take (i := 17) (v := ?va15) rfl (by kernel_rfl) (by kernel_rfl) (by kernel_rfl) (fun _ _ _ h => h) (Or.inl ⟨by rfl, ?hya15⟩) (by assumption) ?resta15
  case hya15 => (intro w hSw; (try dsimp only at hSw); go_simp; try with_reducible rfl)
  try simp only [List.getElem_toArray, List.getElem_cons_succ, List.getElem_cons_zero, Act.put, List.setIfInBounds_toArray, List.set_cons_zero, List.set_cons_succ]
  refine wpAnyH_ready (rs := [18]) (by kernel_rfl) (by simp) ?_
  refine AllReadyH.cons rfl (fun K hK => ?_) AllReadyH.nil
  go_simp
  (go_at_call 53; refine (HN.out _ _ HTV.out.src).mono ?_; rintro _ v18 ⟨r18, rfl, p18, m18, s18, k18⟩)
  have HTV := Go.Lib.hid (HTV.out.next HG.out s18 k18)
  clear s18 k18
  refine hK.out _ _ ?_ (fun hHeld => ?_)
  · exact HTV.out.cells
  clear hK K
  try simp only [List.getElem_toArray, List.getElem_cons_succ, List.getElem_cons_zero, Act.put, List.setIfInBounds_toArray, List.set_cons_zero, List.set_cons_succ]
  refine wpAnyH_ready (rs := [19]) (by kernel_rfl) (by simp) ?_
  refine AllReadyH.cons rfl (fun K hK => ?_) AllReadyH.nil
  have d0 := HTV.out.res.at_ 0 _ rfl
  have d1 := HTV.out.res.at_ 1 _ rfl
  have d2 := HTV.out.res.at_ 2 _ rfl
  have df := HTV.out.res.fr
  go_simp
  have HRB := Go.Lib.hid (put3_box (a := .slice (some ⟨gf, 0, none⟩) fs.length cf) (b := .slice (some ⟨gr, 0, none⟩) rs.length cr) (c := .int .i64 z) HTV.out.res)
  have HK3 := Go.Lib.hid (put3_keep v18 Q (.slice (some ⟨gf, 0, none⟩) fs.length cf) (.slice (some ⟨gr, 0, none⟩) rs.length cr) (.int .i64 z))
  clear d0 d1 d2 df
  refine hK.out _ _ ?_ (fun hHeld => ?_)
  · exact ⟨(put3_far HXQ.out _ _ _ _ _).trans HTV.out.cells.1, (put3_far HXQ.out _ _ _ _ _).trans HTV.out.cells.2.1, (put3_far HXQ.out _ _ _ _ _).trans HTV.out.cells.2.2⟩
  clear hK K
  try simp only [List.getElem_toArray, List.getElem_cons_succ, List.getElem_cons_zero, Act.put, List.setIfInBounds_toArray, List.set_cons_zero, List.set_cons_succ]
  refine wpAnyH_take (i := 20) (v := ?va16) rfl (by kernel_rfl) (by kernel_rfl) (by kernel_rfl) (fun _ _ _ h => h) (Or.inl ⟨by rfl, ?hya16⟩) (by assumption) ?resta16
  case hya16 => (intro w hSw; (try dsimp only at hSw); go_simp; try with_reducible rfl)
  try simp only [List.getElem_toArray, List.getElem_cons_succ, List.getElem_cons_zero, Act.put, List.setIfInBounds_toArray, List.set_cons_zero, List.set_cons_succ]
  refine wpAnyH_take (i := 21) (v := ?va17) rfl (by kernel_rfl) (by kernel_rfl) (by kernel_rfl) (fun _ _ _ h => h) (Or.inl ⟨by rfl, ?hya17⟩) (by assumption) ?resta17
  case hya17 => (intro w hSw; (try dsimp only at hSw); go_simp; try with_reducible rfl)
  try simp only [List.getElem_toArray, List.getElem_cons_succ, List.getElem_cons_zero, Act.put, List.setIfInBounds_toArray, List.set_cons_zero, List.set_cons_succ]
  refine wpAnyH_done (by kernel_rfl) ?_ _
  change Exit.then _ _ _ _ (put3 v18 Q (.slice (some ⟨gf, 0, none⟩) fs.length cf) (.slice (some ⟨gr, 0, none⟩) rs.length cr) (.int .i64 z))
  generalize put3 v18 Q (.slice (some ⟨gf, 0, none⟩) fs.length cf) (.slice (some ⟨gr, 0, none⟩) rs.length cr) (.int .i64 z) = WE at *
  have e0 := HRB.out.at_ 0 _ rfl
  have e1 := HRB.out.at_ 1 _ rfl
  have e2 := HRB.out.at_ 2 _ rfl
  go_wp2_with fail
  refine bodyPost_ret (v := .tuple #[trainV ⟨fs, rs, z⟩ (some ⟨gf, 0, none⟩) cf (some ⟨gr, 0, none⟩) cr, .int .i64 r9, .int .i64 r18]) (by simp [results, trainV, Try.results51, go_sem, *]) rfl ?_
  have hT := HTV.out
  have hk := HK3.out
  have hlf := hT.lf
  have hlr := hT.lr
  have huf := hT.uf
  have hur := hT.ur
  have hqf := hT.qf
  have hqr := hT.qr
  have hse := hk.size
  have hqw := HQW.out
  have hgw := HG.out
  have bF := hk.below (show w.heap.size ≤ Q by omega) hT.kp.size
  exact DrawnS.of rfl HFL.out HRL.out (hT.src.below' bF HG.out) (hT.kp.then_below bF) (hT.of.keep hk (by omega) (by omega)) (hT.or.keep hk (by omega) (by omega)) hT.ne hlf hlr (by omega) (by omega)
end Go.Proofs.Ythedanpldebjcaa
