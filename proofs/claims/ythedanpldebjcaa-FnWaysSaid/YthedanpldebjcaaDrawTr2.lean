/- The draw of a train, rarely something else. -/
import Derived.Test.YthedanpldebjcaaDrawTr
import Derived.Deep.DeepCutAuto
import Derived.Deep.CutBlock
import Derived.OrdersHeld
namespace Go.Proofs.Ythedanpldebjcaa
open Go.RowKit
set_option linter.unusedSimpArgs false
set_option linter.unusedVariables false

section
variable {w W W1 : World} {g : Nat} {A : Option Addr} {n cap : Nat} {bs : List Int} {x gf cf gr cr : Nat} {fs rs : List Int} {z : Int}
theorem TrS.make {w2 : World} {t : TypeId} (s : Src w2 g A n cap bs) (k : Keep g (g + 1) w w2) (hres : Box w2 w.heap.size [.slice none 0 0, .slice none 0 0, .int .i64 0]) (of : Ow w2 gf (gf + 1) 2 (some ⟨gf, 0, none⟩) fs.length cf (ints fs)) (or : Ow w2 gr (gr + 1) 2 (some ⟨gr, 0, none⟩) rs.length cr (ints rs)) (hne : gf ≠ gr) (lf : w.heap.size < gf) (lr : w.heap.size < gr) (uf : gf < w2.heap.size) (ur : gr < w2.heap.size) :
    TrS w g A n cap bs w2.heap.size gf cf gr cr fs rs z (w2.alloc (.cells #[.slice (some ⟨gf, 0, none⟩) fs.length cf, .slice (some ⟨gr, 0, none⟩) rs.length cr, .int .i64 z] t)) := by
  have hb := (Below.refl w2.heap.size w2).alloc (Nat.le_refl _) (.cells #[.slice (some ⟨gf, 0, none⟩) fs.length cf, .slice (some ⟨gr, 0, none⟩) rs.length cr, .int .i64 z] t)
  have hs := hb.size
  exact ⟨s.below hb, k.trans (keepAlloc' _ _ _), Box.new rfl rfl, hres.below hb, of.below hb (by omega), or.below hb (by omega), hne, by omega, by omega, lf, lr, by omega, by omega, by omega⟩
theorem TrS.below (h : TrS w g A n cap bs x gf cf gr cr fs rs z W) (hg : g < w.heap.size) (b : Below W.heap.size W W1) : TrS w g A n cap bs x gf cf gr cr fs rs z W1 :=
  h.next hg (h.src.below b) (Keep.of_below b (Nat.le_refl _) _ _)
theorem TrS.setF0 (h : TrS w g A n cap bs x gf cf gr cr fs rs z W) (hg : g < w.heap.size) (v : Int) : TrS w g A n cap bs x gf cf gr cr (fs.set 0 v) rs z (W.setCell ⟨gf, 0, none⟩ (.int .i64 v)) := by
  have hlf := h.lf
  have hlr := h.lr
  have hlx := h.lx
  have huf := h.uf
  have hur := h.ur
  have hne := h.ne
  have hnf := h.nf
  have kx : Keep gf (gf + 1) W (W.setCell ⟨gf, 0, none⟩ (.int .i64 v)) := keepSet W gf 0 _
  have b2 : Below w.heap.size W (W.setCell ⟨gf, 0, none⟩ (.int .i64 v)) := kx.below (by omega) h.kp.size
  have hos : (W.setCell ⟨gf, 0, none⟩ (.int .i64 v)).heap.size = W.heap.size := by simp
  refine ⟨h.src.below' b2 hg, h.kp.then_below b2, ?_, h.res.keep kx (by omega), ?_, h.or.keep kx (by omega) (by omega), h.ne, h.nf, h.nr, h.lf, h.lr, h.lx, by rw [hos]; exact huf, by rw [hos]; exact hur⟩
  · rw [List.length_set]
    exact h.box.keep kx (by omega)
  · have := h.of.set_ (k := 0) (.int .i64 v)
    rw [ints_set] at this
    rw [List.length_set]
    simpa [World.setCell] using this
theorem TrS.setZ (h : TrS w g A n cap bs x gf cf gr cr fs rs z W) (hg : g < w.heap.size) (v : Int) : TrS w g A n cap bs x gf cf gr cr fs rs v (W.setCell ⟨x, 2, none⟩ (.int .i64 v)) := by
  have hlf := h.lf
  have hlr := h.lr
  have hlx := h.lx
  have huf := h.uf
  have hur := h.ur
  have hnf := h.nf
  have hnr := h.nr
  have hux := h.box.lt
  have kx : Keep x (x + 1) W (W.setCell ⟨x, 2, none⟩ (.int .i64 v)) := keepSet W x 2 _
  have b2 : Below w.heap.size W (W.setCell ⟨x, 2, none⟩ (.int .i64 v)) := kx.below (by omega) h.kp.size
  have hos : (W.setCell ⟨x, 2, none⟩ (.int .i64 v)).heap.size = W.heap.size := by simp
  refine ⟨h.src.below' b2 hg, h.kp.then_below b2, ?_, h.res.keep kx (by omega), h.of.keep kx (by omega) (by omega), h.or.keep kx (by omega) (by omega), h.ne, h.nf, h.nr, h.lf, h.lr, h.lx, by rw [hos]; exact huf, by rw [hos]; exact hur⟩
  have := h.box.set (k := 2) (.int .i64 v) (by simp [trCells])
  simpa [trCells] using this
theorem TrS.emptyR (h : TrS w g A n cap bs x gf cf gr cr fs rs z W) (hg : g < w.heap.size) : TrS w g A n cap bs x gf cf W.heap.size 0 fs [] z ((W.setCell ⟨x, 1, none⟩ (.slice (some ⟨W.heap.size, 0, none⟩) 0 0)).alloc (.cells #[] 2)) := by
  have hlf := h.lf
  have hlr := h.lr
  have hlx := h.lx
  have huf := h.uf
  have hur := h.ur
  have hnf := h.nf
  have hnr := h.nr
  have hux := h.box.lt
  have hws := h.kp.size
  have kx : Keep x (x + 1) W (W.setCell ⟨x, 1, none⟩ (.slice (some ⟨W.heap.size, 0, none⟩) 0 0)) := keepSet _ x 1 _
  have b2 : Below w.heap.size W (W.setCell ⟨x, 1, none⟩ (.slice (some ⟨W.heap.size, 0, none⟩) 0 0)) := kx.below (by omega) h.kp.size
  have hos : (W.setCell ⟨x, 1, none⟩ (.slice (some ⟨W.heap.size, 0, none⟩) 0 0)).heap.size = W.heap.size := by simp
  have hb := (Below.refl (W.setCell ⟨x, 1, none⟩ (.slice (some ⟨W.heap.size, 0, none⟩) 0 0)).heap.size (W.setCell ⟨x, 1, none⟩ (.slice (some ⟨W.heap.size, 0, none⟩) 0 0))).alloc (Nat.le_refl _) (.cells #[] 2)
  have hbs := hb.size
  have ho := ow_none (W.setCell ⟨x, 1, none⟩ (.slice (some ⟨W.heap.size, 0, none⟩) 0 0))
  have hbx := h.box.set (k := 1) (.slice (some ⟨W.heap.size, 0, none⟩) 0 0) (by simp [trCells])
  have hz : ((W.setCell ⟨x, 1, none⟩ (.slice (some ⟨W.heap.size, 0, none⟩) 0 0)).alloc (.cells #[] 2)).heap.size = W.heap.size + 1 := by simp
  have hres := (h.res.keep kx (by omega)).below hb
  have hof := (h.of.keep kx (by omega) (by omega)).below hb (by omega)
  have hsrc := (h.src.below' b2 hg).below hb
  have hkp := (h.kp.then_below b2).trans (Keep.of_below hb (Nat.le_refl _) g (g + 1))
  rw [hos] at ho
  refine ⟨hsrc, hkp, ?_, hres, hof, ho, by omega, h.nf, by omega, h.lf, by omega, h.lx, by rw [hz]; omega, by rw [hz]; omega⟩
  have := hbx.below hb
  simpa [trCells] using this
end
/-- What DrawnT says, as it is used. -/
theorem DrawnT.of {m : Nat} {w w' : World} {g : Nat} {A : Option Addr} {n cap : Nat} {bs : List Int} {gf cf gr cr : Nat} {fs rs : List Int} {z : Int} {v : Value} (hv : v = trainV ⟨fs, rs, z⟩ (some ⟨gf, 0, none⟩) cf (some ⟨gr, 0, none⟩) cr) (hf : 1 ≤ fs.length ∧ fs.length ≤ 4) (hr : rs.length ≤ m) (s : Src w' g A n cap bs) (k : Keep g (g + 1) w w') (of : Ow w' gf (gf + 1) 2 (some ⟨gf, 0, none⟩) fs.length cf (ints fs)) (or : Ow w' gr (gr + 1) 2 (some ⟨gr, 0, none⟩) rs.length cr (ints rs)) (hne : gf ≠ gr) (lf : w.heap.size ≤ gf) (lr : w.heap.size ≤ gr) (uf : gf < w'.heap.size) (ur : gr < w'.heap.size) : DrawnT m w g A n cap bs (.returned v) w' :=
  ⟨⟨fs, rs, z⟩, gf, cf, gr, cr, by rw [hv], hf, hr, s, k, of, or, hne, lf, lr, uf, ur⟩
set_option maxRecDepth 100000 in
set_option maxHeartbeats 16000000 in
theorem drawL09 (g : Nat) (A : Option Addr) (n cap : Nat) (bs : List Int) (w : World) (h : Src w g A n cap bs) :
    Calls Try.prog 77 #[.pointer (some ⟨g, 0, none⟩)] w (DrawnT 11 w g A n cap bs) := by
  have HN := Go.Lib.hid (fun (m : Int) (w0 : World) (s : Src w0 g A n cap bs) => next g A n cap bs m w0 s)
  have HP := Go.Lib.hid (fun (w0 : World) (s : Src w0 g A n cap bs) (zs : List Int) (m : Nat) (hm : zs.length = m) (h0 : 0 < m) (h1 : m ≤ 1000) t cs (hc : cs = (ints zs).toArray) => pickNew g A n cap bs w0 s zs m hm h0 (by omega) (fun x => True) (fun _ _ => trivial) (t := t) hc)
  have HD := Go.Lib.hid (fun w0 s0 => drawGood g A n cap bs w0 s0)
  have HG := Go.Lib.hid h.lt
  have S0 := Go.Lib.hid h
  obtain ⟨i0, hi, hz0, hz1, hz2⟩ := info_parts infoI64
  clear h
  go_enter Try.func77, Try.ntmps77
  go_upto_region 1 with fail
  refine wp_gen (R := fun W => Box W w.heap.size [.slice none 0 0, .slice none 0 0, .int .i64 0] ∧ Src W g A n cap bs ∧ Keep g (g + 1) w W ∧ W.heap.size = w.heap.size + 1) ⟨Box.new rfl rfl, S0.out.below (by go_grown), keepAlloc' _ _ _, by simp⟩ ?_
  rintro W1 ⟨kb, s1, k1, e1⟩
  have HB := Go.Lib.hid kb
  have S1 := Go.Lib.hid s1
  have K1 := Go.Lib.hid k1
  have E1 := Go.Lib.hid e1
  clear kb s1 k1 e1 S0
  go_wp2_with fail
  refine (HD.out _ S1.out).mono ?_
  rintro _ w2 ⟨x0, gf, cf, gr, cr, rfl, hf, hr, s2, k2, of, or, hne, lf, lr, uf, ur⟩
  obtain ⟨fs, rs, z⟩ := x0
  have hst : ∀ t, TrS w g A n cap bs w2.heap.size gf cf gr cr fs rs z (w2.alloc (.cells #[.slice (some ⟨gf, 0, none⟩) fs.length cf, .slice (some ⟨gr, 0, none⟩) rs.length cr, .int .i64 z] t)) := fun t => by
    have he := E1.out
    have hg := HG.out
    exact TrS.make s2 (K1.out.trans k2) (HB.out.keep k2 (by omega)) of or hne (by omega) (by omega) uf ur
  have HFL := Go.Lib.hid (show 1 ≤ fs.length ∧ fs.length ≤ 4 from hf)
  have HRL := Go.Lib.hid (show rs.length ≤ 10 from hr)
  unfold trainV
  clear hf hr s2 k2 of or hne lf lr uf ur HB S1 K1 E1
  go_upto_region 2 with fail
  refine wp_gen (R := fun W => TrS w g A n cap bs w2.heap.size gf cf gr cr fs rs z W) (hst _) ?_
  rintro W3 ht
  have HT := Go.Lib.hid ht
  clear ht hst
  generalize w2.heap.size = x at *
  go_wp2_with fail
  refine (HN.out _ _ HT.out.src).mono ?_
  rintro _ w4 ⟨v, rfl, v0, v1, s4, k4⟩
  have HT := Go.Lib.hid (HT.out.next HG.out s4 k4)
  clear s4 k4 v1
  go_upto_block 0 with fail
  go_cut [] (fun wx => ∃ (gf cf gr cr : Nat) (fs rs : List Int) (z : Int), (1 ≤ fs.length ∧ fs.length ≤ 4) ∧ rs.length ≤ 11 ∧ TrS w g A n cap bs x gf cf gr cr fs rs z wx)
  case first =>
    by_cases h0 : v = 0
    case pos =>
      subst h0
      have hfl := HFL.out.1
      have hfn : 0 < fs.length := by omega
      have hfi : (0 : Int) < fs.length := by omega
      have hxf : x ≠ gf := fun e => HT.out.nf e.symm
      have hc0 : w4.cell? ⟨x, 0, none⟩ = some (.slice (some ⟨gf, 0, none⟩) fs.length cf) := HT.out.box.at_ 0 _ rfl
      have hxl := HT.out.box.lt
      go_upto_region 4 with fail
      refine wp_region_held_drew (S := fun w' => w'.cell? ⟨x, 0, none⟩ = some (.slice (some ⟨gf, 0, none⟩) fs.length cf)) (by kernel_rfl) (by exact hc0) (fun hHeld => ?_)
      change wpAnyH _ _ _ _ _ _ _ _ (w4.drewN 1)
      have HTV := Go.Lib.hid (HT.out.below HG.out (below_drewN (Below.refl w4.heap.size w4) 1))
      generalize w4.drewN 1 = V at *
      have hxl : x < V.heap.size := HTV.out.box.lt
      have hc0 : V.cell? ⟨x, 0, none⟩ = some (.slice (some ⟨gf, 0, none⟩) fs.length cf) := HTV.out.box.at_ 0 _ rfl
      refine wpAnyH_take (i := 0) (v := ?vp1) rfl (by kernel_rfl) (by kernel_rfl) (by kernel_rfl) (fun _ _ _ h => h) (Or.inl ⟨by rfl, ?hyp1⟩) (by assumption) ?restp1
      case hyp1 => (intro w hSw; (try dsimp only at hSw); go_simp; try with_reducible rfl)
      try simp only [List.getElem_toArray, List.getElem_cons_succ, List.getElem_cons_zero, Act.put, List.setIfInBounds_toArray, List.set_cons_zero, List.set_cons_succ]
      refine wpAnyH_take (i := 1) (v := ?vp2) rfl (by kernel_rfl) (by kernel_rfl) (by kernel_rfl) (fun _ _ _ h => h) (Or.inl ⟨by rfl, ?hyp2⟩) (by assumption) ?restp2
      case hyp2 => (intro w hSw; (try dsimp only at hSw); go_simp; try with_reducible rfl)
      try simp only [List.getElem_toArray, List.getElem_cons_succ, List.getElem_cons_zero, Act.put, List.setIfInBounds_toArray, List.set_cons_zero, List.set_cons_succ]
      refine wpAnyH_take (i := 2) (v := ?vp3) rfl (by kernel_rfl) (by kernel_rfl) (by kernel_rfl) (fun _ _ _ h => h) (Or.inl ⟨by rfl, ?hyp3⟩) (by assumption) ?restp3
      case hyp3 => (intro w hSw; (try dsimp only at hSw); go_simp; try with_reducible rfl)
      try simp only [List.getElem_toArray, List.getElem_cons_succ, List.getElem_cons_zero, Act.put, List.setIfInBounds_toArray, List.set_cons_zero, List.set_cons_succ]
      refine wpAnyH_ready (rs := [3]) (by kernel_rfl) (by simp) ?_
      refine AllReadyH.cons rfl (fun K hK => ?_) AllReadyH.nil
      go_simp
      refine hK.out _ _ ?_ (fun hHeld => ?_)
      · exact (((Below.refl V.heap.size V).alloc (Nat.le_refl _) _).cell (p := ⟨x, 0, none⟩) hxl).trans hc0
      clear hK K
      try simp only [List.getElem_toArray, List.getElem_cons_succ, List.getElem_cons_zero, Act.put, List.setIfInBounds_toArray, List.set_cons_zero, List.set_cons_succ]
      refine wpAnyH_ready (rs := [4]) (by kernel_rfl) (by simp) ?_
      refine AllReadyH.cons rfl (fun K hK => ?_) AllReadyH.nil
      go_simp
      (go_at_call 78; refine (HP.out _ HTV.out.src [19, 20, 60, 61] 4 rfl (by omega) (by omega) _ _ rfl).mono ?_; rintro _ w5 ⟨pv, rfl, -, s5, k5⟩)
      have HT5 := Go.Lib.hid (HTV.out.next HG.out s5 k5)
      clear s5 k5
      refine hK.out _ _ ?_ (fun hHeld => ?_)
      · exact HT5.out.box.at_ 0 _ rfl
      clear hK K
      try simp only [List.getElem_toArray, List.getElem_cons_succ, List.getElem_cons_zero, Act.put, List.setIfInBounds_toArray, List.set_cons_zero, List.set_cons_succ]
      refine wpAnyH_take (i := 5) (v := ?vp4) rfl (by kernel_rfl) (by kernel_rfl) (by kernel_rfl) (fun _ _ _ h => h) (Or.inl ⟨by rfl, ?hyp4⟩) (by assumption) ?restp4
      case hyp4 => (intro w hSw; (try dsimp only at hSw); go_simp; try with_reducible rfl)
      try simp only [List.getElem_toArray, List.getElem_cons_succ, List.getElem_cons_zero, Act.put, List.setIfInBounds_toArray, List.set_cons_zero, List.set_cons_succ]
      refine wpAnyH_ready (rs := [6]) (by kernel_rfl) (by simp) ?_
      refine AllReadyH.cons rfl (fun K hK => ?_) AllReadyH.nil
      have hcf : w5.cell? ⟨gf, 0, none⟩ = some (.int .i64 (fs.getD 0 0)) := (HT5.out.of.cell (by omega)).trans (ints_at fs 0 (by omega))
      have hff := HT5.out.of.free 0
      go_simp
      have HT6 := Go.Lib.hid (HT5.out.setF0 HG.out pv)
      clear hcf hff
      refine hK.out _ _ ?_ (fun hHeld => ?_)
      · exact (cell_far hxf).trans (HT5.out.box.at_ 0 _ rfl)
      clear hK K
      try simp only [List.getElem_toArray, List.getElem_cons_succ, List.getElem_cons_zero, Act.put, List.setIfInBounds_toArray, List.set_cons_zero, List.set_cons_succ]
      refine wpAnyH_done (by kernel_rfl) ?_ _
      clear hc0 hxl
      go_wp2_with fail
      go_meet
      exact ⟨gf, cf, gr, cr, fs.set 0 pv, rs, z, by rw [List.length_set]; exact HFL.out, by have := HRL.out; omega, HT6.out⟩
    case neg =>
      have hb0 : (v == 0) = false := by simpa using h0
      by_cases h1 : v = 1
      case pos =>
        subst h1
        go_upto_region 6 with fail
        refine wp_region_held_drew (S := fun _ => True) (by kernel_rfl) trivial (fun hHeld => ?_)
        change wpAnyH _ _ _ _ _ _ _ _ (w4.drewN 1)
        have HTV := Go.Lib.hid (HT.out.below HG.out (below_drewN (Below.refl w4.heap.size w4) 1))
        generalize w4.drewN 1 = V at *
        have hxl : x < V.heap.size := HTV.out.box.lt
        have hc1 : V.cell? ⟨x, 1, none⟩ = some (.slice (some ⟨gr, 0, none⟩) rs.length cr) := HTV.out.box.at_ 1 _ rfl
        refine wpAnyH_take (i := 0) (v := ?vq1) rfl (by kernel_rfl) (by kernel_rfl) (by kernel_rfl) (fun _ _ _ h => h) (Or.inl ⟨by rfl, ?hyq1⟩) (by assumption) ?restq1
        case hyq1 => (intro w hSw; (try dsimp only at hSw); go_simp; try with_reducible rfl)
        try simp only [List.getElem_toArray, List.getElem_cons_succ, List.getElem_cons_zero, Act.put, List.setIfInBounds_toArray, List.set_cons_zero, List.set_cons_succ]
        refine wpAnyH_take (i := 2) (v := ?vq2) rfl (by kernel_rfl) (by kernel_rfl) (by kernel_rfl) (fun _ _ _ h => h) (Or.inl ⟨by rfl, ?hyq2⟩) (by assumption) ?restq2
        case hyq2 => (intro w hSw; (try dsimp only at hSw); go_simp; try with_reducible rfl)
        try simp only [List.getElem_toArray, List.getElem_cons_succ, List.getElem_cons_zero, Act.put, List.setIfInBounds_toArray, List.set_cons_zero, List.set_cons_succ]
        refine wpAnyH_ready (rs := [1, 3]) (by kernel_rfl) (by simp) ?_
        refine AllReadyH.cons rfl (fun K hK => ?_) (AllReadyH.cons rfl (fun K hK => ?_) AllReadyH.nil)
        · have q1 := HTV.out.box.at_ 1 _ rfl
          have qx := HTV.out.box.lt
          go_simp
          refine hK.out _ _ ?_ (fun hHeld => ?_)
          · trivial
          clear hK K
          try simp only [List.getElem_toArray, List.getElem_cons_succ, List.getElem_cons_zero, Act.put, List.setIfInBounds_toArray, List.set_cons_zero, List.set_cons_succ]
          refine wpAnyH_ready (rs := [3]) (by kernel_rfl) (by simp) ?_
          refine AllReadyH.cons rfl (fun K hK => ?_) AllReadyH.nil
          go_simp
          refine hK.out _ _ ?_ (fun hHeld => ?_)
          · trivial
          clear hK K
          try simp only [List.getElem_toArray, List.getElem_cons_succ, List.getElem_cons_zero, Act.put, List.setIfInBounds_toArray, List.set_cons_zero, List.set_cons_succ]
          refine wpAnyH_ready (rs := [4]) (by kernel_rfl) (by simp) ?_
          refine AllReadyH.cons rfl (fun K hK => ?_) AllReadyH.nil
          go_simp
          (go_at_call 78; refine (HP.out _ HTV.out.src [52, 53, 9] 3 rfl (by omega) (by omega) _ _ rfl).mono ?_; rintro _ w5 ⟨pv, rfl, -, s5, k5⟩)
          have HT5 := Go.Lib.hid (HTV.out.next HG.out s5 k5)
          clear s5 k5
          refine hK.out _ _ ?_ (fun hHeld => ?_)
          · trivial
          clear hK K
          try simp only [List.getElem_toArray, List.getElem_cons_succ, List.getElem_cons_zero, Act.put, List.setIfInBounds_toArray, List.set_cons_zero, List.set_cons_succ]
          refine wpAnyH_ready (rs := [5]) (by kernel_rfl) (by simp) ?_
          refine AllReadyH.cons rfl (fun K hK => ?_) AllReadyH.nil
          go_simp
          refine hK.out _ _ ?_ (fun hHeld => ?_)
          · trivial
          clear hK K
          try simp only [List.getElem_toArray, List.getElem_cons_succ, List.getElem_cons_zero, Act.put, List.setIfInBounds_toArray, List.set_cons_zero, List.set_cons_succ]
          refine wpAnyH_ready (rs := [6]) (by kernel_rfl) (by simp) ?_
          refine AllReadyH.cons rfl (fun K hK => ?_) AllReadyH.nil
          refine op_app rfl (.tmp 19) (.tmp 23) 24 rfl (w.heap.size + 1) 2 i0 (.int .i64 0) 8 Try.underlying24 hi hz0 hz1 hz2 rfl gr rs.length cr (ints rs) rfl (((HT5.out.or.lower HT5.out.lr).1).alloc _) ⟨w5.heap.size, 0, none⟩ 1 1 [.int .i64 pv] rfl rfl (cell_one_new _ _ _) (by simp [Value.oneCell']) (by unfold maxLen; have := HRL.out; omega) (by have := HRL.out; omega) (by have := HT5.out.kp.size; have := HT5.out.lf; have := HT5.out.uf; simp; omega) (rs.length + 1) rfl (ints rs ++ [.int .i64 pv]) rfl ?_
          intro g1 cap1 w7 hown hgrow hat hlt
          have hat2 : (Value.slice (some ⟨g1, 0, none⟩) (rs.length + 1) cap1).ownBlock = (Value.slice (some ⟨gr, 0, none⟩) rs.length cr).ownBlock ∨ (Value.slice (some ⟨g1, 0, none⟩) (rs.length + 1) cap1).ownBlock = some (w5.alloc (.cells #[.int .i64 pv] 2)).heap.size := hat.imp (fun e => by rw [e]; rfl) (fun e => by rw [e]; rfl)
          obtain ⟨g2, c2, e2, hbx, hts⟩ := HT5.out.appR HG.out rfl hown hgrow hat2
          cases e2
          have HBX := Go.Lib.hid hbx
          have HTS := Go.Lib.hid hts
          clear hown hgrow hat hat2 hlt hbx hts
          refine hK.out _ _ ?_ (fun hHeld => ?_)
          · trivial
          clear hK K
          try simp only [List.getElem_toArray, List.getElem_cons_succ, List.getElem_cons_zero, Act.put, List.setIfInBounds_toArray, List.set_cons_zero, List.set_cons_succ]
          refine wpAnyH_take (i := 7) (v := ?vq3) rfl (by kernel_rfl) (by kernel_rfl) (by kernel_rfl) (fun _ _ _ h => h) (Or.inl ⟨by rfl, ?hyq3⟩) (by assumption) ?restq3
          case hyq3 => (intro w hSw; (try dsimp only at hSw); go_simp; try with_reducible rfl)
          try simp only [List.getElem_toArray, List.getElem_cons_succ, List.getElem_cons_zero, Act.put, List.setIfInBounds_toArray, List.set_cons_zero, List.set_cons_succ]
          refine wpAnyH_ready (rs := [8]) (by kernel_rfl) (by simp) ?_
          refine AllReadyH.cons rfl (fun K hK => ?_) AllReadyH.nil
          have q0 := HBX.out.at_ 0 _ rfl
          have q1 := HBX.out.at_ 1 _ rfl
          have q2 := HBX.out.at_ 2 _ rfl
          have qf := HBX.out.fr
          go_simp
          refine hK.out _ _ ?_ (fun hHeld => ?_)
          · trivial
          clear hK K
          try simp only [List.getElem_toArray, List.getElem_cons_succ, List.getElem_cons_zero, Act.put, List.setIfInBounds_toArray, List.set_cons_zero, List.set_cons_succ]
          refine wpAnyH_done (by kernel_rfl) ?_ _
          clear hc1 hxl
          go_wp2_with fail
          go_meet
          exact ⟨gf, cf, g1, cap1, fs, rs ++ [pv], z, HFL.out, by rw [List.length_append]; have := HRL.out; simp; omega, HTS.out⟩
        · go_simp
          refine hK.out _ _ ?_ (fun hHeld => ?_)
          · trivial
          clear hK K
          try simp only [List.getElem_toArray, List.getElem_cons_succ, List.getElem_cons_zero, Act.put, List.setIfInBounds_toArray, List.set_cons_zero, List.set_cons_succ]
          refine wpAnyH_ready (rs := [1, 4]) (by kernel_rfl) (by simp) ?_
          refine AllReadyH.cons rfl (fun K hK => ?_) (AllReadyH.cons rfl (fun K hK => ?_) AllReadyH.nil)
          · have q1 := HTV.out.box.at_ 1 _ rfl
            have qx := HTV.out.box.lt
            go_simp
            refine hK.out _ _ ?_ (fun hHeld => ?_)
            · trivial
            clear hK K
            try simp only [List.getElem_toArray, List.getElem_cons_succ, List.getElem_cons_zero, Act.put, List.setIfInBounds_toArray, List.set_cons_zero, List.set_cons_succ]
            refine wpAnyH_ready (rs := [4]) (by kernel_rfl) (by simp) ?_
            refine AllReadyH.cons rfl (fun K hK => ?_) AllReadyH.nil
            go_simp
            (go_at_call 78; refine (HP.out _ HTV.out.src [52, 53, 9] 3 rfl (by omega) (by omega) _ _ rfl).mono ?_; rintro _ w5 ⟨pv, rfl, -, s5, k5⟩)
            have HT5 := Go.Lib.hid (HTV.out.next HG.out s5 k5)
            clear s5 k5
            refine hK.out _ _ ?_ (fun hHeld => ?_)
            · trivial
            clear hK K
            try simp only [List.getElem_toArray, List.getElem_cons_succ, List.getElem_cons_zero, Act.put, List.setIfInBounds_toArray, List.set_cons_zero, List.set_cons_succ]
            refine wpAnyH_ready (rs := [5]) (by kernel_rfl) (by simp) ?_
            refine AllReadyH.cons rfl (fun K hK => ?_) AllReadyH.nil
            go_simp
            refine hK.out _ _ ?_ (fun hHeld => ?_)
            · trivial
            clear hK K
            try simp only [List.getElem_toArray, List.getElem_cons_succ, List.getElem_cons_zero, Act.put, List.setIfInBounds_toArray, List.set_cons_zero, List.set_cons_succ]
            refine wpAnyH_ready (rs := [6]) (by kernel_rfl) (by simp) ?_
            refine AllReadyH.cons rfl (fun K hK => ?_) AllReadyH.nil
            refine op_app rfl (.tmp 19) (.tmp 23) 24 rfl (w.heap.size + 1) 2 i0 (.int .i64 0) 8 Try.underlying24 hi hz0 hz1 hz2 rfl gr rs.length cr (ints rs) rfl (((HT5.out.or.lower HT5.out.lr).1).alloc _) ⟨w5.heap.size, 0, none⟩ 1 1 [.int .i64 pv] rfl rfl (cell_one_new _ _ _) (by simp [Value.oneCell']) (by unfold maxLen; have := HRL.out; omega) (by have := HRL.out; omega) (by have := HT5.out.kp.size; have := HT5.out.lf; have := HT5.out.uf; simp; omega) (rs.length + 1) rfl (ints rs ++ [.int .i64 pv]) rfl ?_
            intro g1 cap1 w7 hown hgrow hat hlt
            have hat2 : (Value.slice (some ⟨g1, 0, none⟩) (rs.length + 1) cap1).ownBlock = (Value.slice (some ⟨gr, 0, none⟩) rs.length cr).ownBlock ∨ (Value.slice (some ⟨g1, 0, none⟩) (rs.length + 1) cap1).ownBlock = some (w5.alloc (.cells #[.int .i64 pv] 2)).heap.size := hat.imp (fun e => by rw [e]; rfl) (fun e => by rw [e]; rfl)
            obtain ⟨g2, c2, e2, hbx, hts⟩ := HT5.out.appR HG.out rfl hown hgrow hat2
            cases e2
            have HBX := Go.Lib.hid hbx
            have HTS := Go.Lib.hid hts
            clear hown hgrow hat hat2 hlt hbx hts
            refine hK.out _ _ ?_ (fun hHeld => ?_)
            · trivial
            clear hK K
            try simp only [List.getElem_toArray, List.getElem_cons_succ, List.getElem_cons_zero, Act.put, List.setIfInBounds_toArray, List.set_cons_zero, List.set_cons_succ]
            refine wpAnyH_take (i := 7) (v := ?vq4) rfl (by kernel_rfl) (by kernel_rfl) (by kernel_rfl) (fun _ _ _ h => h) (Or.inl ⟨by rfl, ?hyq4⟩) (by assumption) ?restq4
            case hyq4 => (intro w hSw; (try dsimp only at hSw); go_simp; try with_reducible rfl)
            try simp only [List.getElem_toArray, List.getElem_cons_succ, List.getElem_cons_zero, Act.put, List.setIfInBounds_toArray, List.set_cons_zero, List.set_cons_succ]
            refine wpAnyH_ready (rs := [8]) (by kernel_rfl) (by simp) ?_
            refine AllReadyH.cons rfl (fun K hK => ?_) AllReadyH.nil
            have q0 := HBX.out.at_ 0 _ rfl
            have q1 := HBX.out.at_ 1 _ rfl
            have q2 := HBX.out.at_ 2 _ rfl
            have qf := HBX.out.fr
            go_simp
            refine hK.out _ _ ?_ (fun hHeld => ?_)
            · trivial
            clear hK K
            try simp only [List.getElem_toArray, List.getElem_cons_succ, List.getElem_cons_zero, Act.put, List.setIfInBounds_toArray, List.set_cons_zero, List.set_cons_succ]
            refine wpAnyH_done (by kernel_rfl) ?_ _
            clear hc1 hxl
            go_wp2_with fail
            go_meet
            exact ⟨gf, cf, g1, cap1, fs, rs ++ [pv], z, HFL.out, by rw [List.length_append]; have := HRL.out; simp; omega, HTS.out⟩
          · go_simp
            (go_at_call 78; refine (HP.out _ HTV.out.src [52, 53, 9] 3 rfl (by omega) (by omega) _ _ rfl).mono ?_; rintro _ w5 ⟨pv, rfl, -, s5, k5⟩)
            have HT5 := Go.Lib.hid (HTV.out.next HG.out s5 k5)
            clear s5 k5
            refine hK.out _ _ ?_ (fun hHeld => ?_)
            · trivial
            clear hK K
            try simp only [List.getElem_toArray, List.getElem_cons_succ, List.getElem_cons_zero, Act.put, List.setIfInBounds_toArray, List.set_cons_zero, List.set_cons_succ]
            refine wpAnyH_ready (rs := [1, 5]) (by kernel_rfl) (by simp) ?_
            refine AllReadyH.cons rfl (fun K hK => ?_) (AllReadyH.cons rfl (fun K hK => ?_) AllReadyH.nil)
            · have q1 := HT5.out.box.at_ 1 _ rfl
              have qx := HT5.out.box.lt
              go_simp
              refine hK.out _ _ ?_ (fun hHeld => ?_)
              · trivial
              clear hK K
              try simp only [List.getElem_toArray, List.getElem_cons_succ, List.getElem_cons_zero, Act.put, List.setIfInBounds_toArray, List.set_cons_zero, List.set_cons_succ]
              refine wpAnyH_ready (rs := [5]) (by kernel_rfl) (by simp) ?_
              refine AllReadyH.cons rfl (fun K hK => ?_) AllReadyH.nil
              go_simp
              refine hK.out _ _ ?_ (fun hHeld => ?_)
              · trivial
              clear hK K
              try simp only [List.getElem_toArray, List.getElem_cons_succ, List.getElem_cons_zero, Act.put, List.setIfInBounds_toArray, List.set_cons_zero, List.set_cons_succ]
              refine wpAnyH_ready (rs := [6]) (by kernel_rfl) (by simp) ?_
              refine AllReadyH.cons rfl (fun K hK => ?_) AllReadyH.nil
              refine op_app rfl (.tmp 19) (.tmp 23) 24 rfl (w.heap.size + 1) 2 i0 (.int .i64 0) 8 Try.underlying24 hi hz0 hz1 hz2 rfl gr rs.length cr (ints rs) rfl (((HT5.out.or.lower HT5.out.lr).1).alloc _) ⟨w5.heap.size, 0, none⟩ 1 1 [.int .i64 pv] rfl rfl (cell_one_new _ _ _) (by simp [Value.oneCell']) (by unfold maxLen; have := HRL.out; omega) (by have := HRL.out; omega) (by have := HT5.out.kp.size; have := HT5.out.lf; have := HT5.out.uf; simp; omega) (rs.length + 1) rfl (ints rs ++ [.int .i64 pv]) rfl ?_
              intro g1 cap1 w7 hown hgrow hat hlt
              have hat2 : (Value.slice (some ⟨g1, 0, none⟩) (rs.length + 1) cap1).ownBlock = (Value.slice (some ⟨gr, 0, none⟩) rs.length cr).ownBlock ∨ (Value.slice (some ⟨g1, 0, none⟩) (rs.length + 1) cap1).ownBlock = some (w5.alloc (.cells #[.int .i64 pv] 2)).heap.size := hat.imp (fun e => by rw [e]; rfl) (fun e => by rw [e]; rfl)
              obtain ⟨g2, c2, e2, hbx, hts⟩ := HT5.out.appR HG.out rfl hown hgrow hat2
              cases e2
              have HBX := Go.Lib.hid hbx
              have HTS := Go.Lib.hid hts
              clear hown hgrow hat hat2 hlt hbx hts
              refine hK.out _ _ ?_ (fun hHeld => ?_)
              · trivial
              clear hK K
              try simp only [List.getElem_toArray, List.getElem_cons_succ, List.getElem_cons_zero, Act.put, List.setIfInBounds_toArray, List.set_cons_zero, List.set_cons_succ]
              refine wpAnyH_take (i := 7) (v := ?vq5) rfl (by kernel_rfl) (by kernel_rfl) (by kernel_rfl) (fun _ _ _ h => h) (Or.inl ⟨by rfl, ?hyq5⟩) (by assumption) ?restq5
              case hyq5 => (intro w hSw; (try dsimp only at hSw); go_simp; try with_reducible rfl)
              try simp only [List.getElem_toArray, List.getElem_cons_succ, List.getElem_cons_zero, Act.put, List.setIfInBounds_toArray, List.set_cons_zero, List.set_cons_succ]
              refine wpAnyH_ready (rs := [8]) (by kernel_rfl) (by simp) ?_
              refine AllReadyH.cons rfl (fun K hK => ?_) AllReadyH.nil
              have q0 := HBX.out.at_ 0 _ rfl
              have q1 := HBX.out.at_ 1 _ rfl
              have q2 := HBX.out.at_ 2 _ rfl
              have qf := HBX.out.fr
              go_simp
              refine hK.out _ _ ?_ (fun hHeld => ?_)
              · trivial
              clear hK K
              try simp only [List.getElem_toArray, List.getElem_cons_succ, List.getElem_cons_zero, Act.put, List.setIfInBounds_toArray, List.set_cons_zero, List.set_cons_succ]
              refine wpAnyH_done (by kernel_rfl) ?_ _
              clear hc1 hxl
              go_wp2_with fail
              go_meet
              exact ⟨gf, cf, g1, cap1, fs, rs ++ [pv], z, HFL.out, by rw [List.length_append]; have := HRL.out; simp; omega, HTS.out⟩
            · go_simp
              refine hK.out _ _ ?_ (fun hHeld => ?_)
              · trivial
              clear hK K
              try simp only [List.getElem_toArray, List.getElem_cons_succ, List.getElem_cons_zero, Act.put, List.setIfInBounds_toArray, List.set_cons_zero, List.set_cons_succ]
              refine wpAnyH_ready (rs := [1]) (by kernel_rfl) (by simp) ?_
              refine AllReadyH.cons rfl (fun K hK => ?_) AllReadyH.nil
              have q1 := HT5.out.box.at_ 1 _ rfl
              have qx := HT5.out.box.lt
              go_simp
              refine hK.out _ _ ?_ (fun hHeld => ?_)
              · trivial
              clear hK K
              try simp only [List.getElem_toArray, List.getElem_cons_succ, List.getElem_cons_zero, Act.put, List.setIfInBounds_toArray, List.set_cons_zero, List.set_cons_succ]
              refine wpAnyH_ready (rs := [6]) (by kernel_rfl) (by simp) ?_
              refine AllReadyH.cons rfl (fun K hK => ?_) AllReadyH.nil
              refine op_app rfl (.tmp 19) (.tmp 23) 24 rfl (w.heap.size + 1) 2 i0 (.int .i64 0) 8 Try.underlying24 hi hz0 hz1 hz2 rfl gr rs.length cr (ints rs) rfl (((HT5.out.or.lower HT5.out.lr).1).alloc _) ⟨w5.heap.size, 0, none⟩ 1 1 [.int .i64 pv] rfl rfl (cell_one_new _ _ _) (by simp [Value.oneCell']) (by unfold maxLen; have := HRL.out; omega) (by have := HRL.out; omega) (by have := HT5.out.kp.size; have := HT5.out.lf; have := HT5.out.uf; simp; omega) (rs.length + 1) rfl (ints rs ++ [.int .i64 pv]) rfl ?_
              intro g1 cap1 w7 hown hgrow hat hlt
              have hat2 : (Value.slice (some ⟨g1, 0, none⟩) (rs.length + 1) cap1).ownBlock = (Value.slice (some ⟨gr, 0, none⟩) rs.length cr).ownBlock ∨ (Value.slice (some ⟨g1, 0, none⟩) (rs.length + 1) cap1).ownBlock = some (w5.alloc (.cells #[.int .i64 pv] 2)).heap.size := hat.imp (fun e => by rw [e]; rfl) (fun e => by rw [e]; rfl)
              obtain ⟨g2, c2, e2, hbx, hts⟩ := HT5.out.appR HG.out rfl hown hgrow hat2
              cases e2
              have HBX := Go.Lib.hid hbx
              have HTS := Go.Lib.hid hts
              clear hown hgrow hat hat2 hlt hbx hts
              refine hK.out _ _ ?_ (fun hHeld => ?_)
              · trivial
              clear hK K
              try simp only [List.getElem_toArray, List.getElem_cons_succ, List.getElem_cons_zero, Act.put, List.setIfInBounds_toArray, List.set_cons_zero, List.set_cons_succ]
              refine wpAnyH_take (i := 7) (v := ?vq6) rfl (by kernel_rfl) (by kernel_rfl) (by kernel_rfl) (fun _ _ _ h => h) (Or.inl ⟨by rfl, ?hyq6⟩) (by assumption) ?restq6
              case hyq6 => (intro w hSw; (try dsimp only at hSw); go_simp; try with_reducible rfl)
              try simp only [List.getElem_toArray, List.getElem_cons_succ, List.getElem_cons_zero, Act.put, List.setIfInBounds_toArray, List.set_cons_zero, List.set_cons_succ]
              refine wpAnyH_ready (rs := [8]) (by kernel_rfl) (by simp) ?_
              refine AllReadyH.cons rfl (fun K hK => ?_) AllReadyH.nil
              have q0 := HBX.out.at_ 0 _ rfl
              have q1 := HBX.out.at_ 1 _ rfl
              have q2 := HBX.out.at_ 2 _ rfl
              have qf := HBX.out.fr
              go_simp
              refine hK.out _ _ ?_ (fun hHeld => ?_)
              · trivial
              clear hK K
              try simp only [List.getElem_toArray, List.getElem_cons_succ, List.getElem_cons_zero, Act.put, List.setIfInBounds_toArray, List.set_cons_zero, List.set_cons_succ]
              refine wpAnyH_done (by kernel_rfl) ?_ _
              clear hc1 hxl
              go_wp2_with fail
              go_meet
              exact ⟨gf, cf, g1, cap1, fs, rs ++ [pv], z, HFL.out, by rw [List.length_append]; have := HRL.out; simp; omega, HTS.out⟩
      case neg =>
        have hb1 : (v == 1) = false := by simpa using h1
        by_cases h2 : v = 2
        case pos =>
          subst h2
          go_wp2_with fail
          refine (HP.out _ HT.out.src [999, 1000, 2500, 2501] 4 rfl (by omega) (by omega) _ _ rfl).mono ?_
          rintro _ w5 ⟨pv, rfl, -, s5, k5⟩
          have HT := Go.Lib.hid (HT.out.next HG.out s5 k5)
          clear s5 k5
          have hbx0 := HT.out.box
          have hc0 := hbx0.at_ 0 _ rfl
          have hc1 := hbx0.at_ 1 _ rfl
          have hc2 := hbx0.at_ 2 _ rfl
          have hfr := hbx0.fr
          have hxl := hbx0.lt
          clear hbx0
          have HZ := Go.Lib.hid (HT.out.setZ HG.out pv)
          go_wp2_with fail
          go_meet
          exact ⟨gf, cf, gr, cr, fs, rs, pv, HFL.out, by have := HRL.out; omega, HZ.out⟩
        case neg =>
          have hb2 : (v == 2) = false := by simpa using h2
          by_cases h3 : v = 3
          case pos =>
            subst h3
            have hbx0 := HT.out.box
            have hc0 := hbx0.at_ 0 _ rfl
            have hc1 := hbx0.at_ 1 _ rfl
            have hc2 := hbx0.at_ 2 _ rfl
            have hfr := hbx0.fr
            have hxl := hbx0.lt
            clear hbx0
            have HZ := Go.Lib.hid (HT.out.emptyR HG.out)
            go_wp2_with fail
            go_meet
            exact ⟨gf, cf, w4.heap.size, 0, fs, [], z, HFL.out, by simp, HZ.out⟩
          case neg =>
            have hb3 : (v == 3) = false := by simpa using h3
            go_wp2_with fail
            go_meet
            exact ⟨gf, cf, gr, cr, fs, rs, z, HFL.out, by have := HRL.out; omega, HT.out⟩
  case rest wc =>
    clear HT HFL HRL
    obtain ⟨gf, cf, gr, cr, fs, rs, z, hfl, hrl, ht⟩ := hcut
    have HT := Go.Lib.hid ht
    have HFL := Go.Lib.hid hfl
    have HRL := Go.Lib.hid hrl
    clear ht hfl hrl
    have hbx0 := HT.out.box
    have hc0 := hbx0.at_ 0 _ rfl
    have hc1 := hbx0.at_ 1 _ rfl
    have hc2 := hbx0.at_ 2 _ rfl
    have hrs := HT.out.res
    have hd0 := hrs.at_ 0 _ rfl
    have hd1 := hrs.at_ 1 _ rfl
    have hd2 := hrs.at_ 2 _ rfl
    have hdf := hrs.fr
    have hdl := hrs.lt
    have hlx := HT.out.lx
    have hxw : ¬ x = w.heap.size := by omega
    clear hbx0 hrs
    go_wp2_with fail
    refine bodyPost_ret (v := trainV ⟨fs, rs, z⟩ (some ⟨gf, 0, none⟩) cf (some ⟨gr, 0, none⟩) cr) (by simp [results, trainV, Try.results77, go_sem, *]) rfl ?_
    have kF := (((Keep.refl w.heap.size (w.heap.size + 1) wc).setCell (p := ⟨w.heap.size, 0, none⟩) (Nat.le_refl _) (Nat.lt_succ_self _) (.slice (some ⟨gf, 0, none⟩) fs.length cf)).setCell (p := ⟨w.heap.size, 1, none⟩) (Nat.le_refl _) (Nat.lt_succ_self _) (.slice (some ⟨gr, 0, none⟩) rs.length cr)).setCell (p := ⟨w.heap.size, 2, none⟩) (Nat.le_refl _) (Nat.lt_succ_self _) (.int .i64 z)
    have hT := HT.out
    have bF := kF.below (Nat.le_refl _) hT.kp.size
    have hlf := hT.lf
    have hlr := hT.lr
    have huf := hT.uf
    have hur := hT.ur
    have hsF := kF.size
    exact DrawnT.of rfl HFL.out HRL.out (hT.src.below' bF HG.out) (hT.kp.then_below bF) (hT.of.keep kF (by omega) (.inr (by omega))) (hT.or.keep kF (by omega) (.inr (by omega))) hT.ne (by omega) (by omega) (by omega) (by omega)
end Go.Proofs.Ythedanpldebjcaa
