/- The model: slacks, the loosest gear. -/
import Derived.Test.YtilepehlmjohbaaChainS2
namespace Go.Proofs.Ytilepehlmjohbaa
open Go.RowKit
set_option linter.unusedSimpArgs false
set_option linter.unusedVariables false

theorem not_empty {W w3 : World} {t : TypeId} {b o : Nat} {v : Value} (hb : Below (W.alloc (.cells #[] t)).heap.size (W.alloc (.cells #[] t)) w3) (h : w3.cell? ⟨b, o, none⟩ = some v) : b ≠ W.heap.size := by
  rintro rfl
  rw [hb.cell (p := ⟨W.heap.size, o, none⟩) (by simp)] at h
  simp at h
theorem keepAllocQ (W : World) (g : Nat) (o : Obj) : Keep g (g + 1) W (W.alloc o) := Keep.of_below ((Below.refl W.heap.size W).alloc (Nat.le_refl _) o) (Nat.le_refl _) _ _
theorem keep_cell {w w1 : World} {lo hi b o : Nat} {v : Value} (hk : Keep lo hi w w1) (hc : w.cell? ⟨b, o, none⟩ = some v) (hb : b < lo ∨ hi ≤ b) : w1.cell? ⟨b, o, none⟩ = some v :=
  (World.cell?_of_block (hk.block b (cell_in hc) hb)).trans hc
/-- A list in the making that began in the block q; of all that was there in w3 nothing else turns. -/
structure GatQ (q : Nat) (w3 : World) (zs : List Int) (g cap : Nat) (wr : World) : Prop where
  own : wr.ownsRow q 2 1 (.slice (some ⟨g, 0, none⟩) zs.length cap) zs.length (ints zs)
  kp : Keep q (q + 1) w3 wr
  gg : g = q ∨ w3.heap.size ≤ g
  lt : g < wr.heap.size
theorem GatQ.below {q : Nat} {w3 wr w1 : World} {zs : List Int} {g cap : Nat} (h : GatQ q w3 zs g cap wr) (hq : q < w3.heap.size) (b : Below wr.heap.size wr w1) : GatQ q w3 zs g cap w1 := by
  have hk : Keep q (q + 1) wr w1 := Keep.of_below b (Nat.le_refl _) _ _
  have ho : Ow wr q wr.heap.size 2 (some ⟨g, 0, none⟩) zs.length cap (ints zs) := ⟨h.own, fun g' e => (h.own.lt g' e).2⟩
  exact ⟨(ho.below b (Nat.le_refl _)).1, h.kp.trans hk, h.gg, Nat.lt_of_lt_of_le h.lt b.size⟩
theorem GatQ.step {q : Nat} {w3 wr w5 : World} {zs : List Int} {g cap g1 cap1 : Nat} {z : Int} {o : Obj} (h : GatQ q w3 zs g cap wr) (hown : w5.ownsRow q 2 1 (.slice (some ⟨g1, 0, none⟩) (zs.length + 1) cap1) (zs.length + 1) (ints zs ++ [.int .i64 z])) (hgrow : (wr.alloc o).grownBy w5 (some g)) (hat : g1 = g ∨ g1 = (wr.alloc o).heap.size) (hlt : g1 < w5.heap.size) : GatQ q w3 (zs ++ [z]) g1 cap1 w5 := by
  have e : ints (zs ++ [z]) = ints zs ++ [.int .i64 z] := by simp [ints]
  have hs : (wr.alloc o).heap.size = wr.heap.size + 1 := by simp
  have hz := h.kp.size
  have ka := keepAllocQ wr q o
  have kb : ∀ k, k < w3.heap.size → (k < q ∨ q + 1 ≤ k) → w5.heap[k]? = (wr.alloc o).heap[k]? := fun k hk hd => hgrow.block k (by omega) (by
    have := h.gg
    simp
    omega)
  refine ⟨by rw [e, List.length_append]; exact hown, ⟨hgrow.os.trans (ka.os.trans h.kp.os), hgrow.tape.trans (ka.tape.trans h.kp.tape), hgrow.output.trans (ka.output.trans h.kp.output), by have := hgrow.size; omega, fun k hk hd => (kb k hk hd).trans (((h.kp.trans ka).block k hk hd))⟩, ?_, hlt⟩
  rcases hat with e | e
  · subst e; exact h.gg
  · right; omega
set_option maxRecDepth 100000 in
set_option maxHeartbeats 16000000 in
theorem specSlacks (x : Trn) (A : Option Addr) (c : Nat) (B : Option Addr) (d : Nat) (s l : Int) (w : World) (T : TrL x A c B d w) (hT : Train x) (hs : 3000 ≤ s ∧ s ≤ 6000) (hl : 40 ≤ l ∧ l ≤ 200) :
    Calls Try.prog 67 #[trainV x A c B d, .int .i64 s, .int .i64 l] w (fun e w' => ∃ A cap, e = .returned (.slice A (slacksOf x s l (ordI x)).length cap) ∧ Ow w' w.heap.size w'.heap.size 2 A (slacksOf x s l (ordI x)).length cap (ints (slacksOf x s l (ordI x))) ∧ Below w.heap.size w w') := by
  obtain ⟨i0, hi, hz0, hz1, hz2⟩ := info_parts infoI64
  have HT := Go.Lib.hid T
  have HX := Go.Lib.hid (boxT_box x A c B d w)
  have HXB := Go.Lib.hid (boxT_below x A c B d w)
  clear T
  have HTR := Go.Lib.hid hT
  have HD := Go.Lib.hid (fun w0 T0 => specOrder x A c B d w0 T0 hT)
  have hn36 := ordI_few hT
  have HOK := Go.Lib.hid (fun i (hi : i < (ordI x).length) => ordTo_ok (x := x) (k := x.f.length * x.r.length) (Nat.le_refl _) (mem_getD (gs := ordI x) (i := i) hi))
  have HRA := Go.Lib.hid (fun i (hi : i < (ordI x).length) => rowsG_at (gs := ordI x) (i := i) hi)
  have HLE := Go.Lib.hid (rowsG_len (ordI x))
  have HF1 := Go.Lib.hid (show 0 < x.f.length from hT.f.one)
  have HR1 := Go.Lib.hid (show 0 < x.r.length from hT.r.one)
  obtain ⟨s0, s1⟩ := hs
  obtain ⟨l0, l1⟩ := hl
  have el : IntKind.i64.wrap (1000 * l) = 1000 * l := IntWalk.i64_in _ (by omega)
  clear hT
  generalize ordI x = L at *
  rw [HLE.out] at HD
  unfold trainV at *
  go_enter Try.func67, Try.ntmps67
  go_upto_region 1 with fail
  refine wp_gen (R := fun W => Box W w.heap.size (trainC x A c B d) ∧ Below w.heap.size w W) ⟨HX.out, HXB.out⟩ ?_
  rintro W ⟨hx, hb⟩
  have HX1 := Go.Lib.hid hx
  have HB1 := Go.Lib.hid hb
  have HT1 := Go.Lib.hid (HT.out.below hb)
  clear hx hb HX HXB
  have hqs : w.heap.size < W.heap.size := HX1.out.lt
  have HB2 := Go.Lib.hid ((Below.refl W.heap.size W).alloc (Nat.le_refl _) (.cells #[] 2))
  have HX2 := Go.Lib.hid (HX1.out.below HB2.out)
  have HT2 := Go.Lib.hid (HT1.out.below HB2.out)
  have HG2 := Go.Lib.hid (show (W.alloc (.cells #[] 2)).ownsRow W.heap.size 2 1 (.slice (some ⟨W.heap.size, 0, none⟩) 0 0) 0 [] from own_none (Nat.le_refl _))
  have HNE := Go.Lib.hid (fun w3 b o v (hb : Below (W.alloc (.cells #[] 2)).heap.size (W.alloc (.cells #[] 2)) w3) (h : w3.cell? ⟨b, o, none⟩ = some v) => not_empty hb h)
  have HSZ := Go.Lib.hid (show (W.alloc (.cells #[] 2)).heap.size = W.heap.size + 1 by simp)
  go_upto_region 2 with fail
  refine wp_gen (R := fun V => V = W.alloc (.cells #[] 2)) rfl ?_
  rintro w2 hw2
  rw [← hw2] at HB2 HX2 HT2 HG2 HNE HSZ
  have HW2 := Go.Lib.hid hw2
  clear hw2 HX1
  have hc0 : w2.cell? ⟨w.heap.size, 0, none⟩ = some (.slice A x.f.length c) := HX2.out.at_ 0 _ rfl
  have hc1 : w2.cell? ⟨w.heap.size, 1, none⟩ = some (.slice B x.r.length d) := HX2.out.at_ 1 _ rfl
  have hc2 : w2.cell? ⟨w.heap.size, 2, none⟩ = some (.int .i64 x.n) := HX2.out.at_ 2 _ rfl
  obtain ⟨q, hq⟩ : ∃ q, W.heap.size = q := ⟨_, rfl⟩
  rw [hq] at HG2 HNE HSZ
  try simp only [hq]
  go_wp2_with fail
  refine (HD.out _ HT2.out).mono ?_
  rintro _ w3 ⟨gl, capl, rfl, oz, b3⟩
  have HLZ := Go.Lib.hid (oz.ls (by rw [HLE.out]; omega))
  have HGL := Go.Lib.hid (show q < gl by have := oz.lt; have := HSZ.out; omega)
  have HX3 := Go.Lib.hid (HX2.out.below b3)
  have HT3 := Go.Lib.hid (HT2.out.below b3)
  have HQ3 := Go.Lib.hid (show q < w3.heap.size by have := b3.size; have := HSZ.out; omega)
  have HN3 := Go.Lib.hid (fun b o v h => HNE.out w3 b o v b3 h)
  have h0 : Ow w2 q w2.heap.size 2 (some ⟨q, 0, none⟩) 0 0 (ints []) := by
    refine ⟨HG2.out, fun g e => ?_⟩
    have e1 : q = g := by simpa [Value.ownBlock] using e
    have := HSZ.out
    omega
  have HG3 := Go.Lib.hid (show GatQ q w3 (slacksOf x s l (L.take 0)) q 0 w3 from ⟨(h0.below b3 (Nat.le_refl _)).1, Keep.refl _ _ _, .inl rfl, HQ3.out⟩)
  clear h0
  have HBF := Go.Lib.hid (show Below w.heap.size w w3 from (HB1.out.trans (HB2.out.mono HB1.out.size)).trans (b3.mono (by have := HB1.out.size; have := HB2.out.size; omega)))
  have HQW := Go.Lib.hid (show w.heap.size ≤ q by omega)
  have HLC := Go.Lib.hid HLZ.out.le
  have hqw : w.heap.size ≠ q := by omega
  clear oz b3 hc0 hc1 hc2 HX2 HT2 HG2 HNE HW2 hq hqs
  go_wp2_with fail
  go_loopw [7, 9] (fun v u wr => ∃ (k ga ca : Nat), k ≤ L.length ∧ u = .int .i64 k ∧ v = .slice (some ⟨ga, 0, none⟩) (slacksOf x s l (L.take k)).length ca ∧ GatQ q w3 (slacksOf x s l (L.take k)) ga ca wr) (fun _ u _ => L.length - (intOf u).toNat)
  case atStart => exact ⟨0, q, 0, Nat.zero_le _, rfl, rfl, HG3.out⟩
  case round =>
    obtain ⟨k, ga, ca, hk, rfl, rfl, hgat⟩ := hrel
    have HGT := Go.Lib.hid hgat
    clear hgat HG3
    by_cases hlt : k < L.length
    case neg =>
      obtain rfl : k = L.length := by omega
      rw [List.take_length] at HGT ⊢
      have HF := Go.Lib.hid (show Ow wr w.heap.size wr.heap.size 2 (some ⟨ga, 0, none⟩) (slacksOf x s l L).length ca (ints (slacksOf x s l L)) from Ow.lower ⟨HGT.out.own, fun g' e => (HGT.out.own.lt g' e).2⟩ HQW.out)
      have HBE := Go.Lib.hid (HBF.out.trans (HGT.out.kp.below HQW.out HBF.out.size))
      go_wp2_with fail
      go_ret
      exact ⟨_, _, rfl, HF.out, HBE.out⟩
    case pos =>
      obtain ⟨eb, eo, D, dd, e, hgb, hrow0, hlr0⟩ := HLZ.out.at_ (k := k) (by rw [HLE.out]; exact hlt)
      cases e
      rw [HRA.out k hlt] at hrow0 hlr0
      rw [Nat.zero_add] at hrow0
      obtain ⟨hg1, hg2⟩ := HOK.out k hlt
      have gfb := HTR.out.fb (HOK.out k hlt)
      have grb := HTR.out.rb (HOK.out k hlt)
      have HSD := Go.Lib.hid (slacksOf_take (x := x) (s := s) (l := l) hlt)
      have HLT := Go.Lib.hid (show (slacksOf x s l (L.take k)).length ≤ 36 by rw [slacksOf_len, List.length_take]; omega)
      have HSG := Go.Lib.hid (show slackG x s l (L.getD k (0, 0)) = max (-1) (1000 * l - needI s (fI x (L.getD k (0, 0)).1) (rI x (L.getD k (0, 0)).2)) from rfl)
      generalize L.getD k (0, 0) = gg at *
      generalize hzz : slacksOf x s l (L.take k) = zs at *
      obtain ⟨pb, po, hD, -, pc⟩ := hlr0.at_ (k := 0) (by simp [rowG])
      subst hD
      have p0 : w3.cell? ⟨pb, po, none⟩ = some (.int .i64 (gg.1 : Nat)) := pc 0 (by simp [rowG])
      have p1 : w3.cell? ⟨pb, po + 1, none⟩ = some (.int .i64 (gg.2 : Nat)) := pc 1 (by simp [rowG])
      obtain ⟨fb, fo, hAe, -, fc⟩ := HT3.out.f.at_ hg1
      obtain ⟨rb, ro, hBe, -, rc⟩ := HT3.out.r.at_ hg2
      have hcf : w3.cell? ⟨fb, fo + gg.1, none⟩ = some (.int .i64 (fI x gg.1)) := fc gg.1 hg1
      have hcr : w3.cell? ⟨rb, ro + gg.2, none⟩ = some (.int .i64 (rI x gg.2)) := rc gg.2 hg2
      have hc0 : w3.cell? ⟨w.heap.size, 0, none⟩ = some (.slice (some ⟨fb, fo, none⟩) x.f.length c) := by rw [← hAe]; exact HX3.out.at_ 0 _ rfl
      have hc1 : w3.cell? ⟨w.heap.size, 1, none⟩ = some (.slice (some ⟨rb, ro, none⟩) x.r.length d) := by rw [← hBe]; exact HX3.out.at_ 1 _ rfl
      have HN := Go.Lib.hid (fun w0 => specNeed s (fI x gg.1) (rI x gg.2) w0 ⟨s0, s1, gfb.1, gfb.2, grb.1, grb.2⟩)
      have hnb := needI_bd (s := s) (f := fI x gg.1) (r := rI x gg.2) ⟨s0, s1, gfb.1, gfb.2, grb.1, grb.2⟩
      clear pc fc rc
      generalize fI x gg.1 = tf at *
      generalize rI x gg.2 = tr at *
      generalize needI s tf tr = nd at *
      have HS7 := Go.Lib.hid (fun w' (hk : Keep q (q + 1) w3 w') => (⟨keep_cell hk hc0 (by omega), keep_cell hk hc1 (by omega), keep_cell hk hrow0 (by have := HGL.out; omega), keep_cell hk p0 (by have := HN3.out _ _ _ p0; omega), keep_cell hk p1 (by have := HN3.out _ _ _ p1; omega), keep_cell hk hcf (by have := HN3.out _ _ _ hcf; omega), keep_cell hk hcr (by have := HN3.out _ _ _ hcr; omega)⟩ : w'.cell? ⟨w.heap.size, 0, none⟩ = some (.slice (some ⟨fb, fo, none⟩) x.f.length c) ∧ w'.cell? ⟨w.heap.size, 1, none⟩ = some (.slice (some ⟨rb, ro, none⟩) x.r.length d) ∧ w'.cell? ⟨gl, k, none⟩ = some (.slice (some ⟨pb, po, none⟩) 2 dd) ∧ w'.cell? ⟨pb, po, none⟩ = some (.int .i64 (gg.1 : Nat)) ∧ w'.cell? ⟨pb, po + 1, none⟩ = some (.int .i64 (gg.2 : Nat)) ∧ w'.cell? ⟨fb, fo + gg.1, none⟩ = some (.int .i64 tf) ∧ w'.cell? ⟨rb, ro + gg.2, none⟩ = some (.int .i64 tr)))
      have ed : IntKind.i64.wrap (1000 * l - nd) = 1000 * l - nd := IntWalk.i64_in _ (by omega)
      have i1 : (gg.1 : Int) < x.f.length := by omega
      have i2 : (gg.2 : Int) < x.r.length := by omega
      have i3 : (0 : Int) ≤ (gg.1 : Int) := by omega
      have i4 : (0 : Int) ≤ (gg.2 : Int) := by omega
      have hki : (k : Int) < L.length := by omega
      have hkj : (k : Int) < capl := by have := HLC.out; rw [HLE.out] at this; omega
      generalize hsk : slackG x s l gg = sk at *
      have HZ1 := Go.Lib.hid HSD.out
      have HZL := Go.Lib.hid HLT.out
      have hmx : (if -1 < 1000 * l - nd then 1000 * l - nd else -1) = sk := by rw [HSG.out]; split <;> omega
      clear hc0 hc1 hrow0 p0 p1 hcf hcr hg1 hg2 gfb grb hnb hlr0 HSD HLT HSG hzz hsk hAe hBe
      obtain ⟨hc0, hc1, hrow0, p0, p1, hcf, hcr⟩ := HS7.out _ HGT.out.kp
      go_upto_region 6 with fail
      refine wp_region_held_drew (S := fun w' => w'.cell? ⟨w.heap.size, 0, none⟩ = some (.slice (some ⟨fb, fo, none⟩) x.f.length c) ∧ w'.cell? ⟨w.heap.size, 1, none⟩ = some (.slice (some ⟨rb, ro, none⟩) x.r.length d) ∧ w'.cell? ⟨gl, k, none⟩ = some (.slice (some ⟨pb, po, none⟩) 2 dd) ∧ w'.cell? ⟨pb, po, none⟩ = some (.int .i64 (gg.1 : Nat)) ∧ w'.cell? ⟨pb, po + 1, none⟩ = some (.int .i64 (gg.2 : Nat)) ∧ w'.cell? ⟨fb, fo + gg.1, none⟩ = some (.int .i64 tf) ∧ w'.cell? ⟨rb, ro + gg.2, none⟩ = some (.int .i64 tr)) (by kernel_rfl) (by exact ⟨hc0, hc1, hrow0, p0, p1, hcf, hcr⟩) (fun hHeld => ?_)
      change wpAnyH _ _ _ _ _ _ _ _ (wr.drewN 1)
      have HGV := Go.Lib.hid (HGT.out.below HQ3.out (below_drewN (Below.refl wr.heap.size wr) 1))
      generalize wr.drewN 1 = V at *
      clear hc0 hc1 hrow0 p0 p1 hcf hcr HGT
      have hHeld2 := HS7.out _ HGV.out.kp
      refine wpAnyH_take (i := 0) (v := ?vk1) rfl (by kernel_rfl) (by kernel_rfl) (by kernel_rfl) (fun _ _ _ h => h) (Or.inl ⟨by rfl, ?hyk1⟩) (by assumption) ?restk1
      case hyk1 => (intro w hSw; (try dsimp only at hSw); go_simp; try with_reducible rfl)
      try simp only [List.getElem_toArray, List.getElem_cons_succ, List.getElem_cons_zero, Act.put, List.setIfInBounds_toArray, List.set_cons_zero, List.set_cons_succ]
      refine wpAnyH_take (i := 1) (v := ?vk2) rfl (by kernel_rfl) (by kernel_rfl) (by kernel_rfl) (fun _ _ _ h => h) (Or.inl ⟨by rfl, ?hyk2⟩) (by assumption) ?restk2
      case hyk2 => (intro w hSw; (try dsimp only at hSw); go_simp; try with_reducible rfl)
      try simp only [List.getElem_toArray, List.getElem_cons_succ, List.getElem_cons_zero, Act.put, List.setIfInBounds_toArray, List.set_cons_zero, List.set_cons_succ]
      refine wpAnyH_take (i := 2) (v := ?vk3) rfl (by kernel_rfl) (by kernel_rfl) (by kernel_rfl) (fun _ _ _ h => h) (Or.inl ⟨by rfl, ?hyk3⟩) (by assumption) ?restk3
      case hyk3 => (intro w hSw; (try dsimp only at hSw); go_simp; try with_reducible rfl)
      try simp only [List.getElem_toArray, List.getElem_cons_succ, List.getElem_cons_zero, Act.put, List.setIfInBounds_toArray, List.set_cons_zero, List.set_cons_succ]
      refine wpAnyH_take (i := 3) (v := ?vk4) rfl (by kernel_rfl) (by kernel_rfl) (by kernel_rfl) (fun _ _ _ h => h) (Or.inl ⟨by rfl, ?hyk4⟩) (by assumption) ?restk4
      case hyk4 => (intro w hSw; (try dsimp only at hSw); go_simp; try with_reducible rfl)
      try simp only [List.getElem_toArray, List.getElem_cons_succ, List.getElem_cons_zero, Act.put, List.setIfInBounds_toArray, List.set_cons_zero, List.set_cons_succ]
      refine wpAnyH_take (i := 4) (v := ?vk5) rfl (by kernel_rfl) (by kernel_rfl) (by kernel_rfl) (fun _ _ _ h => h) (Or.inl ⟨by rfl, ?hyk5⟩) (by assumption) ?restk5
      case hyk5 => (intro w hSw; (try dsimp only at hSw); go_simp; try with_reducible rfl)
      try simp only [List.getElem_toArray, List.getElem_cons_succ, List.getElem_cons_zero, Act.put, List.setIfInBounds_toArray, List.set_cons_zero, List.set_cons_succ]
      refine wpAnyH_take (i := 5) (v := ?vk6) rfl (by kernel_rfl) (by kernel_rfl) (by kernel_rfl) (fun _ _ _ h => h) (Or.inl ⟨by rfl, ?hyk6⟩) (by assumption) ?restk6
      case hyk6 => (intro w hSw; (try dsimp only at hSw); go_simp; try with_reducible rfl)
      try simp only [List.getElem_toArray, List.getElem_cons_succ, List.getElem_cons_zero, Act.put, List.setIfInBounds_toArray, List.set_cons_zero, List.set_cons_succ]
      refine wpAnyH_take (i := 6) (v := ?vk7) rfl (by kernel_rfl) (by kernel_rfl) (by kernel_rfl) (fun _ _ _ h => h) (Or.inl ⟨by rfl, ?hyk7⟩) (by assumption) ?restk7
      case hyk7 => (intro w hSw; (try dsimp only at hSw); go_simp; try with_reducible rfl)
      try simp only [List.getElem_toArray, List.getElem_cons_succ, List.getElem_cons_zero, Act.put, List.setIfInBounds_toArray, List.set_cons_zero, List.set_cons_succ]
      refine wpAnyH_take (i := 7) (v := ?vk8) rfl (by kernel_rfl) (by kernel_rfl) (by kernel_rfl) (fun _ _ _ h => h) (Or.inl ⟨by rfl, ?hyk8⟩) (by assumption) ?restk8
      case hyk8 => (intro w hSw; (try dsimp only at hSw); go_simp; try with_reducible rfl)
      try simp only [List.getElem_toArray, List.getElem_cons_succ, List.getElem_cons_zero, Act.put, List.setIfInBounds_toArray, List.set_cons_zero, List.set_cons_succ]
      refine wpAnyH_take (i := 8) (v := ?vk9) rfl (by kernel_rfl) (by kernel_rfl) (by kernel_rfl) (fun _ _ _ h => h) (Or.inl ⟨by rfl, ?hyk9⟩) (by assumption) ?restk9
      case hyk9 => (intro w hSw; (try dsimp only at hSw); go_simp; try with_reducible rfl)
      try simp only [List.getElem_toArray, List.getElem_cons_succ, List.getElem_cons_zero, Act.put, List.setIfInBounds_toArray, List.set_cons_zero, List.set_cons_succ]
      refine wpAnyH_take (i := 9) (v := ?vk10) rfl (by kernel_rfl) (by kernel_rfl) (by kernel_rfl) (fun _ _ _ h => h) (Or.inl ⟨by rfl, ?hyk10⟩) (by assumption) ?restk10
      case hyk10 => (intro w hSw; (try dsimp only at hSw); go_simp; try with_reducible rfl)
      try simp only [List.getElem_toArray, List.getElem_cons_succ, List.getElem_cons_zero, Act.put, List.setIfInBounds_toArray, List.set_cons_zero, List.set_cons_succ]
      refine wpAnyH_take (i := 10) (v := ?vk11) rfl (by kernel_rfl) (by kernel_rfl) (by kernel_rfl) (fun _ _ _ h => h) (Or.inl ⟨by rfl, ?hyk11⟩) (by assumption) ?restk11
      case hyk11 => (intro w hSw; (try dsimp only at hSw); go_simp; try with_reducible rfl)
      try simp only [List.getElem_toArray, List.getElem_cons_succ, List.getElem_cons_zero, Act.put, List.setIfInBounds_toArray, List.set_cons_zero, List.set_cons_succ]
      refine wpAnyH_take (i := 11) (v := ?vk12) rfl (by kernel_rfl) (by kernel_rfl) (by kernel_rfl) (fun _ _ _ h => h) (Or.inl ⟨by rfl, ?hyk12⟩) (by assumption) ?restk12
      case hyk12 => (intro w hSw; (try dsimp only at hSw); go_simp; try with_reducible rfl)
      try simp only [List.getElem_toArray, List.getElem_cons_succ, List.getElem_cons_zero, Act.put, List.setIfInBounds_toArray, List.set_cons_zero, List.set_cons_succ]
      refine wpAnyH_take (i := 12) (v := ?vk13) rfl (by kernel_rfl) (by kernel_rfl) (by kernel_rfl) (fun _ _ _ h => h) (Or.inl ⟨by rfl, ?hyk13⟩) (by assumption) ?restk13
      case hyk13 => (intro w hSw; (try dsimp only at hSw); go_simp; try with_reducible rfl)
      try simp only [List.getElem_toArray, List.getElem_cons_succ, List.getElem_cons_zero, Act.put, List.setIfInBounds_toArray, List.set_cons_zero, List.set_cons_succ]
      refine wpAnyH_take (i := 13) (v := ?vk14) rfl (by kernel_rfl) (by kernel_rfl) (by kernel_rfl) (fun _ _ _ h => h) (Or.inl ⟨by rfl, ?hyk14⟩) (by assumption) ?restk14
      case hyk14 => (intro w hSw; (try dsimp only at hSw); go_simp; try with_reducible rfl)
      try simp only [List.getElem_toArray, List.getElem_cons_succ, List.getElem_cons_zero, Act.put, List.setIfInBounds_toArray, List.set_cons_zero, List.set_cons_succ]
      refine wpAnyH_take (i := 14) (v := ?vk15) rfl (by kernel_rfl) (by kernel_rfl) (by kernel_rfl) (fun _ _ _ h => h) (Or.inl ⟨by rfl, ?hyk15⟩) (by assumption) ?restk15
      case hyk15 => (intro w hSw; (try dsimp only at hSw); go_simp; try with_reducible rfl)
      try simp only [List.getElem_toArray, List.getElem_cons_succ, List.getElem_cons_zero, Act.put, List.setIfInBounds_toArray, List.set_cons_zero, List.set_cons_succ]
      refine wpAnyH_take (i := 15) (v := ?vk16) rfl (by kernel_rfl) (by kernel_rfl) (by kernel_rfl) (fun _ _ _ h => h) (Or.inl ⟨by rfl, ?hyk16⟩) (by assumption) ?restk16
      case hyk16 => (intro w hSw; (try dsimp only at hSw); go_simp; try with_reducible rfl)
      try simp only [List.getElem_toArray, List.getElem_cons_succ, List.getElem_cons_zero, Act.put, List.setIfInBounds_toArray, List.set_cons_zero, List.set_cons_succ]
      refine wpAnyH_take (i := 16) (v := ?vk17) rfl (by kernel_rfl) (by kernel_rfl) (by kernel_rfl) (fun _ _ _ h => h) (Or.inl ⟨by rfl, ?hyk17⟩) (by assumption) ?restk17
      case hyk17 => (intro w hSw; (try dsimp only at hSw); go_simp; try with_reducible rfl)
      try simp only [List.getElem_toArray, List.getElem_cons_succ, List.getElem_cons_zero, Act.put, List.setIfInBounds_toArray, List.set_cons_zero, List.set_cons_succ]
      refine wpAnyH_take (i := 17) (v := ?vk18) rfl (by kernel_rfl) (by kernel_rfl) (by kernel_rfl) (fun _ _ _ h => h) (Or.inl ⟨by rfl, ?hyk18⟩) (by assumption) ?restk18
      case hyk18 => (intro w hSw; (try dsimp only at hSw); go_simp; try with_reducible rfl)
      try simp only [List.getElem_toArray, List.getElem_cons_succ, List.getElem_cons_zero, Act.put, List.setIfInBounds_toArray, List.set_cons_zero, List.set_cons_succ]
      refine wpAnyH_take (i := 18) (v := ?vk19) rfl (by kernel_rfl) (by kernel_rfl) (by kernel_rfl) (fun _ _ _ h => h) (Or.inl ⟨by rfl, ?hyk19⟩) (by assumption) ?restk19
      case hyk19 => (intro w hSw; (try dsimp only at hSw); go_simp; try with_reducible rfl)
      try simp only [List.getElem_toArray, List.getElem_cons_succ, List.getElem_cons_zero, Act.put, List.setIfInBounds_toArray, List.set_cons_zero, List.set_cons_succ]
      refine wpAnyH_take (i := 19) (v := ?vk20) rfl (by kernel_rfl) (by kernel_rfl) (by kernel_rfl) (fun _ _ _ h => h) (Or.inl ⟨by rfl, ?hyk20⟩) (by assumption) ?restk20
      case hyk20 => (intro w hSw; (try dsimp only at hSw); go_simp; try with_reducible rfl)
      try simp only [List.getElem_toArray, List.getElem_cons_succ, List.getElem_cons_zero, Act.put, List.setIfInBounds_toArray, List.set_cons_zero, List.set_cons_succ]
      refine wpAnyH_take (i := 20) (v := ?vk21) rfl (by kernel_rfl) (by kernel_rfl) (by kernel_rfl) (fun _ _ _ h => h) (Or.inl ⟨by rfl, ?hyk21⟩) (by assumption) ?restk21
      case hyk21 => (intro w hSw; (try dsimp only at hSw); go_simp; try with_reducible rfl)
      try simp only [List.getElem_toArray, List.getElem_cons_succ, List.getElem_cons_zero, Act.put, List.setIfInBounds_toArray, List.set_cons_zero, List.set_cons_succ]
      refine wpAnyH_take (i := 21) (v := ?vk22) rfl (by kernel_rfl) (by kernel_rfl) (by kernel_rfl) (fun _ _ _ h => h) (Or.inl ⟨by rfl, ?hyk22⟩) (by assumption) ?restk22
      case hyk22 => (intro w hSw; (try dsimp only at hSw); go_simp; try with_reducible rfl)
      try simp only [List.getElem_toArray, List.getElem_cons_succ, List.getElem_cons_zero, Act.put, List.setIfInBounds_toArray, List.set_cons_zero, List.set_cons_succ]
      refine wpAnyH_take (i := 22) (v := ?vk23) rfl (by kernel_rfl) (by kernel_rfl) (by kernel_rfl) (fun _ _ _ h => h) (Or.inl ⟨by rfl, ?hyk23⟩) (by assumption) ?restk23
      case hyk23 => (intro w hSw; (try dsimp only at hSw); go_simp; try with_reducible rfl)
      try simp only [List.getElem_toArray, List.getElem_cons_succ, List.getElem_cons_zero, Act.put, List.setIfInBounds_toArray, List.set_cons_zero, List.set_cons_succ]
      refine wpAnyH_take (i := 23) (v := ?vk24) rfl (by kernel_rfl) (by kernel_rfl) (by kernel_rfl) (fun _ _ _ h => h) (Or.inl ⟨by rfl, ?hyk24⟩) (by assumption) ?restk24
      case hyk24 => (intro w hSw; (try dsimp only at hSw); go_simp; try with_reducible rfl)
      try simp only [List.getElem_toArray, List.getElem_cons_succ, List.getElem_cons_zero, Act.put, List.setIfInBounds_toArray, List.set_cons_zero, List.set_cons_succ]
      refine wpAnyH_ready (rs := [24]) (by kernel_rfl) (by simp) ?_
      refine AllReadyH.cons rfl (fun K hK => ?_) AllReadyH.nil
      go_simp
      (go_at_call 49; refine (HN.out _).mono ?_; rintro _ _ ⟨rfl, rfl⟩)
      refine hK.out _ _ ?_ (fun hHeld => ?_)
      · exact HS7.out _ HGV.out.kp
      clear hK K
      try simp only [List.getElem_toArray, List.getElem_cons_succ, List.getElem_cons_zero, Act.put, List.setIfInBounds_toArray, List.set_cons_zero, List.set_cons_succ]
      refine wpAnyH_take (i := 25) (v := ?vk25) rfl (by kernel_rfl) (by kernel_rfl) (by kernel_rfl) (fun _ _ _ h => h) (Or.inl ⟨by rfl, ?hyk25⟩) (by assumption) ?restk25
      case hyk25 => (intro w hSw; (try dsimp only at hSw); go_simp; try with_reducible rfl)
      try simp only [List.getElem_toArray, List.getElem_cons_succ, List.getElem_cons_zero, Act.put, List.setIfInBounds_toArray, List.set_cons_zero, List.set_cons_succ]
      refine wpAnyH_take (i := 26) (v := ?vk26) rfl (by kernel_rfl) (by kernel_rfl) (by kernel_rfl) (fun _ _ _ h => h) (Or.inl ⟨by rfl, ?hyk26⟩) (by assumption) ?restk26
      case hyk26 => (intro w hSw; (try dsimp only at hSw); go_simp; try with_reducible rfl)
      try simp only [List.getElem_toArray, List.getElem_cons_succ, List.getElem_cons_zero, Act.put, List.setIfInBounds_toArray, List.set_cons_zero, List.set_cons_succ]
      refine wpAnyH_ready (rs := [27]) (by kernel_rfl) (by simp) ?_
      refine AllReadyH.cons rfl (fun K hK => ?_) AllReadyH.nil
      go_simp
      refine hK.out _ _ ?_ (fun hHeld => ?_)
      · exact HS7.out _ (HGV.out.kp.trans (keepAllocQ _ _ _))
      clear hK K
      try simp only [List.getElem_toArray, List.getElem_cons_succ, List.getElem_cons_zero, Act.put, List.setIfInBounds_toArray, List.set_cons_zero, List.set_cons_succ]
      refine wpAnyH_ready (rs := [28]) (by kernel_rfl) (by simp) ?_
      refine AllReadyH.cons rfl (fun K hK => ?_) AllReadyH.nil
      refine op_app rfl (.tmp 19) (.tmp 46) 30 rfl q 2 i0 (.int .i64 0) 8 Try.underlying30 hi hz0 hz1 hz2 rfl ga zs.length ca (ints zs) rfl (HGV.out.own.alloc _) ⟨V.heap.size, 0, none⟩ 1 1 [.int .i64 sk] rfl rfl (cell_one_new _ _ _) (by simp [Value.oneCell']) (by unfold maxLen; have := HZL.out; omega) (by have := HZL.out; omega) (by have := HGV.out.kp.size; have := HQ3.out; simp; omega) (zs.length + 1) rfl (ints zs ++ [.int .i64 sk]) rfl ?_
      intro g1 cap1 w5 hown hgrow hat hlt5
      have HGN := Go.Lib.hid (HGV.out.step hown hgrow hat hlt5)
      clear hown hgrow hat hlt5
      refine hK.out _ _ ?_ (fun hHeld => ?_)
      · exact HS7.out _ HGN.out.kp
      clear hK K
      try simp only [List.getElem_toArray, List.getElem_cons_succ, List.getElem_cons_zero, Act.put, List.setIfInBounds_toArray, List.set_cons_zero, List.set_cons_succ]
      refine wpAnyH_take (i := 29) (v := ?vk27) rfl (by kernel_rfl) (by kernel_rfl) (by kernel_rfl) (fun _ _ _ h => h) (Or.inl ⟨by rfl, ?hyk27⟩) (by assumption) ?restk27
      case hyk27 => (intro w hSw; (try dsimp only at hSw); go_simp; try with_reducible rfl)
      try simp only [List.getElem_toArray, List.getElem_cons_succ, List.getElem_cons_zero, Act.put, List.setIfInBounds_toArray, List.set_cons_zero, List.set_cons_succ]
      refine wpAnyH_done (by kernel_rfl) ?_ _
      clear hHeld2 hHeld
      go_wp2_with fail
      go_roundw
      case rel => exact ⟨k + 1, g1, cap1, by omega, by go_num, by rw [HZ1.out, List.length_append]; rfl, by rw [HZ1.out]; exact HGN.out⟩
      case measure => simp [intOf]; omega
end Go.Proofs.Ytilepehlmjohbaa
