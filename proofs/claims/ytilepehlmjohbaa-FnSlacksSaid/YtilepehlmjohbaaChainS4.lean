/- The model: the slacks of a train, the loosest gear. -/
import Derived.Test.YtilepehlmjohbaaChainS3
namespace Go.Proofs.Ytilepehlmjohbaa
open Go.RowKit
set_option linter.unusedSimpArgs false
set_option linter.unusedVariables false

theorem okS {s l : Int} (h : (stayB s && linksB l) = true) : (3000 ≤ s ∧ s ≤ 6000) ∧ (40 ≤ l ∧ l ≤ 200) := by
  unfold stayB linksB at h
  simp only [Bool.and_eq_true, inB_iff] at h
  exact ⟨h.1, h.2.1⟩
set_option maxRecDepth 100000 in
set_option maxHeartbeats 4000000 in
theorem specSlacksOf (x : Trn) (A : Option Addr) (c : Nat) (B : Option Addr) (d : Nat) (s l : Int) (w : World) (T : TrL x A c B d w) :
    Calls Try.prog 29 #[trainV x A c B d, .int .i64 s, .int .i64 l] w (GivesLN (slacksR x s l) w) := by
  have HT := Go.Lib.hid T
  have HX := Go.Lib.hid (boxT_box x A c B d w)
  have HXB := Go.Lib.hid (boxT_below x A c B d w)
  clear T
  have H1 := Go.Lib.hid (fun w0 T0 => specTrainC x A c B d s l w0 T0)
  by_cases hok : trainB x = true ∧ (stayB s && linksB l) = true
  case neg =>
    have hz := trc_no hok
    have HV := Go.Lib.hid (show slacksR x s l = ([], trcI x s l) by
      rcases hz with ⟨e, ht⟩ | ⟨e, ht, hs⟩
      · rw [e]; unfold slacksR; rw [ht]; rfl
      · rw [e]; unfold slacksR; rw [ht, hs]; rfl)
    have hz0 : ¬ trcI x s l = 0 := by
      rcases hz with ⟨e, -⟩ | ⟨e, -⟩
      · rw [e]; decide
      · rw [e]; decide
    generalize trcI x s l = z at *
    have hzb : (z != 0) = true := by simpa using hz0
    clear hz hok hz0
    unfold trainV at *
    go_enter Try.func29, Try.ntmps29
    go_upto_region 1 with fail
    refine wp_gen (R := fun W => Box W w.heap.size (trainC x A c B d) ∧ Below w.heap.size w W) ⟨HX.out, HXB.out⟩ ?_
    rintro W ⟨hx, hb⟩
    have HX1 := Go.Lib.hid hx
    have HB1 := Go.Lib.hid hb
    have HT1 := Go.Lib.hid (HT.out.below hb)
    clear hx hb HX HXB
    have hc0 : W.cell? ⟨w.heap.size, 0, none⟩ = some (.slice A x.f.length c) := HX1.out.at_ 0 _ rfl
    have hc1 : W.cell? ⟨w.heap.size, 1, none⟩ = some (.slice B x.r.length d) := HX1.out.at_ 1 _ rfl
    have hc2 : W.cell? ⟨w.heap.size, 2, none⟩ = some (.int .i64 x.n) := HX1.out.at_ 2 _ rfl
    go_wp2_with fail
    refine (H1.out _ HT1.out).mono ?_
    rintro _ w2 ⟨rfl, b2⟩
    have HX2 := Go.Lib.hid (HX1.out.below b2)
    have HB2 := Go.Lib.hid (upB HB1.out b2)
    have HT2 := Go.Lib.hid (HT1.out.below b2)
    clear b2 hc0 hc1 hc2
    go_wp2_with fail
    go_ret2
    exact GivesLN.nil HV.out HB2.out
  case pos =>
    obtain ⟨ht, hs⟩ := hok
    have HV := Go.Lib.hid (show slacksR x s l = (slacksOf x s l (ordI x), 0) by unfold slacksR; rw [if_pos ht, if_pos hs])
    have HS := Go.Lib.hid (fun w0 T0 => specSlacks x A c B d s l w0 T0 (trainB_ok ht) (okS hs).1 (okS hs).2)
    rw [trc_ok ht hs] at H1
    clear ht hs
    generalize slacksOf x s l (ordI x) = zs at *
    unfold trainV at *
    go_enter Try.func29, Try.ntmps29
    go_upto_region 1 with fail
    refine wp_gen (R := fun W => Box W w.heap.size (trainC x A c B d) ∧ Below w.heap.size w W) ⟨HX.out, HXB.out⟩ ?_
    rintro W ⟨hx, hb⟩
    have HX1 := Go.Lib.hid hx
    have HB1 := Go.Lib.hid hb
    have HT1 := Go.Lib.hid (HT.out.below hb)
    clear hx hb HX HXB
    have hc0 : W.cell? ⟨w.heap.size, 0, none⟩ = some (.slice A x.f.length c) := HX1.out.at_ 0 _ rfl
    have hc1 : W.cell? ⟨w.heap.size, 1, none⟩ = some (.slice B x.r.length d) := HX1.out.at_ 1 _ rfl
    have hc2 : W.cell? ⟨w.heap.size, 2, none⟩ = some (.int .i64 x.n) := HX1.out.at_ 2 _ rfl
    go_wp2_with fail
    refine (H1.out _ HT1.out).mono ?_
    rintro _ w2 ⟨rfl, b2⟩
    have HX2 := Go.Lib.hid (HX1.out.below b2)
    have HB2 := Go.Lib.hid (upB HB1.out b2)
    have HT2 := Go.Lib.hid (HT1.out.below b2)
    clear b2 hc0 hc1 hc2
    have hc0 : w2.cell? ⟨w.heap.size, 0, none⟩ = some (.slice A x.f.length c) := HX2.out.at_ 0 _ rfl
    have hc1 : w2.cell? ⟨w.heap.size, 1, none⟩ = some (.slice B x.r.length d) := HX2.out.at_ 1 _ rfl
    have hc2 : w2.cell? ⟨w.heap.size, 2, none⟩ = some (.int .i64 x.n) := HX2.out.at_ 2 _ rfl
    go_wp2_with fail
    refine (HS.out _ HT2.out).mono ?_
    rintro _ w3 ⟨D, cap, rfl, ow, b3⟩
    have HF := Go.Lib.hid (GivesLN.own HV.out rfl (ow.lower HB2.out.size) (upB HB2.out b3))
    clear ow b3
    go_wp2_with fail
    go_ret2
    exact HF.out
set_option maxRecDepth 100000 in
set_option maxHeartbeats 16000000 in
theorem specLoose (x : Trn) (A : Option Addr) (c : Nat) (B : Option Addr) (d : Nat) (s l : Int) (w : World) (T : TrL x A c B d w) :
    Calls Try.prog 27 #[trainV x A c B d, .int .i64 s, .int .i64 l] w (IsV w (.tuple #[.int .i64 (looseR x s l).1, .int .i64 (looseR x s l).2.1, .int .i64 (looseR x s l).2.2])) := by
  have HT := Go.Lib.hid T
  have HX := Go.Lib.hid (boxT_box x A c B d w)
  have HXB := Go.Lib.hid (boxT_below x A c B d w)
  clear T
  have H1 := Go.Lib.hid (fun w0 T0 => specTrainC x A c B d s l w0 T0)
  by_cases hok : trainB x = true ∧ (stayB s && linksB l) = true
  case neg =>
    have hz := trc_no hok
    have HV := Go.Lib.hid (show looseR x s l = (0, 0, trcI x s l) by
      rcases hz with ⟨e, ht⟩ | ⟨e, ht, hs⟩
      · rw [e]; unfold looseR; rw [ht]; rfl
      · rw [e]; unfold looseR; rw [ht, hs]; rfl)
    have hz0 : ¬ trcI x s l = 0 := by
      rcases hz with ⟨e, -⟩ | ⟨e, -⟩
      · rw [e]; decide
      · rw [e]; decide
    generalize trcI x s l = z at *
    have hzb : (z != 0) = true := by simpa using hz0
    clear hz hok hz0
    unfold trainV at *
    go_enter Try.func27, Try.ntmps27
    go_upto_region 1 with fail
    refine wp_gen (R := fun W => Box W w.heap.size (trainC x A c B d) ∧ Below w.heap.size w W) ⟨HX.out, HXB.out⟩ ?_
    rintro W ⟨hx, hb⟩
    have HX1 := Go.Lib.hid hx
    have HB1 := Go.Lib.hid hb
    have HT1 := Go.Lib.hid (HT.out.below hb)
    clear hx hb HX HXB
    have hc0 : W.cell? ⟨w.heap.size, 0, none⟩ = some (.slice A x.f.length c) := HX1.out.at_ 0 _ rfl
    have hc1 : W.cell? ⟨w.heap.size, 1, none⟩ = some (.slice B x.r.length d) := HX1.out.at_ 1 _ rfl
    have hc2 : W.cell? ⟨w.heap.size, 2, none⟩ = some (.int .i64 x.n) := HX1.out.at_ 2 _ rfl
    go_wp2_with fail
    refine (H1.out _ HT1.out).mono ?_
    rintro _ w2 ⟨rfl, b2⟩
    have HX2 := Go.Lib.hid (HX1.out.below b2)
    have HB2 := Go.Lib.hid (upB HB1.out b2)
    have HT2 := Go.Lib.hid (HT1.out.below b2)
    clear b2 hc0 hc1 hc2
    go_wp2_with fail
    refine bodyPost_ret (results_tmp3 rfl _ _ _) rfl ?_
    exact ⟨by rw [HV.out]; rfl, HB2.out⟩
  case pos =>
    obtain ⟨ht, hs⟩ := hok
    have hT := trainB_ok ht
    have HV := Go.Lib.hid (show (posTo (slacksOf x s l (ordI x)) (ordI x).length = true → looseR x s l = (((((ordI x).getD (bigTo (slacksOf x s l (ordI x)) (ordI x).length) (0, 0)).1 : Nat) : Int), ((((ordI x).getD (bigTo (slacksOf x s l (ordI x)) (ordI x).length) (0, 0)).2 : Nat) : Int), 0)) ∧ (posTo (slacksOf x s l (ordI x)) (ordI x).length = false → looseR x s l = (0, 0, 5)) from ⟨fun h => by unfold looseR; rw [if_pos ht, if_pos hs, if_pos h], fun h => by unfold looseR; rw [if_pos ht, if_pos hs, h]; rfl⟩)
    have HS := Go.Lib.hid (fun w0 T0 => specSlacks x A c B d s l w0 T0 hT (okS hs).1 (okS hs).2)
    have HD := Go.Lib.hid (fun w0 T0 => specOrder x A c B d w0 T0 hT)
    have hn1 := ordI_one hT
    have hn36 := ordI_few hT
    have HRA := Go.Lib.hid (fun i (hi : i < (ordI x).length) => rowsG_at (gs := ordI x) (i := i) hi)
    have HLE := Go.Lib.hid (rowsG_len (ordI x))
    have hzn := slacksOf_len x s l (ordI x)
    have HZN := Go.Lib.hid hzn
    have HZL := Go.Lib.hid (show (slacksOf x s l (ordI x)).length ≤ 36 by omega)
    have HBL := Go.Lib.hid (fun k (h : 0 < k) => bigTo_lt (zs := slacksOf x s l (ordI x)) (k := k) h)
    rw [trc_ok ht hs] at H1
    rw [hzn] at HS
    clear ht hs hT hzn
    generalize slacksOf x s l (ordI x) = zs at *
    generalize ordI x = L at *
    rw [HLE.out] at HD
    unfold trainV at *
    go_enter Try.func27, Try.ntmps27
    go_upto_region 1 with fail
    refine wp_gen (R := fun W => Box W w.heap.size (trainC x A c B d) ∧ Below w.heap.size w W) ⟨HX.out, HXB.out⟩ ?_
    rintro W ⟨hx, hb⟩
    have HX1 := Go.Lib.hid hx
    have HB1 := Go.Lib.hid hb
    have HT1 := Go.Lib.hid (HT.out.below hb)
    clear hx hb HX HXB
    have hc0 : W.cell? ⟨w.heap.size, 0, none⟩ = some (.slice A x.f.length c) := HX1.out.at_ 0 _ rfl
    have hc1 : W.cell? ⟨w.heap.size, 1, none⟩ = some (.slice B x.r.length d) := HX1.out.at_ 1 _ rfl
    have hc2 : W.cell? ⟨w.heap.size, 2, none⟩ = some (.int .i64 x.n) := HX1.out.at_ 2 _ rfl
    go_wp2_with fail
    refine (H1.out _ HT1.out).mono ?_
    rintro _ w2 ⟨rfl, b2⟩
    have HX2 := Go.Lib.hid (HX1.out.below b2)
    have HB2 := Go.Lib.hid (upB HB1.out b2)
    have HT2 := Go.Lib.hid (HT1.out.below b2)
    clear b2 hc0 hc1 hc2
    have hc0 : w2.cell? ⟨w.heap.size, 0, none⟩ = some (.slice A x.f.length c) := HX2.out.at_ 0 _ rfl
    have hc1 : w2.cell? ⟨w.heap.size, 1, none⟩ = some (.slice B x.r.length d) := HX2.out.at_ 1 _ rfl
    have hc2 : w2.cell? ⟨w.heap.size, 2, none⟩ = some (.int .i64 x.n) := HX2.out.at_ 2 _ rfl
    go_upto_region 4 with fail
    refine wp_region_held_drew (S := fun w' => w'.cell? ⟨w.heap.size, 0, none⟩ = some (.slice A x.f.length c) ∧ w'.cell? ⟨w.heap.size, 1, none⟩ = some (.slice B x.r.length d) ∧ w'.cell? ⟨w.heap.size, 2, none⟩ = some (.int .i64 x.n)) (by kernel_rfl) (by exact ⟨hc0, hc1, hc2⟩) (fun hHeld => ?_)
    change wpAnyH _ _ _ _ _ _ _ _ (w2.drewN 1)
    have HXV := Go.Lib.hid (HX2.out.drewN 1)
    have HTV := Go.Lib.hid (HT2.out.below (below_drewN (Below.refl w2.heap.size w2) 1))
    have HBV := Go.Lib.hid (below_drewN HB2.out 1)
    generalize w2.drewN 1 = V at *
    clear hc0 hc1 hc2 HX2 HT2 HB2
    have hc0 : V.cell? ⟨w.heap.size, 0, none⟩ = some (.slice A x.f.length c) := HXV.out.at_ 0 _ rfl
    have hc1 : V.cell? ⟨w.heap.size, 1, none⟩ = some (.slice B x.r.length d) := HXV.out.at_ 1 _ rfl
    have hc2 : V.cell? ⟨w.heap.size, 2, none⟩ = some (.int .i64 x.n) := HXV.out.at_ 2 _ rfl
    have hHeld2 := And.intro hc0 (And.intro hc1 hc2)
    refine wpAnyH_take (i := 0) (v := ?vl1) rfl (by kernel_rfl) (by kernel_rfl) (by kernel_rfl) (fun _ _ _ h => h) (Or.inl ⟨by rfl, ?hyl1⟩) (by assumption) ?restl1
    case hyl1 => (intro w hSw; (try dsimp only at hSw); go_simp; try with_reducible rfl)
    try simp only [List.getElem_toArray, List.getElem_cons_succ, List.getElem_cons_zero, Act.put, List.setIfInBounds_toArray, List.set_cons_zero, List.set_cons_succ]
    refine wpAnyH_take (i := 1) (v := ?vl2) rfl (by kernel_rfl) (by kernel_rfl) (by kernel_rfl) (fun _ _ _ h => h) (Or.inl ⟨by rfl, ?hyl2⟩) (by assumption) ?restl2
    case hyl2 => (intro w hSw; (try dsimp only at hSw); go_simp; try with_reducible rfl)
    try simp only [List.getElem_toArray, List.getElem_cons_succ, List.getElem_cons_zero, Act.put, List.setIfInBounds_toArray, List.set_cons_zero, List.set_cons_succ]
    refine wpAnyH_take (i := 2) (v := ?vl3) rfl (by kernel_rfl) (by kernel_rfl) (by kernel_rfl) (fun _ _ _ h => h) (Or.inl ⟨by rfl, ?hyl3⟩) (by assumption) ?restl3
    case hyl3 => (intro w hSw; (try dsimp only at hSw); go_simp; try with_reducible rfl)
    try simp only [List.getElem_toArray, List.getElem_cons_succ, List.getElem_cons_zero, Act.put, List.setIfInBounds_toArray, List.set_cons_zero, List.set_cons_succ]
    refine wpAnyH_take (i := 4) (v := ?vl4) rfl (by kernel_rfl) (by kernel_rfl) (by kernel_rfl) (fun _ _ _ h => h) (Or.inl ⟨by rfl, ?hyl4⟩) (by assumption) ?restl4
    case hyl4 => (intro w hSw; (try dsimp only at hSw); go_simp; try with_reducible rfl)
    try simp only [List.getElem_toArray, List.getElem_cons_succ, List.getElem_cons_zero, Act.put, List.setIfInBounds_toArray, List.set_cons_zero, List.set_cons_succ]
    refine wpAnyH_ready (rs := [3]) (by kernel_rfl) (by simp) ?_
    refine AllReadyH.cons rfl (fun K hK => ?_) AllReadyH.nil
    go_simp
    (go_at_call 67; refine (HS.out _ HTV.out).mono ?_; rintro _ w3 ⟨D, cap, rfl, ow, b3⟩)
    have HLS := Go.Lib.hid (lst0 (zs := zs) (by rw [HZN.out]; exact ow) (by have := HZL.out; omega))
    have HX3 := Go.Lib.hid (HXV.out.below b3)
    have HT3 := Go.Lib.hid (HTV.out.below b3)
    have HB3 := Go.Lib.hid (upB HBV.out b3)
    clear ow b3
    refine hK.out _ _ ?_ (fun hHeld => ?_)
    · exact ⟨HX3.out.at_ 0 _ rfl, HX3.out.at_ 1 _ rfl, HX3.out.at_ 2 _ rfl⟩
    clear hK K
    try simp only [List.getElem_toArray, List.getElem_cons_succ, List.getElem_cons_zero, Act.put, List.setIfInBounds_toArray, List.set_cons_zero, List.set_cons_succ]
    refine wpAnyH_ready (rs := [5]) (by kernel_rfl) (by simp) ?_
    refine AllReadyH.cons rfl (fun K hK => ?_) AllReadyH.nil
    go_simp
    (go_at_call 68; refine (HD.out _ HT3.out).mono ?_; rintro _ w4 ⟨gl, capl, rfl, oz, b4⟩)
    have HLZ := Go.Lib.hid (oz.ls (by rw [HLE.out]; omega))
    have HX4 := Go.Lib.hid (HX3.out.below b4)
    have HB4 := Go.Lib.hid (upB HB3.out b4)
    have HLS := Go.Lib.hid (HLS.out.below b4)
    clear oz b4
    refine hK.out _ _ ?_ (fun hHeld => ?_)
    · exact ⟨HX4.out.at_ 0 _ rfl, HX4.out.at_ 1 _ rfl, HX4.out.at_ 2 _ rfl⟩
    clear hK K
    try simp only [List.getElem_toArray, List.getElem_cons_succ, List.getElem_cons_zero, Act.put, List.setIfInBounds_toArray, List.set_cons_zero, List.set_cons_succ]
    refine wpAnyH_take (i := 6) (v := ?vl5) rfl (by kernel_rfl) (by kernel_rfl) (by kernel_rfl) (fun _ _ _ h => h) (Or.inl ⟨by rfl, ?hyl5⟩) (by assumption) ?restl5
    case hyl5 => (intro w hSw; (try dsimp only at hSw); go_simp; try with_reducible rfl)
    try simp only [List.getElem_toArray, List.getElem_cons_succ, List.getElem_cons_zero, Act.put, List.setIfInBounds_toArray, List.set_cons_zero, List.set_cons_succ]
    refine wpAnyH_take (i := 7) (v := ?vl6) rfl (by kernel_rfl) (by kernel_rfl) (by kernel_rfl) (fun _ _ _ h => h) (Or.inl ⟨by rfl, ?hyl6⟩) (by assumption) ?restl6
    case hyl6 => (intro w hSw; (try dsimp only at hSw); go_simp; try with_reducible rfl)
    try simp only [List.getElem_toArray, List.getElem_cons_succ, List.getElem_cons_zero, Act.put, List.setIfInBounds_toArray, List.set_cons_zero, List.set_cons_succ]
    refine wpAnyH_done (by kernel_rfl) ?_ _
    clear hHeld hHeld2 hc0 hc1 hc2
    go_wp2_with fail
    go_loopw [12, 13] (fun t u wr => ∃ k : Nat, k ≤ L.length ∧ u = .int .i64 k ∧ t = .int .i64 (bigTo zs k : Nat) ∧ posTo zs k = true ∧ Eqw w4 wr) (fun _ u _ => L.length - (intOf u).toNat)
    case atStart => exact ⟨0, Nat.zero_le _, rfl, rfl, rfl, Eqw.refl _⟩
    case round =>
      obtain ⟨k, hk, rfl, rfl, hp, hw⟩ := hrel
      have HP := Go.Lib.hid hp
      have HQ := Go.Lib.hid hw
      have HBW := Go.Lib.hid (HB4.out.trans (hw.below.mono HB4.out.size))
      clear hp
      by_cases hlt : k < L.length
      case neg =>
        obtain rfl : k = L.length := by omega
        have HG := Go.Lib.hid (HV.out.1 HP.out)
        have hbg := HBL.out L.length hn1
        have HBG := Go.Lib.hid hbg
        generalize bigTo zs L.length = bi at *
        obtain ⟨eb, eo, D2, dd, e, hgb, hrow0, hlr0⟩ := (HLZ.out.below hw.below).at_ (k := bi) (by rw [HLE.out]; exact hbg)
        cases e
        rw [HRA.out bi hbg] at hrow0 hlr0
        rw [Nat.zero_add] at hrow0
        generalize L.getD bi (0, 0) = gg at *
        obtain ⟨pb, po, hD, -, pc⟩ := hlr0.at_ (k := 0) (by simp [rowG])
        subst hD
        have p0 : wr.cell? ⟨pb, po, none⟩ = some (.int .i64 (gg.1 : Nat)) := pc 0 (by simp [rowG])
        have p1 : wr.cell? ⟨pb, po + 1, none⟩ = some (.int .i64 (gg.2 : Nat)) := pc 1 (by simp [rowG])
        have hrow1 : wr.cell? ⟨gl, bi, none⟩ = some (.slice (some ⟨pb, po, none⟩) 2 dd) := hrow0
        have hbi : (bi : Int) < L.length := by omega
        have hb0 : (0 : Int) ≤ (bi : Int) := by omega
        have HBE := Go.Lib.hid (fun m => below_drewN HBW.out m)
        clear hlr0 pc hw hgb hrow0
        go_upto_region 13 with fail
        go_quiet (fail)
        go_wp2_with fail
        refine bodyPost_ret (results_tmp3 rfl _ _ _) rfl ?_
        exact ⟨by rw [HG.out]; rfl, HBE.out _⟩
      case pos =>
        obtain ⟨lb, lo, hDe, -, lc⟩ := (HLS.out.eqw hw).at_ (k := k) (by rw [HZN.out]; exact hlt)
        subst hDe
        have hbl : bigTo zs k < L.length := by
          rcases Nat.eq_zero_or_pos k with e | e
          · subst e; show 0 < _; omega
          · have := HBL.out k e; omega
        have hz1 := lc k (by rw [HZN.out]; exact hlt)
        have hz2 := lc (bigTo zs k) (by rw [HZN.out]; exact hbl)
        have HPS := Go.Lib.hid (posTo_succ zs k)
        have HBS := Go.Lib.hid (show bigTo zs (k + 1) = if zs.getD (bigTo zs k) 0 < zs.getD k 0 then k else bigTo zs k from rfl)
        have HMI := Go.Lib.hid (fun (h : zs.getD k 0 < 0) => HV.out.2 (posTo_miss h hlt))
        generalize hbk : bigTo zs k = bi at *
        generalize zs.getD k 0 = y at *
        generalize zs.getD bi 0 = z at *
        have hki : (k : Int) < L.length := by omega
        have hbi : (bi : Int) < L.length := by omega
        clear lc hw hbk
        by_cases hy : y < 0
        case pos =>
          have HM := Go.Lib.hid (HMI.out hy)
          go_wp2_with fail
          refine bodyPost_ret (results_tmp3 rfl _ _ _) rfl ?_
          exact ⟨by rw [HM.out]; rfl, HBW.out⟩
        case neg =>
          have HPN := Go.Lib.hid (show posTo zs (k + 1) = true by rw [HPS.out, HP.out]; simpa using hy)
          by_cases hzy : z < y
          case pos =>
            rw [if_pos hzy] at HBS
            go_upto_region 11 with fail
            go_quiet (fail)
            go_wp2_with fail
            go_roundw
            case rel => exact ⟨k + 1, by omega, by go_num, by rw [HBS.out], HPN.out, HQ.out.drewN _⟩
            case measure => simp [intOf]; omega
          case neg =>
            rw [if_neg hzy] at HBS
            go_upto_region 11 with fail
            go_quiet (fail)
            go_wp2_with fail
            go_roundw
            case rel => exact ⟨k + 1, by omega, by go_num, by rw [HBS.out], HPN.out, HQ.out.drewN _⟩
            case measure => simp [intOf]; omega
end Go.Proofs.Ytilepehlmjohbaa
