/- The program of chapter 11: whether a gear is crossed, shifts. -/
import Derived.Test.YthedanpldebjcaaShP2
import Derived.Test.YthedanpldebjcaaShiftS1
namespace Go.Proofs.Ythedanpldebjcaa
open Go.RowKit
set_option linter.unusedSimpArgs false
set_option linter.unusedVariables false

theorem shAtV_form (x : Trn) (lm f r : Int) : ∃ a b p q, shAtV x lm f r = gV a b p q := by
  unfold shAtV
  split
  · exact gearAtV_form x f r
  · exact ⟨_, _, _, _, rfl⟩
theorem shAtV_ok {x : Trn} {lm f r : Int} (h : code11 x lm f r = 0) : shAtV x lm f r = gV f r (fI x f.toNat) (rI x r.toNat) := by
  obtain ⟨ht, hg, hl⟩ := code11_ok h
  unfold shAtV codeS
  rw [if_pos ht, if_pos hl, if_pos rfl]
  exact (code9_ok ht hg).2
theorem gearB_bd {x : Trn} {f r : Int} (h : gearB x f r = true) (h1 : x.f.length ≤ 1048576) (h2 : x.r.length ≤ 1048576) : 0 ≤ f ∧ f ≤ 1048576 ∧ 0 ≤ r ∧ r ≤ 1048576 := by
  unfold gearB at h
  simp only [Bool.and_eq_true, decide_eq_true_eq] at h
  omega
theorem gearB_small {x : Trn} (hx : Train x) {f r : Int} (h : gearB x f r = true) : (-100 ≤ f ∧ f ≤ 100) ∧ (-100 ≤ r ∧ r ≤ 100) := by
  have h3 := hx.f.few
  have h4 := hx.r.few
  unfold gearB at h
  simp only [Bool.and_eq_true, decide_eq_true_eq] at h
  omega
set_option maxRecDepth 100000 in
set_option maxHeartbeats 4000000 in
theorem implCross (x : Trn) (A : Option Addr) (c : Nat) (B : Option Addr) (d : Nat) (lm f r : Int) (w : World) (T : TrL x A c B d w) :
    Calls Try.prog 22 #[trainV x A c B d, .int .i64 lm, .int .i64 f, .int .i64 r] w (GivesBI (crossR x lm f r) w) := by
  have HT := Go.Lib.hid T
  have HX := Go.Lib.hid (show Box ((boxT x A c B d w).alloc (.cells #[.slice A x.f.length c, .slice B x.r.length d, .int .i64 x.n, .int .i64 lm] 74)) (w.heap.size + 1) (shC x A c B d lm) from Box.new (by simp [boxT]) rfl)
  have HXB := Go.Lib.hid ((boxT_below x A c B d w).alloc (boxT_below x A c B d w).size (.cells #[.slice A x.f.length c, .slice B x.r.length d, .int .i64 x.n, .int .i64 lm] 74))
  clear T
  have HGA := Go.Lib.hid (fun w0 T0 => implShAt x A c B d lm f r w0 T0)
  by_cases h0 : code11 x lm f r = 0
  case neg =>
    have HV := Go.Lib.hid (show crossR x lm f r = (false, code11 x lm f r) by unfold crossR; rw [if_neg h0])
    obtain ⟨ga, gb, gc, gd, hv⟩ := shAtV_form x lm f r
    rw [hv, codeG_is] at HGA
    clear hv
    unfold gV at HGA
    unfold shV at HGA
    generalize code11 x lm f r = z at *
    have hzb : (z != 0) = true := by simpa using h0
    clear h0
    unfold trainV
    go_enter Try.func22, Try.ntmps22
    go_upto_region 2 with fail
    refine wp_gen (R := fun W => Box W (w.heap.size + 1) (shC x A c B d lm) ∧ Below w.heap.size w W) ⟨HX.out, HXB.out⟩ ?_
    rintro W ⟨hx, hb⟩
    have HX1 := Go.Lib.hid hx
    have HB1 := Go.Lib.hid hb
    have HT1 := Go.Lib.hid (HT.out.below hb)
    clear hx hb HX HXB
    have hc0 : W.cell? ⟨w.heap.size + 1, 0, none⟩ = some (.slice A x.f.length c) := HX1.out.at_ 0 _ rfl
    have hc1 : W.cell? ⟨w.heap.size + 1, 1, none⟩ = some (.slice B x.r.length d) := HX1.out.at_ 1 _ rfl
    have hc2 : W.cell? ⟨w.heap.size + 1, 2, none⟩ = some (.int .i64 x.n) := HX1.out.at_ 2 _ rfl
    have hc3 : W.cell? ⟨w.heap.size + 1, 3, none⟩ = some (.int .i64 lm) := HX1.out.at_ 3 _ rfl
    go_wp2_with fail
    refine (HGA.out _ HT1.out).mono ?_
    rintro _ w2 ⟨rfl, b2⟩
    have HB2 := Go.Lib.hid ((upB HB1.out b2).alloc (upB HB1.out b2).size (.cells #[.int .i64 ga, .int .i64 gb, .int .i64 gc, .int .i64 gd] 76))
    clear b2 hc0 hc1 hc2 hc3
    go_wp2_with fail
    go_ret2
    exact ⟨by rw [HV.out]; rfl, HB2.out⟩
  case pos =>
    have HV := Go.Lib.hid (show crossR x lm f r = (crossB x lm (f, r), 0) by unfold crossR; rw [if_pos h0])
    obtain ⟨ht, hg, hl⟩ := code11_ok h0
    have hTR := trainB_ok ht
    have HTR := Go.Lib.hid hTR
    have hf1 := hTR.f.one
    have hl4 := inB_iff.1 hl
    rw [shAtV_ok h0, codeG_is, h0] at HGA
    unfold gV at HGA
    unfold shV at HGA
    have HC := Go.Lib.hid (fun w0 T0 => implCrossedG x A c B d lm f r (fI x f.toNat) (rI x r.toNat) w0 T0 hl4 hf1)
    unfold gV at HC
    unfold shV at HC
    clear h0 ht hg hl hTR hf1 hl4
    generalize fI x f.toNat = tf at *
    generalize rI x r.toNat = tr at *
    unfold trainV
    go_enter Try.func22, Try.ntmps22
    go_upto_region 2 with fail
    refine wp_gen (R := fun W => Box W (w.heap.size + 1) (shC x A c B d lm) ∧ Below w.heap.size w W) ⟨HX.out, HXB.out⟩ ?_
    rintro W ⟨hx, hb⟩
    have HX1 := Go.Lib.hid hx
    have HB1 := Go.Lib.hid hb
    have HT1 := Go.Lib.hid (HT.out.below hb)
    clear hx hb HX HXB
    have hc0 : W.cell? ⟨w.heap.size + 1, 0, none⟩ = some (.slice A x.f.length c) := HX1.out.at_ 0 _ rfl
    have hc1 : W.cell? ⟨w.heap.size + 1, 1, none⟩ = some (.slice B x.r.length d) := HX1.out.at_ 1 _ rfl
    have hc2 : W.cell? ⟨w.heap.size + 1, 2, none⟩ = some (.int .i64 x.n) := HX1.out.at_ 2 _ rfl
    have hc3 : W.cell? ⟨w.heap.size + 1, 3, none⟩ = some (.int .i64 lm) := HX1.out.at_ 3 _ rfl
    go_wp2_with fail
    refine (HGA.out _ HT1.out).mono ?_
    rintro _ w2 ⟨rfl, b2⟩
    have HX2 := Go.Lib.hid (HX1.out.below b2)
    have HB2 := Go.Lib.hid (upB HB1.out b2)
    have HT2 := Go.Lib.hid (HT1.out.below b2)
    clear b2 hc0 hc1 hc2 hc3
    have hc0 : w2.cell? ⟨w.heap.size + 1, 0, none⟩ = some (.slice A x.f.length c) := HX2.out.at_ 0 _ rfl
    have hc1 : w2.cell? ⟨w.heap.size + 1, 1, none⟩ = some (.slice B x.r.length d) := HX2.out.at_ 1 _ rfl
    have hc2 : w2.cell? ⟨w.heap.size + 1, 2, none⟩ = some (.int .i64 x.n) := HX2.out.at_ 2 _ rfl
    have hc3 : w2.cell? ⟨w.heap.size + 1, 3, none⟩ = some (.int .i64 lm) := HX2.out.at_ 3 _ rfl
    have HXN := Go.Lib.hid (HX2.out.alloc (.cells #[.int .i64 f, .int .i64 r, .int .i64 tf, .int .i64 tr] 76))
    have HGN := Go.Lib.hid (show Box (w2.alloc (.cells #[.int .i64 f, .int .i64 r, .int .i64 tf, .int .i64 tr] 76)) w2.heap.size (gC f r tf tr) from Box.new rfl rfl)
    have HBN := Go.Lib.hid (HB2.out.alloc HB2.out.size (.cells #[.int .i64 f, .int .i64 r, .int .i64 tf, .int .i64 tr] 76))
    have HTN := Go.Lib.hid (HT2.out.below ((Below.refl w2.heap.size w2).alloc (Nat.le_refl _) (.cells #[.int .i64 f, .int .i64 r, .int .i64 tf, .int .i64 tr] 76)))
    clear hc0 hc1 hc2 hc3
    go_upto_region 3 with fail
    refine wp_gen (R := fun V => Box V (w.heap.size + 1) (shC x A c B d lm) ∧ Box V w2.heap.size (gC f r tf tr) ∧ Below w.heap.size w V ∧ TrL x A c B d V) ⟨HXN.out, HGN.out, HBN.out, HTN.out⟩ ?_
    rintro V ⟨hx, hg, hb, ht⟩
    have HX3 := Go.Lib.hid hx
    have HG3 := Go.Lib.hid hg
    have HB3 := Go.Lib.hid hb
    have HT3 := Go.Lib.hid ht
    clear hx hg hb ht HXN HGN HBN HTN HX2 HB2 HT2
    generalize w2.heap.size = gq at *
    have hc0 : V.cell? ⟨w.heap.size + 1, 0, none⟩ = some (.slice A x.f.length c) := HX3.out.at_ 0 _ rfl
    have hc1 : V.cell? ⟨w.heap.size + 1, 1, none⟩ = some (.slice B x.r.length d) := HX3.out.at_ 1 _ rfl
    have hc2 : V.cell? ⟨w.heap.size + 1, 2, none⟩ = some (.int .i64 x.n) := HX3.out.at_ 2 _ rfl
    have hc3 : V.cell? ⟨w.heap.size + 1, 3, none⟩ = some (.int .i64 lm) := HX3.out.at_ 3 _ rfl
    obtain ⟨g0, g1, g2, g3⟩ := cells4 HG3.out
    go_wp2_with fail
    refine (HC.out _ HT3.out).mono ?_
    rintro _ w4 ⟨rfl, b4⟩
    have HB4 := Go.Lib.hid (upB HB3.out b4)
    clear b4
    go_wp2_with fail
    go_ret2
    exact ⟨by rw [HV.out]; rfl, HB4.out⟩
set_option maxRecDepth 100000 in
set_option maxHeartbeats 4000000 in
theorem implShift (x : Trn) (A : Option Addr) (c : Nat) (B : Option Addr) (d : Nat) (lm f r m : Int) (w : World) (T : TrL x A c B d w) :
    Calls Try.prog 19 #[trainV x A c B d, .int .i64 lm, .int .i64 f, .int .i64 r, .int .i64 m] w (IsV w (.tuple #[.int .i64 (shiftR x lm f r m).1, .int .i64 (shiftR x lm f r m).2.1, .int .i64 (shiftR x lm f r m).2.2])) := by
  have HT := Go.Lib.hid T
  have HX := Go.Lib.hid (show Box ((boxT x A c B d w).alloc (.cells #[.slice A x.f.length c, .slice B x.r.length d, .int .i64 x.n, .int .i64 lm] 74)) (w.heap.size + 1) (shC x A c B d lm) from Box.new (by simp [boxT]) rfl)
  have HXB := Go.Lib.hid ((boxT_below x A c B d w).alloc (boxT_below x A c B d w).size (.cells #[.slice A x.f.length c, .slice B x.r.length d, .int .i64 x.n, .int .i64 lm] 74))
  clear T
  have HGA := Go.Lib.hid (fun w0 T0 => implShAt x A c B d lm f r w0 T0)
  by_cases h0 : code11 x lm f r = 0
  case neg =>
    have HV := Go.Lib.hid (show shiftR x lm f r m = (0, 0, code11 x lm f r) by unfold shiftR; rw [if_neg h0])
    obtain ⟨ga, gb, gc, gd, hv⟩ := shAtV_form x lm f r
    rw [hv, codeG_is] at HGA
    clear hv
    unfold gV at HGA
    unfold shV at HGA
    generalize code11 x lm f r = z at *
    have hzb : (z != 0) = true := by simpa using h0
    clear h0
    unfold trainV
    go_enter Try.func19, Try.ntmps19
    go_upto_region 2 with fail
    refine wp_gen (R := fun W => Box W (w.heap.size + 1) (shC x A c B d lm) ∧ Below w.heap.size w W) ⟨HX.out, HXB.out⟩ ?_
    rintro W ⟨hx, hb⟩
    have HX1 := Go.Lib.hid hx
    have HB1 := Go.Lib.hid hb
    have HT1 := Go.Lib.hid (HT.out.below hb)
    clear hx hb HX HXB
    have hc0 : W.cell? ⟨w.heap.size + 1, 0, none⟩ = some (.slice A x.f.length c) := HX1.out.at_ 0 _ rfl
    have hc1 : W.cell? ⟨w.heap.size + 1, 1, none⟩ = some (.slice B x.r.length d) := HX1.out.at_ 1 _ rfl
    have hc2 : W.cell? ⟨w.heap.size + 1, 2, none⟩ = some (.int .i64 x.n) := HX1.out.at_ 2 _ rfl
    have hc3 : W.cell? ⟨w.heap.size + 1, 3, none⟩ = some (.int .i64 lm) := HX1.out.at_ 3 _ rfl
    go_wp2_with fail
    refine (HGA.out _ HT1.out).mono ?_
    rintro _ w2 ⟨rfl, b2⟩
    have HB2 := Go.Lib.hid ((upB HB1.out b2).alloc (upB HB1.out b2).size (.cells #[.int .i64 ga, .int .i64 gb, .int .i64 gc, .int .i64 gd] 76))
    clear b2 hc0 hc1 hc2 hc3
    go_wp2_with fail
    refine bodyPost_ret (results_tmp3 rfl _ _ _) rfl ?_
    exact ⟨by rw [HV.out]; rfl, HB2.out⟩
  case pos =>
    have HM := Go.Lib.hid (fun w0 => implIsMove m w0)
    obtain ⟨ht, hg, hl⟩ := code11_ok h0
    have hTR := trainB_ok ht
    have HTR := Go.Lib.hid hTR
    have hf1 := hTR.f.one
    have hl4 := inB_iff.1 hl
    rw [shAtV_ok h0, codeG_is, h0] at HGA
    unfold gV at HGA
    unfold shV at HGA
    have hsm := gearB_small hTR hg
    have HC := Go.Lib.hid (fun w0 T0 => implCrossedG x A c B d lm f r (fI x f.toNat) (rI x r.toNat) w0 T0 hl4 hf1)
    unfold gV at HC
    unfold shV at HC
    by_cases hm : inB m 0 3 = true
    case neg =>
      have HV := Go.Lib.hid (show shiftR x lm f r m = (0, 0, 2) by unfold shiftR; rw [if_pos h0, if_neg hm])
      rw [Bool.not_eq_true] at hm
      rw [hm] at HM
      clear h0 ht hg hl hTR hf1 hl4 hsm hm
      generalize fI x f.toNat = tf at *
      generalize rI x r.toNat = tr at *
      unfold trainV
      go_enter Try.func19, Try.ntmps19
      go_upto_region 2 with fail
      refine wp_gen (R := fun W => Box W (w.heap.size + 1) (shC x A c B d lm) ∧ Below w.heap.size w W) ⟨HX.out, HXB.out⟩ ?_
      rintro W ⟨hx, hb⟩
      have HX1 := Go.Lib.hid hx
      have HB1 := Go.Lib.hid hb
      have HT1 := Go.Lib.hid (HT.out.below hb)
      clear hx hb HX HXB
      have hc0 : W.cell? ⟨w.heap.size + 1, 0, none⟩ = some (.slice A x.f.length c) := HX1.out.at_ 0 _ rfl
      have hc1 : W.cell? ⟨w.heap.size + 1, 1, none⟩ = some (.slice B x.r.length d) := HX1.out.at_ 1 _ rfl
      have hc2 : W.cell? ⟨w.heap.size + 1, 2, none⟩ = some (.int .i64 x.n) := HX1.out.at_ 2 _ rfl
      have hc3 : W.cell? ⟨w.heap.size + 1, 3, none⟩ = some (.int .i64 lm) := HX1.out.at_ 3 _ rfl
      go_wp2_with fail
      refine (HGA.out _ HT1.out).mono ?_
      rintro _ w2 ⟨rfl, b2⟩
      have HX2 := Go.Lib.hid (HX1.out.below b2)
      have HB2 := Go.Lib.hid (upB HB1.out b2)
      have HT2 := Go.Lib.hid (HT1.out.below b2)
      clear b2 hc0 hc1 hc2 hc3
      have hc0 : w2.cell? ⟨w.heap.size + 1, 0, none⟩ = some (.slice A x.f.length c) := HX2.out.at_ 0 _ rfl
      have hc1 : w2.cell? ⟨w.heap.size + 1, 1, none⟩ = some (.slice B x.r.length d) := HX2.out.at_ 1 _ rfl
      have hc2 : w2.cell? ⟨w.heap.size + 1, 2, none⟩ = some (.int .i64 x.n) := HX2.out.at_ 2 _ rfl
      have hc3 : w2.cell? ⟨w.heap.size + 1, 3, none⟩ = some (.int .i64 lm) := HX2.out.at_ 3 _ rfl
      have HXN := Go.Lib.hid (HX2.out.alloc (.cells #[.int .i64 f, .int .i64 r, .int .i64 tf, .int .i64 tr] 76))
      have HGN := Go.Lib.hid (show Box (w2.alloc (.cells #[.int .i64 f, .int .i64 r, .int .i64 tf, .int .i64 tr] 76)) w2.heap.size (gC f r tf tr) from Box.new rfl rfl)
      have HBN := Go.Lib.hid (HB2.out.alloc HB2.out.size (.cells #[.int .i64 f, .int .i64 r, .int .i64 tf, .int .i64 tr] 76))
      have HTN := Go.Lib.hid (HT2.out.below ((Below.refl w2.heap.size w2).alloc (Nat.le_refl _) (.cells #[.int .i64 f, .int .i64 r, .int .i64 tf, .int .i64 tr] 76)))
      clear hc0 hc1 hc2 hc3
      go_upto_region 3 with fail
      refine wp_gen (R := fun V => Box V (w.heap.size + 1) (shC x A c B d lm) ∧ Box V w2.heap.size (gC f r tf tr) ∧ Below w.heap.size w V ∧ TrL x A c B d V) ⟨HXN.out, HGN.out, HBN.out, HTN.out⟩ ?_
      rintro V ⟨hx, hg, hb, ht⟩
      have HX3 := Go.Lib.hid hx
      have HG3 := Go.Lib.hid hg
      have HB3 := Go.Lib.hid hb
      have HT3 := Go.Lib.hid ht
      clear hx hg hb ht HXN HGN HBN HTN HX2 HB2 HT2
      generalize w2.heap.size = gq at *
      have hc0 : V.cell? ⟨w.heap.size + 1, 0, none⟩ = some (.slice A x.f.length c) := HX3.out.at_ 0 _ rfl
      have hc1 : V.cell? ⟨w.heap.size + 1, 1, none⟩ = some (.slice B x.r.length d) := HX3.out.at_ 1 _ rfl
      have hc2 : V.cell? ⟨w.heap.size + 1, 2, none⟩ = some (.int .i64 x.n) := HX3.out.at_ 2 _ rfl
      have hc3 : V.cell? ⟨w.heap.size + 1, 3, none⟩ = some (.int .i64 lm) := HX3.out.at_ 3 _ rfl
      obtain ⟨g0, g1, g2, g3⟩ := cells4 HG3.out
      go_wp2_with fail
      refine (HM.out _).mono ?_
      rintro _ _ ⟨rfl, rfl⟩
      go_wp2_with fail
      refine bodyPost_ret (results_tmp3 rfl _ _ _) rfl ?_
      exact ⟨by rw [HV.out]; rfl, HB3.out⟩
    case pos =>
      have HV0 := Go.Lib.hid (show shiftR x lm f r m = if crossB x lm (f, r) then (0, 0, 5) else if okG x lm (mvG (f, r) m) then ((mvG (f, r) m).1, (mvG (f, r) m).2, 0) else (0, 0, 5) by unfold shiftR; rw [if_pos h0, if_pos hm])
      rw [hm] at HM
      have HS := Go.Lib.hid (fun w0 T0 => implShiftG x A c B d lm f r (fI x f.toNat) (rI x r.toNat) m w0 T0 ht hsm.1 hsm.2 (inB_iff.1 hm))
      obtain ⟨na, nb, nc, nd, hv⟩ := gearAtV_form x (mvG (f, r) m).1 (mvG (f, r) m).2
      have HOK := Go.Lib.hid (show okG x lm (mvG (f, r) m) = (gearB x (mvG (f, r) m).1 (mvG (f, r) m).2 && !crossB x lm (mvG (f, r) m)) from rfl)
      have HNA := Go.Lib.hid (fun (h : gearB x (mvG (f, r) m).1 (mvG (f, r) m).2 = true) => show na = (mvG (f, r) m).1 ∧ nb = (mvG (f, r) m).2 by
        have e := (code9_ok ht h).2
        rw [hv] at e
        unfold gV at e
        simp only [Value.agg.injEq, Array.mk.injEq, List.cons.injEq, Value.int.injEq, true_and, and_true] at e
        exact ⟨e.1, e.2.1⟩)
      have HC2 := Go.Lib.hid (fun w0 T0 => implCrossedG x A c B d lm na nb nc nd w0 T0 hl4 hf1)
      rw [hv] at HS
      unfold gV at HS HC2
      unfold shV at HS HC2
      clear h0 ht hg hl hTR hf1 hl4 hsm hm hv
      generalize fI x f.toNat = tf at *
      generalize rI x r.toNat = tr at *
      generalize crossB x lm (f, r) = cb at *
      cases cb
      case true =>
        have HV := Go.Lib.hid (show shiftR x lm f r m = (0, 0, 5) from HV0.out)
        clear HV0 HC2 HNA HOK
        generalize gearB x (mvG (f, r) m).1 (mvG (f, r) m).2 = gbb at *
        unfold trainV
        go_enter Try.func19, Try.ntmps19
        go_upto_region 2 with fail
        refine wp_gen (R := fun W => Box W (w.heap.size + 1) (shC x A c B d lm) ∧ Below w.heap.size w W) ⟨HX.out, HXB.out⟩ ?_
        rintro W ⟨hx, hb⟩
        have HX1 := Go.Lib.hid hx
        have HB1 := Go.Lib.hid hb
        have HT1 := Go.Lib.hid (HT.out.below hb)
        clear hx hb HX HXB
        have hc0 : W.cell? ⟨w.heap.size + 1, 0, none⟩ = some (.slice A x.f.length c) := HX1.out.at_ 0 _ rfl
        have hc1 : W.cell? ⟨w.heap.size + 1, 1, none⟩ = some (.slice B x.r.length d) := HX1.out.at_ 1 _ rfl
        have hc2 : W.cell? ⟨w.heap.size + 1, 2, none⟩ = some (.int .i64 x.n) := HX1.out.at_ 2 _ rfl
        have hc3 : W.cell? ⟨w.heap.size + 1, 3, none⟩ = some (.int .i64 lm) := HX1.out.at_ 3 _ rfl
        go_wp2_with fail
        refine (HGA.out _ HT1.out).mono ?_
        rintro _ w2 ⟨rfl, b2⟩
        have HX2 := Go.Lib.hid (HX1.out.below b2)
        have HB2 := Go.Lib.hid (upB HB1.out b2)
        have HT2 := Go.Lib.hid (HT1.out.below b2)
        clear b2 hc0 hc1 hc2 hc3
        have hc0 : w2.cell? ⟨w.heap.size + 1, 0, none⟩ = some (.slice A x.f.length c) := HX2.out.at_ 0 _ rfl
        have hc1 : w2.cell? ⟨w.heap.size + 1, 1, none⟩ = some (.slice B x.r.length d) := HX2.out.at_ 1 _ rfl
        have hc2 : w2.cell? ⟨w.heap.size + 1, 2, none⟩ = some (.int .i64 x.n) := HX2.out.at_ 2 _ rfl
        have hc3 : w2.cell? ⟨w.heap.size + 1, 3, none⟩ = some (.int .i64 lm) := HX2.out.at_ 3 _ rfl
        have HXN := Go.Lib.hid (HX2.out.alloc (.cells #[.int .i64 f, .int .i64 r, .int .i64 tf, .int .i64 tr] 76))
        have HGN := Go.Lib.hid (show Box (w2.alloc (.cells #[.int .i64 f, .int .i64 r, .int .i64 tf, .int .i64 tr] 76)) w2.heap.size (gC f r tf tr) from Box.new rfl rfl)
        have HBN := Go.Lib.hid (HB2.out.alloc HB2.out.size (.cells #[.int .i64 f, .int .i64 r, .int .i64 tf, .int .i64 tr] 76))
        have HTN := Go.Lib.hid (HT2.out.below ((Below.refl w2.heap.size w2).alloc (Nat.le_refl _) (.cells #[.int .i64 f, .int .i64 r, .int .i64 tf, .int .i64 tr] 76)))
        clear hc0 hc1 hc2 hc3
        go_upto_region 3 with fail
        refine wp_gen (R := fun V => Box V (w.heap.size + 1) (shC x A c B d lm) ∧ Box V w2.heap.size (gC f r tf tr) ∧ Below w.heap.size w V ∧ TrL x A c B d V) ⟨HXN.out, HGN.out, HBN.out, HTN.out⟩ ?_
        rintro V ⟨hx, hg, hb, ht⟩
        have HX3 := Go.Lib.hid hx
        have HG3 := Go.Lib.hid hg
        have HB3 := Go.Lib.hid hb
        have HT3 := Go.Lib.hid ht
        clear hx hg hb ht HXN HGN HBN HTN HX2 HB2 HT2
        generalize w2.heap.size = gq at *
        have hc0 : V.cell? ⟨w.heap.size + 1, 0, none⟩ = some (.slice A x.f.length c) := HX3.out.at_ 0 _ rfl
        have hc1 : V.cell? ⟨w.heap.size + 1, 1, none⟩ = some (.slice B x.r.length d) := HX3.out.at_ 1 _ rfl
        have hc2 : V.cell? ⟨w.heap.size + 1, 2, none⟩ = some (.int .i64 x.n) := HX3.out.at_ 2 _ rfl
        have hc3 : V.cell? ⟨w.heap.size + 1, 3, none⟩ = some (.int .i64 lm) := HX3.out.at_ 3 _ rfl
        obtain ⟨g0, g1, g2, g3⟩ := cells4 HG3.out
        go_wp2_with fail
        refine (HM.out _).mono ?_
        rintro _ _ ⟨rfl, rfl⟩
        go_wp2_with fail
        refine (HS.out _ HT3.out).mono ?_
        rintro _ w4 ⟨rfl, b4⟩
        have HX4 := Go.Lib.hid (HX3.out.below b4)
        have HB4 := Go.Lib.hid (upB HB3.out b4)
        have HT4 := Go.Lib.hid (HT3.out.below b4)
        have HG4 := Go.Lib.hid (HG3.out.below b4)
        clear b4 hc0 hc1 hc2 hc3 g0 g1 g2 g3
        have HXN := Go.Lib.hid (HX4.out.alloc (.cells #[.int .i64 na, .int .i64 nb, .int .i64 nc, .int .i64 nd] 76))
        have HGN := Go.Lib.hid (HG4.out.alloc (.cells #[.int .i64 na, .int .i64 nb, .int .i64 nc, .int .i64 nd] 76))
        have HNN := Go.Lib.hid (show Box (w4.alloc (.cells #[.int .i64 na, .int .i64 nb, .int .i64 nc, .int .i64 nd] 76)) w4.heap.size (gC na nb nc nd) from Box.new rfl rfl)
        have HBN := Go.Lib.hid (HB4.out.alloc HB4.out.size (.cells #[.int .i64 na, .int .i64 nb, .int .i64 nc, .int .i64 nd] 76))
        have HTN := Go.Lib.hid (HT4.out.below ((Below.refl w4.heap.size w4).alloc (Nat.le_refl _) (.cells #[.int .i64 na, .int .i64 nb, .int .i64 nc, .int .i64 nd] 76)))
        go_upto_region 8 with fail
        refine wp_gen (R := fun V => Box V (w.heap.size + 1) (shC x A c B d lm) ∧ Box V gq (gC f r tf tr) ∧ Box V w4.heap.size (gC na nb nc nd) ∧ Below w.heap.size w V ∧ TrL x A c B d V) ⟨HXN.out, HGN.out, HNN.out, HBN.out, HTN.out⟩ ?_
        rintro V5 ⟨hx, hg, hn, hb, ht⟩
        have HX5 := Go.Lib.hid hx
        have HG5 := Go.Lib.hid hg
        have HN5 := Go.Lib.hid hn
        have HB5 := Go.Lib.hid hb
        have HT5 := Go.Lib.hid ht
        clear hx hg hn hb ht HXN HGN HNN HBN HTN HX4 HB4 HT4 HG4 HX3 HB3 HT3 HG3
        generalize w4.heap.size = nq at *
        have hc0 : V5.cell? ⟨w.heap.size + 1, 0, none⟩ = some (.slice A x.f.length c) := HX5.out.at_ 0 _ rfl
        have hc1 : V5.cell? ⟨w.heap.size + 1, 1, none⟩ = some (.slice B x.r.length d) := HX5.out.at_ 1 _ rfl
        have hc2 : V5.cell? ⟨w.heap.size + 1, 2, none⟩ = some (.int .i64 x.n) := HX5.out.at_ 2 _ rfl
        have hc3 : V5.cell? ⟨w.heap.size + 1, 3, none⟩ = some (.int .i64 lm) := HX5.out.at_ 3 _ rfl
        obtain ⟨g0, g1, g2, g3⟩ := cells4 HG5.out
        go_wp2_with fail
        refine (HC.out _ HT5.out).mono ?_
        rintro _ w6 ⟨rfl, b6⟩
        have HX6 := Go.Lib.hid (HX5.out.below b6)
        have HB6 := Go.Lib.hid (upB HB5.out b6)
        have HT6 := Go.Lib.hid (HT5.out.below b6)
        have HN6 := Go.Lib.hid (HN5.out.below b6)
        clear b6 hc0 hc1 hc2 hc3 g0 g1 g2 g3
        go_wp2_with fail
        refine bodyPost_ret (results_tmp3 rfl _ _ _) rfl ?_
        exact ⟨by rw [HV.out]; rfl, HB6.out⟩
      case false =>
        cases hgb : gearB x (mvG (f, r) m).1 (mvG (f, r) m).2
        case false =>
          have HV := Go.Lib.hid (show shiftR x lm f r m = (0, 0, 5) by rw [HV0.out, HOK.out, hgb]; rfl)
          rw [hgb] at HS
          clear HV0 HC2 HNA HOK hgb
          unfold trainV
          go_enter Try.func19, Try.ntmps19
          go_upto_region 2 with fail
          refine wp_gen (R := fun W => Box W (w.heap.size + 1) (shC x A c B d lm) ∧ Below w.heap.size w W) ⟨HX.out, HXB.out⟩ ?_
          rintro W ⟨hx, hb⟩
          have HX1 := Go.Lib.hid hx
          have HB1 := Go.Lib.hid hb
          have HT1 := Go.Lib.hid (HT.out.below hb)
          clear hx hb HX HXB
          have hc0 : W.cell? ⟨w.heap.size + 1, 0, none⟩ = some (.slice A x.f.length c) := HX1.out.at_ 0 _ rfl
          have hc1 : W.cell? ⟨w.heap.size + 1, 1, none⟩ = some (.slice B x.r.length d) := HX1.out.at_ 1 _ rfl
          have hc2 : W.cell? ⟨w.heap.size + 1, 2, none⟩ = some (.int .i64 x.n) := HX1.out.at_ 2 _ rfl
          have hc3 : W.cell? ⟨w.heap.size + 1, 3, none⟩ = some (.int .i64 lm) := HX1.out.at_ 3 _ rfl
          go_wp2_with fail
          refine (HGA.out _ HT1.out).mono ?_
          rintro _ w2 ⟨rfl, b2⟩
          have HX2 := Go.Lib.hid (HX1.out.below b2)
          have HB2 := Go.Lib.hid (upB HB1.out b2)
          have HT2 := Go.Lib.hid (HT1.out.below b2)
          clear b2 hc0 hc1 hc2 hc3
          have hc0 : w2.cell? ⟨w.heap.size + 1, 0, none⟩ = some (.slice A x.f.length c) := HX2.out.at_ 0 _ rfl
          have hc1 : w2.cell? ⟨w.heap.size + 1, 1, none⟩ = some (.slice B x.r.length d) := HX2.out.at_ 1 _ rfl
          have hc2 : w2.cell? ⟨w.heap.size + 1, 2, none⟩ = some (.int .i64 x.n) := HX2.out.at_ 2 _ rfl
          have hc3 : w2.cell? ⟨w.heap.size + 1, 3, none⟩ = some (.int .i64 lm) := HX2.out.at_ 3 _ rfl
          have HXN := Go.Lib.hid (HX2.out.alloc (.cells #[.int .i64 f, .int .i64 r, .int .i64 tf, .int .i64 tr] 76))
          have HGN := Go.Lib.hid (show Box (w2.alloc (.cells #[.int .i64 f, .int .i64 r, .int .i64 tf, .int .i64 tr] 76)) w2.heap.size (gC f r tf tr) from Box.new rfl rfl)
          have HBN := Go.Lib.hid (HB2.out.alloc HB2.out.size (.cells #[.int .i64 f, .int .i64 r, .int .i64 tf, .int .i64 tr] 76))
          have HTN := Go.Lib.hid (HT2.out.below ((Below.refl w2.heap.size w2).alloc (Nat.le_refl _) (.cells #[.int .i64 f, .int .i64 r, .int .i64 tf, .int .i64 tr] 76)))
          clear hc0 hc1 hc2 hc3
          go_upto_region 3 with fail
          refine wp_gen (R := fun V => Box V (w.heap.size + 1) (shC x A c B d lm) ∧ Box V w2.heap.size (gC f r tf tr) ∧ Below w.heap.size w V ∧ TrL x A c B d V) ⟨HXN.out, HGN.out, HBN.out, HTN.out⟩ ?_
          rintro V ⟨hx, hg, hb, ht⟩
          have HX3 := Go.Lib.hid hx
          have HG3 := Go.Lib.hid hg
          have HB3 := Go.Lib.hid hb
          have HT3 := Go.Lib.hid ht
          clear hx hg hb ht HXN HGN HBN HTN HX2 HB2 HT2
          generalize w2.heap.size = gq at *
          have hc0 : V.cell? ⟨w.heap.size + 1, 0, none⟩ = some (.slice A x.f.length c) := HX3.out.at_ 0 _ rfl
          have hc1 : V.cell? ⟨w.heap.size + 1, 1, none⟩ = some (.slice B x.r.length d) := HX3.out.at_ 1 _ rfl
          have hc2 : V.cell? ⟨w.heap.size + 1, 2, none⟩ = some (.int .i64 x.n) := HX3.out.at_ 2 _ rfl
          have hc3 : V.cell? ⟨w.heap.size + 1, 3, none⟩ = some (.int .i64 lm) := HX3.out.at_ 3 _ rfl
          obtain ⟨g0, g1, g2, g3⟩ := cells4 HG3.out
          go_wp2_with fail
          refine (HM.out _).mono ?_
          rintro _ _ ⟨rfl, rfl⟩
          go_wp2_with fail
          refine (HS.out _ HT3.out).mono ?_
          rintro _ w4 ⟨rfl, b4⟩
          have HX4 := Go.Lib.hid (HX3.out.below b4)
          have HB4 := Go.Lib.hid (upB HB3.out b4)
          have HT4 := Go.Lib.hid (HT3.out.below b4)
          have HG4 := Go.Lib.hid (HG3.out.below b4)
          clear b4 hc0 hc1 hc2 hc3 g0 g1 g2 g3
          have HXN := Go.Lib.hid (HX4.out.alloc (.cells #[.int .i64 na, .int .i64 nb, .int .i64 nc, .int .i64 nd] 76))
          have HGN := Go.Lib.hid (HG4.out.alloc (.cells #[.int .i64 na, .int .i64 nb, .int .i64 nc, .int .i64 nd] 76))
          have HNN := Go.Lib.hid (show Box (w4.alloc (.cells #[.int .i64 na, .int .i64 nb, .int .i64 nc, .int .i64 nd] 76)) w4.heap.size (gC na nb nc nd) from Box.new rfl rfl)
          have HBN := Go.Lib.hid (HB4.out.alloc HB4.out.size (.cells #[.int .i64 na, .int .i64 nb, .int .i64 nc, .int .i64 nd] 76))
          have HTN := Go.Lib.hid (HT4.out.below ((Below.refl w4.heap.size w4).alloc (Nat.le_refl _) (.cells #[.int .i64 na, .int .i64 nb, .int .i64 nc, .int .i64 nd] 76)))
          go_upto_region 8 with fail
          refine wp_gen (R := fun V => Box V (w.heap.size + 1) (shC x A c B d lm) ∧ Box V gq (gC f r tf tr) ∧ Box V w4.heap.size (gC na nb nc nd) ∧ Below w.heap.size w V ∧ TrL x A c B d V) ⟨HXN.out, HGN.out, HNN.out, HBN.out, HTN.out⟩ ?_
          rintro V5 ⟨hx, hg, hn, hb, ht⟩
          have HX5 := Go.Lib.hid hx
          have HG5 := Go.Lib.hid hg
          have HN5 := Go.Lib.hid hn
          have HB5 := Go.Lib.hid hb
          have HT5 := Go.Lib.hid ht
          clear hx hg hn hb ht HXN HGN HNN HBN HTN HX4 HB4 HT4 HG4 HX3 HB3 HT3 HG3
          generalize w4.heap.size = nq at *
          have hc0 : V5.cell? ⟨w.heap.size + 1, 0, none⟩ = some (.slice A x.f.length c) := HX5.out.at_ 0 _ rfl
          have hc1 : V5.cell? ⟨w.heap.size + 1, 1, none⟩ = some (.slice B x.r.length d) := HX5.out.at_ 1 _ rfl
          have hc2 : V5.cell? ⟨w.heap.size + 1, 2, none⟩ = some (.int .i64 x.n) := HX5.out.at_ 2 _ rfl
          have hc3 : V5.cell? ⟨w.heap.size + 1, 3, none⟩ = some (.int .i64 lm) := HX5.out.at_ 3 _ rfl
          obtain ⟨g0, g1, g2, g3⟩ := cells4 HG5.out
          go_wp2_with fail
          refine (HC.out _ HT5.out).mono ?_
          rintro _ w6 ⟨rfl, b6⟩
          have HX6 := Go.Lib.hid (HX5.out.below b6)
          have HB6 := Go.Lib.hid (upB HB5.out b6)
          have HT6 := Go.Lib.hid (HT5.out.below b6)
          have HN6 := Go.Lib.hid (HN5.out.below b6)
          clear b6 hc0 hc1 hc2 hc3 g0 g1 g2 g3
          go_wp2_with fail
          refine bodyPost_ret (results_tmp3 rfl _ _ _) rfl ?_
          exact ⟨by rw [HV.out]; rfl, HB6.out⟩
        case true =>
          obtain ⟨rfl, rfl⟩ := HNA.out hgb
          rw [hgb] at HS HOK
          have HV1 := Go.Lib.hid (show shiftR x lm f r m = if crossB x lm (mvG (f, r) m) then (0, 0, 5) else ((mvG (f, r) m).1, (mvG (f, r) m).2, 0) by rw [HV0.out, HOK.out]; cases crossB x lm (mvG (f, r) m) <;> rfl)
          clear HV0 HNA HOK hgb
          generalize mvG (f, r) m = pm at *
          obtain ⟨na, nb⟩ := pm
          dsimp only at HS HC2 HV1
          generalize crossB x lm (na, nb) = cb2 at *
          cases cb2
          case true =>
            have HV := Go.Lib.hid (show shiftR x lm f r m = (0, 0, 5) from HV1.out)
            clear HV1
            unfold trainV
            go_enter Try.func19, Try.ntmps19
            go_upto_region 2 with fail
            refine wp_gen (R := fun W => Box W (w.heap.size + 1) (shC x A c B d lm) ∧ Below w.heap.size w W) ⟨HX.out, HXB.out⟩ ?_
            rintro W ⟨hx, hb⟩
            have HX1 := Go.Lib.hid hx
            have HB1 := Go.Lib.hid hb
            have HT1 := Go.Lib.hid (HT.out.below hb)
            clear hx hb HX HXB
            have hc0 : W.cell? ⟨w.heap.size + 1, 0, none⟩ = some (.slice A x.f.length c) := HX1.out.at_ 0 _ rfl
            have hc1 : W.cell? ⟨w.heap.size + 1, 1, none⟩ = some (.slice B x.r.length d) := HX1.out.at_ 1 _ rfl
            have hc2 : W.cell? ⟨w.heap.size + 1, 2, none⟩ = some (.int .i64 x.n) := HX1.out.at_ 2 _ rfl
            have hc3 : W.cell? ⟨w.heap.size + 1, 3, none⟩ = some (.int .i64 lm) := HX1.out.at_ 3 _ rfl
            go_wp2_with fail
            refine (HGA.out _ HT1.out).mono ?_
            rintro _ w2 ⟨rfl, b2⟩
            have HX2 := Go.Lib.hid (HX1.out.below b2)
            have HB2 := Go.Lib.hid (upB HB1.out b2)
            have HT2 := Go.Lib.hid (HT1.out.below b2)
            clear b2 hc0 hc1 hc2 hc3
            have hc0 : w2.cell? ⟨w.heap.size + 1, 0, none⟩ = some (.slice A x.f.length c) := HX2.out.at_ 0 _ rfl
            have hc1 : w2.cell? ⟨w.heap.size + 1, 1, none⟩ = some (.slice B x.r.length d) := HX2.out.at_ 1 _ rfl
            have hc2 : w2.cell? ⟨w.heap.size + 1, 2, none⟩ = some (.int .i64 x.n) := HX2.out.at_ 2 _ rfl
            have hc3 : w2.cell? ⟨w.heap.size + 1, 3, none⟩ = some (.int .i64 lm) := HX2.out.at_ 3 _ rfl
            have HXN := Go.Lib.hid (HX2.out.alloc (.cells #[.int .i64 f, .int .i64 r, .int .i64 tf, .int .i64 tr] 76))
            have HGN := Go.Lib.hid (show Box (w2.alloc (.cells #[.int .i64 f, .int .i64 r, .int .i64 tf, .int .i64 tr] 76)) w2.heap.size (gC f r tf tr) from Box.new rfl rfl)
            have HBN := Go.Lib.hid (HB2.out.alloc HB2.out.size (.cells #[.int .i64 f, .int .i64 r, .int .i64 tf, .int .i64 tr] 76))
            have HTN := Go.Lib.hid (HT2.out.below ((Below.refl w2.heap.size w2).alloc (Nat.le_refl _) (.cells #[.int .i64 f, .int .i64 r, .int .i64 tf, .int .i64 tr] 76)))
            clear hc0 hc1 hc2 hc3
            go_upto_region 3 with fail
            refine wp_gen (R := fun V => Box V (w.heap.size + 1) (shC x A c B d lm) ∧ Box V w2.heap.size (gC f r tf tr) ∧ Below w.heap.size w V ∧ TrL x A c B d V) ⟨HXN.out, HGN.out, HBN.out, HTN.out⟩ ?_
            rintro V ⟨hx, hg, hb, ht⟩
            have HX3 := Go.Lib.hid hx
            have HG3 := Go.Lib.hid hg
            have HB3 := Go.Lib.hid hb
            have HT3 := Go.Lib.hid ht
            clear hx hg hb ht HXN HGN HBN HTN HX2 HB2 HT2
            generalize w2.heap.size = gq at *
            have hc0 : V.cell? ⟨w.heap.size + 1, 0, none⟩ = some (.slice A x.f.length c) := HX3.out.at_ 0 _ rfl
            have hc1 : V.cell? ⟨w.heap.size + 1, 1, none⟩ = some (.slice B x.r.length d) := HX3.out.at_ 1 _ rfl
            have hc2 : V.cell? ⟨w.heap.size + 1, 2, none⟩ = some (.int .i64 x.n) := HX3.out.at_ 2 _ rfl
            have hc3 : V.cell? ⟨w.heap.size + 1, 3, none⟩ = some (.int .i64 lm) := HX3.out.at_ 3 _ rfl
            obtain ⟨g0, g1, g2, g3⟩ := cells4 HG3.out
            go_wp2_with fail
            refine (HM.out _).mono ?_
            rintro _ _ ⟨rfl, rfl⟩
            go_wp2_with fail
            refine (HS.out _ HT3.out).mono ?_
            rintro _ w4 ⟨rfl, b4⟩
            have HX4 := Go.Lib.hid (HX3.out.below b4)
            have HB4 := Go.Lib.hid (upB HB3.out b4)
            have HT4 := Go.Lib.hid (HT3.out.below b4)
            have HG4 := Go.Lib.hid (HG3.out.below b4)
            clear b4 hc0 hc1 hc2 hc3 g0 g1 g2 g3
            have HXN := Go.Lib.hid (HX4.out.alloc (.cells #[.int .i64 na, .int .i64 nb, .int .i64 nc, .int .i64 nd] 76))
            have HGN := Go.Lib.hid (HG4.out.alloc (.cells #[.int .i64 na, .int .i64 nb, .int .i64 nc, .int .i64 nd] 76))
            have HNN := Go.Lib.hid (show Box (w4.alloc (.cells #[.int .i64 na, .int .i64 nb, .int .i64 nc, .int .i64 nd] 76)) w4.heap.size (gC na nb nc nd) from Box.new rfl rfl)
            have HBN := Go.Lib.hid (HB4.out.alloc HB4.out.size (.cells #[.int .i64 na, .int .i64 nb, .int .i64 nc, .int .i64 nd] 76))
            have HTN := Go.Lib.hid (HT4.out.below ((Below.refl w4.heap.size w4).alloc (Nat.le_refl _) (.cells #[.int .i64 na, .int .i64 nb, .int .i64 nc, .int .i64 nd] 76)))
            go_upto_region 8 with fail
            refine wp_gen (R := fun V => Box V (w.heap.size + 1) (shC x A c B d lm) ∧ Box V gq (gC f r tf tr) ∧ Box V w4.heap.size (gC na nb nc nd) ∧ Below w.heap.size w V ∧ TrL x A c B d V) ⟨HXN.out, HGN.out, HNN.out, HBN.out, HTN.out⟩ ?_
            rintro V5 ⟨hx, hg, hn, hb, ht⟩
            have HX5 := Go.Lib.hid hx
            have HG5 := Go.Lib.hid hg
            have HN5 := Go.Lib.hid hn
            have HB5 := Go.Lib.hid hb
            have HT5 := Go.Lib.hid ht
            clear hx hg hn hb ht HXN HGN HNN HBN HTN HX4 HB4 HT4 HG4 HX3 HB3 HT3 HG3
            generalize w4.heap.size = nq at *
            have hc0 : V5.cell? ⟨w.heap.size + 1, 0, none⟩ = some (.slice A x.f.length c) := HX5.out.at_ 0 _ rfl
            have hc1 : V5.cell? ⟨w.heap.size + 1, 1, none⟩ = some (.slice B x.r.length d) := HX5.out.at_ 1 _ rfl
            have hc2 : V5.cell? ⟨w.heap.size + 1, 2, none⟩ = some (.int .i64 x.n) := HX5.out.at_ 2 _ rfl
            have hc3 : V5.cell? ⟨w.heap.size + 1, 3, none⟩ = some (.int .i64 lm) := HX5.out.at_ 3 _ rfl
            obtain ⟨g0, g1, g2, g3⟩ := cells4 HG5.out
            go_wp2_with fail
            refine (HC.out _ HT5.out).mono ?_
            rintro _ w6 ⟨rfl, b6⟩
            have HX6 := Go.Lib.hid (HX5.out.below b6)
            have HB6 := Go.Lib.hid (upB HB5.out b6)
            have HT6 := Go.Lib.hid (HT5.out.below b6)
            have HN6 := Go.Lib.hid (HN5.out.below b6)
            clear b6 hc0 hc1 hc2 hc3 g0 g1 g2 g3
            have hc0 : w6.cell? ⟨w.heap.size + 1, 0, none⟩ = some (.slice A x.f.length c) := HX6.out.at_ 0 _ rfl
            have hc1 : w6.cell? ⟨w.heap.size + 1, 1, none⟩ = some (.slice B x.r.length d) := HX6.out.at_ 1 _ rfl
            have hc2 : w6.cell? ⟨w.heap.size + 1, 2, none⟩ = some (.int .i64 x.n) := HX6.out.at_ 2 _ rfl
            have hc3 : w6.cell? ⟨w.heap.size + 1, 3, none⟩ = some (.int .i64 lm) := HX6.out.at_ 3 _ rfl
            obtain ⟨n0, n1, n2, n3⟩ := cells4 HN6.out
            go_wp2_with fail
            refine (HC2.out _ HT6.out).mono ?_
            rintro _ w7 ⟨rfl, b7⟩
            have HB7 := Go.Lib.hid (upB HB6.out b7)
            clear b7 hc0 hc1 hc2 hc3 n0 n1 n2 n3
            go_wp2_with fail
            refine bodyPost_ret (results_tmp3 rfl _ _ _) rfl ?_
            exact ⟨by rw [HV.out]; rfl, HB7.out⟩
          case false =>
            have HV := Go.Lib.hid (show shiftR x lm f r m = (na, nb, 0) from HV1.out)
            clear HV1
            unfold trainV
            go_enter Try.func19, Try.ntmps19
            go_upto_region 2 with fail
            refine wp_gen (R := fun W => Box W (w.heap.size + 1) (shC x A c B d lm) ∧ Below w.heap.size w W) ⟨HX.out, HXB.out⟩ ?_
            rintro W ⟨hx, hb⟩
            have HX1 := Go.Lib.hid hx
            have HB1 := Go.Lib.hid hb
            have HT1 := Go.Lib.hid (HT.out.below hb)
            clear hx hb HX HXB
            have hc0 : W.cell? ⟨w.heap.size + 1, 0, none⟩ = some (.slice A x.f.length c) := HX1.out.at_ 0 _ rfl
            have hc1 : W.cell? ⟨w.heap.size + 1, 1, none⟩ = some (.slice B x.r.length d) := HX1.out.at_ 1 _ rfl
            have hc2 : W.cell? ⟨w.heap.size + 1, 2, none⟩ = some (.int .i64 x.n) := HX1.out.at_ 2 _ rfl
            have hc3 : W.cell? ⟨w.heap.size + 1, 3, none⟩ = some (.int .i64 lm) := HX1.out.at_ 3 _ rfl
            go_wp2_with fail
            refine (HGA.out _ HT1.out).mono ?_
            rintro _ w2 ⟨rfl, b2⟩
            have HX2 := Go.Lib.hid (HX1.out.below b2)
            have HB2 := Go.Lib.hid (upB HB1.out b2)
            have HT2 := Go.Lib.hid (HT1.out.below b2)
            clear b2 hc0 hc1 hc2 hc3
            have hc0 : w2.cell? ⟨w.heap.size + 1, 0, none⟩ = some (.slice A x.f.length c) := HX2.out.at_ 0 _ rfl
            have hc1 : w2.cell? ⟨w.heap.size + 1, 1, none⟩ = some (.slice B x.r.length d) := HX2.out.at_ 1 _ rfl
            have hc2 : w2.cell? ⟨w.heap.size + 1, 2, none⟩ = some (.int .i64 x.n) := HX2.out.at_ 2 _ rfl
            have hc3 : w2.cell? ⟨w.heap.size + 1, 3, none⟩ = some (.int .i64 lm) := HX2.out.at_ 3 _ rfl
            have HXN := Go.Lib.hid (HX2.out.alloc (.cells #[.int .i64 f, .int .i64 r, .int .i64 tf, .int .i64 tr] 76))
            have HGN := Go.Lib.hid (show Box (w2.alloc (.cells #[.int .i64 f, .int .i64 r, .int .i64 tf, .int .i64 tr] 76)) w2.heap.size (gC f r tf tr) from Box.new rfl rfl)
            have HBN := Go.Lib.hid (HB2.out.alloc HB2.out.size (.cells #[.int .i64 f, .int .i64 r, .int .i64 tf, .int .i64 tr] 76))
            have HTN := Go.Lib.hid (HT2.out.below ((Below.refl w2.heap.size w2).alloc (Nat.le_refl _) (.cells #[.int .i64 f, .int .i64 r, .int .i64 tf, .int .i64 tr] 76)))
            clear hc0 hc1 hc2 hc3
            go_upto_region 3 with fail
            refine wp_gen (R := fun V => Box V (w.heap.size + 1) (shC x A c B d lm) ∧ Box V w2.heap.size (gC f r tf tr) ∧ Below w.heap.size w V ∧ TrL x A c B d V) ⟨HXN.out, HGN.out, HBN.out, HTN.out⟩ ?_
            rintro V ⟨hx, hg, hb, ht⟩
            have HX3 := Go.Lib.hid hx
            have HG3 := Go.Lib.hid hg
            have HB3 := Go.Lib.hid hb
            have HT3 := Go.Lib.hid ht
            clear hx hg hb ht HXN HGN HBN HTN HX2 HB2 HT2
            generalize w2.heap.size = gq at *
            have hc0 : V.cell? ⟨w.heap.size + 1, 0, none⟩ = some (.slice A x.f.length c) := HX3.out.at_ 0 _ rfl
            have hc1 : V.cell? ⟨w.heap.size + 1, 1, none⟩ = some (.slice B x.r.length d) := HX3.out.at_ 1 _ rfl
            have hc2 : V.cell? ⟨w.heap.size + 1, 2, none⟩ = some (.int .i64 x.n) := HX3.out.at_ 2 _ rfl
            have hc3 : V.cell? ⟨w.heap.size + 1, 3, none⟩ = some (.int .i64 lm) := HX3.out.at_ 3 _ rfl
            obtain ⟨g0, g1, g2, g3⟩ := cells4 HG3.out
            go_wp2_with fail
            refine (HM.out _).mono ?_
            rintro _ _ ⟨rfl, rfl⟩
            go_wp2_with fail
            refine (HS.out _ HT3.out).mono ?_
            rintro _ w4 ⟨rfl, b4⟩
            have HX4 := Go.Lib.hid (HX3.out.below b4)
            have HB4 := Go.Lib.hid (upB HB3.out b4)
            have HT4 := Go.Lib.hid (HT3.out.below b4)
            have HG4 := Go.Lib.hid (HG3.out.below b4)
            clear b4 hc0 hc1 hc2 hc3 g0 g1 g2 g3
            have HXN := Go.Lib.hid (HX4.out.alloc (.cells #[.int .i64 na, .int .i64 nb, .int .i64 nc, .int .i64 nd] 76))
            have HGN := Go.Lib.hid (HG4.out.alloc (.cells #[.int .i64 na, .int .i64 nb, .int .i64 nc, .int .i64 nd] 76))
            have HNN := Go.Lib.hid (show Box (w4.alloc (.cells #[.int .i64 na, .int .i64 nb, .int .i64 nc, .int .i64 nd] 76)) w4.heap.size (gC na nb nc nd) from Box.new rfl rfl)
            have HBN := Go.Lib.hid (HB4.out.alloc HB4.out.size (.cells #[.int .i64 na, .int .i64 nb, .int .i64 nc, .int .i64 nd] 76))
            have HTN := Go.Lib.hid (HT4.out.below ((Below.refl w4.heap.size w4).alloc (Nat.le_refl _) (.cells #[.int .i64 na, .int .i64 nb, .int .i64 nc, .int .i64 nd] 76)))
            go_upto_region 8 with fail
            refine wp_gen (R := fun V => Box V (w.heap.size + 1) (shC x A c B d lm) ∧ Box V gq (gC f r tf tr) ∧ Box V w4.heap.size (gC na nb nc nd) ∧ Below w.heap.size w V ∧ TrL x A c B d V) ⟨HXN.out, HGN.out, HNN.out, HBN.out, HTN.out⟩ ?_
            rintro V5 ⟨hx, hg, hn, hb, ht⟩
            have HX5 := Go.Lib.hid hx
            have HG5 := Go.Lib.hid hg
            have HN5 := Go.Lib.hid hn
            have HB5 := Go.Lib.hid hb
            have HT5 := Go.Lib.hid ht
            clear hx hg hn hb ht HXN HGN HNN HBN HTN HX4 HB4 HT4 HG4 HX3 HB3 HT3 HG3
            generalize w4.heap.size = nq at *
            have hc0 : V5.cell? ⟨w.heap.size + 1, 0, none⟩ = some (.slice A x.f.length c) := HX5.out.at_ 0 _ rfl
            have hc1 : V5.cell? ⟨w.heap.size + 1, 1, none⟩ = some (.slice B x.r.length d) := HX5.out.at_ 1 _ rfl
            have hc2 : V5.cell? ⟨w.heap.size + 1, 2, none⟩ = some (.int .i64 x.n) := HX5.out.at_ 2 _ rfl
            have hc3 : V5.cell? ⟨w.heap.size + 1, 3, none⟩ = some (.int .i64 lm) := HX5.out.at_ 3 _ rfl
            obtain ⟨g0, g1, g2, g3⟩ := cells4 HG5.out
            go_wp2_with fail
            refine (HC.out _ HT5.out).mono ?_
            rintro _ w6 ⟨rfl, b6⟩
            have HX6 := Go.Lib.hid (HX5.out.below b6)
            have HB6 := Go.Lib.hid (upB HB5.out b6)
            have HT6 := Go.Lib.hid (HT5.out.below b6)
            have HN6 := Go.Lib.hid (HN5.out.below b6)
            clear b6 hc0 hc1 hc2 hc3 g0 g1 g2 g3
            have hc0 : w6.cell? ⟨w.heap.size + 1, 0, none⟩ = some (.slice A x.f.length c) := HX6.out.at_ 0 _ rfl
            have hc1 : w6.cell? ⟨w.heap.size + 1, 1, none⟩ = some (.slice B x.r.length d) := HX6.out.at_ 1 _ rfl
            have hc2 : w6.cell? ⟨w.heap.size + 1, 2, none⟩ = some (.int .i64 x.n) := HX6.out.at_ 2 _ rfl
            have hc3 : w6.cell? ⟨w.heap.size + 1, 3, none⟩ = some (.int .i64 lm) := HX6.out.at_ 3 _ rfl
            obtain ⟨n0, n1, n2, n3⟩ := cells4 HN6.out
            go_wp2_with fail
            refine (HC2.out _ HT6.out).mono ?_
            rintro _ w7 ⟨rfl, b7⟩
            have HB7 := Go.Lib.hid (upB HB6.out b7)
            have HN7 := Go.Lib.hid (HN6.out.below b7)
            clear b7 hc0 hc1 hc2 hc3 n0 n1 n2 n3
            obtain ⟨n0, n1, n2, n3⟩ := cells4 HN7.out
            go_upto_region 10 with fail
            refine wp_region_held_drew (S := fun w' => w'.cell? ⟨nq, 0, none⟩ = some (.int .i64 na) ∧ w'.cell? ⟨nq, 1, none⟩ = some (.int .i64 nb)) (by kernel_rfl) (by exact ⟨n0, n1⟩) (fun hHeld => ?_)
            refine wpAnyH_take (i := 0) (v := ?vz1) rfl (by kernel_rfl) (by kernel_rfl) (by kernel_rfl) (fun _ _ _ h => h) (Or.inl ⟨by rfl, ?hyz1⟩) (by assumption) ?restz1
            case hyz1 => (intro w hSw; (try dsimp only at hSw); go_simp; try with_reducible rfl)
            try simp only [List.getElem_toArray, List.getElem_cons_succ, List.getElem_cons_zero, Act.put, List.setIfInBounds_toArray, List.set_cons_zero, List.set_cons_succ]
            refine wpAnyH_take (i := 1) (v := ?vz2) rfl (by kernel_rfl) (by kernel_rfl) (by kernel_rfl) (fun _ _ _ h => h) (Or.inl ⟨by rfl, ?hyz2⟩) (by assumption) ?restz2
            case hyz2 => (intro w hSw; (try dsimp only at hSw); go_simp; try with_reducible rfl)
            try simp only [List.getElem_toArray, List.getElem_cons_succ, List.getElem_cons_zero, Act.put, List.setIfInBounds_toArray, List.set_cons_zero, List.set_cons_succ]
            refine wpAnyH_take (i := 2) (v := ?vz3) rfl (by kernel_rfl) (by kernel_rfl) (by kernel_rfl) (fun _ _ _ h => h) (Or.inl ⟨by rfl, ?hyz3⟩) (by assumption) ?restz3
            case hyz3 => (intro w hSw; (try dsimp only at hSw); go_simp; try with_reducible rfl)
            try simp only [List.getElem_toArray, List.getElem_cons_succ, List.getElem_cons_zero, Act.put, List.setIfInBounds_toArray, List.set_cons_zero, List.set_cons_succ]
            refine wpAnyH_take (i := 3) (v := ?vz4) rfl (by kernel_rfl) (by kernel_rfl) (by kernel_rfl) (fun _ _ _ h => h) (Or.inl ⟨by rfl, ?hyz4⟩) (by assumption) ?restz4
            case hyz4 => (intro w hSw; (try dsimp only at hSw); go_simp; try with_reducible rfl)
            try simp only [List.getElem_toArray, List.getElem_cons_succ, List.getElem_cons_zero, Act.put, List.setIfInBounds_toArray, List.set_cons_zero, List.set_cons_succ]
            refine wpAnyH_take (i := 4) (v := ?vz5) rfl (by kernel_rfl) (by kernel_rfl) (by kernel_rfl) (fun _ _ _ h => h) (Or.inl ⟨by rfl, ?hyz5⟩) (by assumption) ?restz5
            case hyz5 => (intro w hSw; (try dsimp only at hSw); go_simp; try with_reducible rfl)
            try simp only [List.getElem_toArray, List.getElem_cons_succ, List.getElem_cons_zero, Act.put, List.setIfInBounds_toArray, List.set_cons_zero, List.set_cons_succ]
            refine wpAnyH_take (i := 5) (v := ?vz6) rfl (by kernel_rfl) (by kernel_rfl) (by kernel_rfl) (fun _ _ _ h => h) (Or.inl ⟨by rfl, ?hyz6⟩) (by assumption) ?restz6
            case hyz6 => (intro w hSw; (try dsimp only at hSw); go_simp; try with_reducible rfl)
            try simp only [List.getElem_toArray, List.getElem_cons_succ, List.getElem_cons_zero, Act.put, List.setIfInBounds_toArray, List.set_cons_zero, List.set_cons_succ]
            refine wpAnyH_take (i := 6) (v := ?vz7) rfl (by kernel_rfl) (by kernel_rfl) (by kernel_rfl) (fun _ _ _ h => h) (Or.inl ⟨by rfl, ?hyz7⟩) (by assumption) ?restz7
            case hyz7 => (intro w hSw; (try dsimp only at hSw); go_simp; try with_reducible rfl)
            try simp only [List.getElem_toArray, List.getElem_cons_succ, List.getElem_cons_zero, Act.put, List.setIfInBounds_toArray, List.set_cons_zero, List.set_cons_succ]
            refine wpAnyH_done (by kernel_rfl) ?_ _
            have HBE := Go.Lib.hid (show Below w.heap.size w w7.drew from below_drewN HB7.out 1)
            clear n0 n1 n2 n3 hHeld
            go_wp2_with fail
            refine bodyPost_ret (results_tmp3 rfl _ _ _) rfl ?_
            exact ⟨by rw [HV.out]; rfl, HBE.out⟩
end Go.Proofs.Ythedanpldebjcaa
