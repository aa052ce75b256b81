/- The program of chapter 11: reached gears, shortest ways. -/
import Derived.Test.YthedanpldebjcaaShP5
namespace Go.Proofs.Ythedanpldebjcaa
open Go.RowKit
set_option linter.unusedSimpArgs false
set_option linter.unusedVariables false

theorem start11_code {x : Trn} {lm f r : Int} (h : code11 x lm f r = 0) : start11 x lm f r = if crossB x lm (f, r) then 5 else 0 := by
  unfold start11
  rw [if_pos h]
theorem shAtV_gear {x : Trn} {lm : Int} {g : Gr} (h : code11 x lm g.1 g.2 = 0) : shAtV x lm g.1 g.2 = gearV x g := by
  rw [shAtV_ok h, Int.toNat_natCast, Int.toNat_natCast]
  rfl
set_option maxRecDepth 100000 in
set_option maxHeartbeats 16000000 in
theorem implReach (x : Trn) (A : Option Addr) (c : Nat) (B : Option Addr) (d : Nat) (lm f r : Int) (w : World) (T : TrL x A c B d w) :
    Calls Try.prog 24 #[trainV x A c B d, .int .i64 lm, .int .i64 f, .int .i64 r] w (Gives2 (reachR x lm f r) w) := by
  have HT := Go.Lib.hid T
  have HX := Go.Lib.hid (show Box ((boxT x A c B d w).alloc (.cells #[.slice A x.f.length c, .slice B x.r.length d, .int .i64 x.n, .int .i64 lm] 74)) (w.heap.size + 1) (shC x A c B d lm) from Box.new (by simp [boxT]) rfl)
  have HXB := Go.Lib.hid ((boxT_below x A c B d w).alloc (boxT_below x A c B d w).size (.cells #[.slice A x.f.length c, .slice B x.r.length d, .int .i64 x.n, .int .i64 lm] 74))
  clear T
  have HGA := Go.Lib.hid (fun w0 T0 => implShAt x A c B d lm f r w0 T0)
  by_cases h0 : code11 x lm f r = 0
  case neg =>
    have HV := Go.Lib.hid (show reachR x lm f r = (0, code11 x lm f r) by
      have e : start11 x lm f r = code11 x lm f r := by unfold start11; rw [if_neg h0]
      unfold reachR
      rw [e, if_neg h0])
    obtain ⟨ga, gb, gc, gd, hv⟩ := shAtV_form x lm f r
    rw [hv, codeG_is] at HGA
    clear hv
    unfold gV at HGA
    unfold shV at HGA
    generalize code11 x lm f r = z at *
    have hzb : (z != 0) = true := by simpa using h0
    clear h0
    unfold trainV
    go_enter Try.func24, Try.ntmps24
    go_upto_region 2 with fail
    refine wp_gen (R := fun W => Box W (w.heap.size + 1) (shC x A c B d lm) ∧ Below w.heap.size w W) ⟨HX.out, HXB.out⟩ ?_
    rintro W ⟨hx, hb⟩
    have HX1 := Go.Lib.hid hx
    have HB1 := Go.Lib.hid hb
    have HT1 := Go.Lib.hid (HT.out.below hb)
    clear hx hb HX HXB
    have hc0 : W.cell? ⟨w.heap.size + 1, 0, none⟩ = some (.slice A x.f.length c) := HX1.out.at_ 0 _ rfl
    have hc1 : W.cell? ⟨w.heap.size + 1, 1, none⟩ = some (.slice B x.r.length d) := HX1.out.at_ 1 _ rfl
    have hc2 : W.cell? ⟨w.heap.size + 1, 2, none⟩ = some (.int .i64 x.n) := HX1.out.at_ 2 _ rfl
    have hc3 : W.cell? ⟨w.heap.size + 1, 3, none⟩ = some (.int .i64 lm) := HX1.out.at_ 3 _ rfl
    go_wp2_with fail
    refine (HGA.out _ HT1.out).mono ?_
    rintro _ w2 ⟨rfl, b2⟩
    have HB2 := Go.Lib.hid ((upB HB1.out b2).alloc (upB HB1.out b2).size (.cells #[.int .i64 ga, .int .i64 gb, .int .i64 gc, .int .i64 gd] 76))
    clear b2 hc0 hc1 hc2 hc3
    go_wp2_with fail
    go_ret2
    exact Gives2.of HV.out HB2.out
  case pos =>
    obtain ⟨ht, hgb, hl⟩ := code11_ok h0
    have hTR := trainB_ok ht
    have HTR := Go.Lib.hid hTR
    have HTB := Go.Lib.hid ht
    have hf1 := hTR.f.one
    have hl4 := inB_iff.1 hl
    obtain ⟨g, rfl, rfl, hg⟩ := gearB_gr hgb
    have HGK := Go.Lib.hid hg
    rw [shAtV_gear h0, codeG_is, h0] at HGA
    unfold gearV gV at HGA
    unfold shV at HGA
    have HC := Go.Lib.hid (fun w0 T0 => implCrossedG x A c B d lm g.1 g.2 (fI x g.1) (rI x g.2) w0 T0 hl4 hf1)
    unfold gV at HC
    unfold shV at HC
    have HWY := Go.Lib.hid (fun (hc : crossB x lm (plG g) = false) w0 T0 => implWays x A c B d lm g w0 T0 hTR ht hl4 hg hc)
    unfold gearV gV at HWY
    unfold shV at HWY
    have HST := Go.Lib.hid (start11_code h0)
    have HRR := Go.Lib.hid (show reachR x lm g.1 g.2 = if start11 x lm g.1 g.2 = 0 then ((((bfEnd x lm (plG g)).seen.length : Nat) : Int), 0) else (0, start11 x lm g.1 g.2) from rfl)
    clear h0 ht hgb hl hTR hf1 hl4 hg
    cases hcb : crossB x lm (((g.1 : Nat) : Int), ((g.2 : Nat) : Int))
    case true =>
      have HV := Go.Lib.hid (show reachR x lm g.1 g.2 = (0, 5) by rw [HRR.out, HST.out, hcb]; rfl)
      rw [hcb] at HC
      clear HWY hcb
      generalize fI x g.1 = tf at *
      generalize rI x g.2 = tr at *
      unfold trainV
      go_enter Try.func24, Try.ntmps24
      go_upto_region 2 with fail
      refine wp_gen (R := fun W => Box W (w.heap.size + 1) (shC x A c B d lm) ∧ Below w.heap.size w W) ⟨HX.out, HXB.out⟩ ?_
      rintro W ⟨hx, hb⟩
      have HX1 := Go.Lib.hid hx
      have HB1 := Go.Lib.hid hb
      have HT1 := Go.Lib.hid (HT.out.below hb)
      clear hx hb HX HXB
      have hc0 : W.cell? ⟨w.heap.size + 1, 0, none⟩ = some (.slice A x.f.length c) := HX1.out.at_ 0 _ rfl
      have hc1 : W.cell? ⟨w.heap.size + 1, 1, none⟩ = some (.slice B x.r.length d) := HX1.out.at_ 1 _ rfl
      have hc2 : W.cell? ⟨w.heap.size + 1, 2, none⟩ = some (.int .i64 x.n) := HX1.out.at_ 2 _ rfl
      have hc3 : W.cell? ⟨w.heap.size + 1, 3, none⟩ = some (.int .i64 lm) := HX1.out.at_ 3 _ rfl
      go_wp2_with fail
      refine (HGA.out _ HT1.out).mono ?_
      rintro _ w2 ⟨rfl, b2⟩
      have HX2 := Go.Lib.hid (HX1.out.below b2)
      have HB2 := Go.Lib.hid (upB HB1.out b2)
      have HT2 := Go.Lib.hid (HT1.out.below b2)
      clear b2 hc0 hc1 hc2 hc3
      have hc0 : w2.cell? ⟨w.heap.size + 1, 0, none⟩ = some (.slice A x.f.length c) := HX2.out.at_ 0 _ rfl
      have hc1 : w2.cell? ⟨w.heap.size + 1, 1, none⟩ = some (.slice B x.r.length d) := HX2.out.at_ 1 _ rfl
      have hc2 : w2.cell? ⟨w.heap.size + 1, 2, none⟩ = some (.int .i64 x.n) := HX2.out.at_ 2 _ rfl
      have hc3 : w2.cell? ⟨w.heap.size + 1, 3, none⟩ = some (.int .i64 lm) := HX2.out.at_ 3 _ rfl
      have HXN := Go.Lib.hid (HX2.out.alloc (.cells #[.int .i64 g.1, .int .i64 g.2, .int .i64 tf, .int .i64 tr] 76))
      have HGN := Go.Lib.hid (show Box (w2.alloc (.cells #[.int .i64 g.1, .int .i64 g.2, .int .i64 tf, .int .i64 tr] 76)) w2.heap.size (gC g.1 g.2 tf tr) from Box.new rfl rfl)
      have HBN := Go.Lib.hid (HB2.out.alloc HB2.out.size (.cells #[.int .i64 g.1, .int .i64 g.2, .int .i64 tf, .int .i64 tr] 76))
      have HTN := Go.Lib.hid (HT2.out.below ((Below.refl w2.heap.size w2).alloc (Nat.le_refl _) (.cells #[.int .i64 g.1, .int .i64 g.2, .int .i64 tf, .int .i64 tr] 76)))
      clear hc0 hc1 hc2 hc3
      go_upto_region 3 with fail
      refine wp_gen (R := fun V => Box V (w.heap.size + 1) (shC x A c B d lm) ∧ Box V w2.heap.size (gC g.1 g.2 tf tr) ∧ Below w.heap.size w V ∧ TrL x A c B d V) ⟨HXN.out, HGN.out, HBN.out, HTN.out⟩ ?_
      rintro V ⟨hx, hg, hb, ht⟩
      have HX3 := Go.Lib.hid hx
      have HG3 := Go.Lib.hid hg
      have HB3 := Go.Lib.hid hb
      have HT3 := Go.Lib.hid ht
      clear hx hg hb ht HXN HGN HBN HTN HX2 HB2 HT2
      generalize w2.heap.size = gq at *
      have hc0 : V.cell? ⟨w.heap.size + 1, 0, none⟩ = some (.slice A x.f.length c) := HX3.out.at_ 0 _ rfl
      have hc1 : V.cell? ⟨w.heap.size + 1, 1, none⟩ = some (.slice B x.r.length d) := HX3.out.at_ 1 _ rfl
      have hc2 : V.cell? ⟨w.heap.size + 1, 2, none⟩ = some (.int .i64 x.n) := HX3.out.at_ 2 _ rfl
      have hc3 : V.cell? ⟨w.heap.size + 1, 3, none⟩ = some (.int .i64 lm) := HX3.out.at_ 3 _ rfl
      obtain ⟨g0, g1, g2, g3⟩ := cells4 HG3.out
      go_wp2_with fail
      refine (HC.out _ HT3.out).mono ?_
      rintro _ w4 ⟨rfl, b4⟩
      have HB4 := Go.Lib.hid (upB HB3.out b4)
      clear b4 hc0 hc1 hc2 hc3 g0 g1 g2 g3
      go_wp2_with fail
      go_ret2
      exact Gives2.of HV.out HB4.out
    case false =>
      have HV := Go.Lib.hid (show reachR x lm g.1 g.2 = ((((bfEnd x lm (plG g)).seen.length : Nat) : Int), 0) by rw [HRR.out, HST.out, hcb]; rfl)
      rw [hcb] at HC
      have HW2 := Go.Lib.hid (HWY.out hcb)
      clear HWY hcb
      generalize fI x g.1 = tf at *
      generalize rI x g.2 = tr at *
      unfold trainV
      go_enter Try.func24, Try.ntmps24
      go_upto_region 2 with fail
      refine wp_gen (R := fun W => Box W (w.heap.size + 1) (shC x A c B d lm) ∧ Below w.heap.size w W) ⟨HX.out, HXB.out⟩ ?_
      rintro W ⟨hx, hb⟩
      have HX1 := Go.Lib.hid hx
      have HB1 := Go.Lib.hid hb
      have HT1 := Go.Lib.hid (HT.out.below hb)
      clear hx hb HX HXB
      have hc0 : W.cell? ⟨w.heap.size + 1, 0, none⟩ = some (.slice A x.f.length c) := HX1.out.at_ 0 _ rfl
      have hc1 : W.cell? ⟨w.heap.size + 1, 1, none⟩ = some (.slice B x.r.length d) := HX1.out.at_ 1 _ rfl
      have hc2 : W.cell? ⟨w.heap.size + 1, 2, none⟩ = some (.int .i64 x.n) := HX1.out.at_ 2 _ rfl
      have hc3 : W.cell? ⟨w.heap.size + 1, 3, none⟩ = some (.int .i64 lm) := HX1.out.at_ 3 _ rfl
      go_wp2_with fail
      refine (HGA.out _ HT1.out).mono ?_
      rintro _ w2 ⟨rfl, b2⟩
      have HX2 := Go.Lib.hid (HX1.out.below b2)
      have HB2 := Go.Lib.hid (upB HB1.out b2)
      have HT2 := Go.Lib.hid (HT1.out.below b2)
      clear b2 hc0 hc1 hc2 hc3
      have hc0 : w2.cell? ⟨w.heap.size + 1, 0, none⟩ = some (.slice A x.f.length c) := HX2.out.at_ 0 _ rfl
      have hc1 : w2.cell? ⟨w.heap.size + 1, 1, none⟩ = some (.slice B x.r.length d) := HX2.out.at_ 1 _ rfl
      have hc2 : w2.cell? ⟨w.heap.size + 1, 2, none⟩ = some (.int .i64 x.n) := HX2.out.at_ 2 _ rfl
      have hc3 : w2.cell? ⟨w.heap.size + 1, 3, none⟩ = some (.int .i64 lm) := HX2.out.at_ 3 _ rfl
      have HXN := Go.Lib.hid (HX2.out.alloc (.cells #[.int .i64 g.1, .int .i64 g.2, .int .i64 tf, .int .i64 tr] 76))
      have HGN := Go.Lib.hid (show Box (w2.alloc (.cells #[.int .i64 g.1, .int .i64 g.2, .int .i64 tf, .int .i64 tr] 76)) w2.heap.size (gC g.1 g.2 tf tr) from Box.new rfl rfl)
      have HBN := Go.Lib.hid (HB2.out.alloc HB2.out.size (.cells #[.int .i64 g.1, .int .i64 g.2, .int .i64 tf, .int .i64 tr] 76))
      have HTN := Go.Lib.hid (HT2.out.below ((Below.refl w2.heap.size w2).alloc (Nat.le_refl _) (.cells #[.int .i64 g.1, .int .i64 g.2, .int .i64 tf, .int .i64 tr] 76)))
      clear hc0 hc1 hc2 hc3
      go_upto_region 3 with fail
      refine wp_gen (R := fun V => Box V (w.heap.size + 1) (shC x A c B d lm) ∧ Box V w2.heap.size (gC g.1 g.2 tf tr) ∧ Below w.heap.size w V ∧ TrL x A c B d V) ⟨HXN.out, HGN.out, HBN.out, HTN.out⟩ ?_
      rintro V ⟨hx, hg, hb, ht⟩
      have HX3 := Go.Lib.hid hx
      have HG3 := Go.Lib.hid hg
      have HB3 := Go.Lib.hid hb
      have HT3 := Go.Lib.hid ht
      clear hx hg hb ht HXN HGN HBN HTN HX2 HB2 HT2
      generalize w2.heap.size = gq at *
      have hc0 : V.cell? ⟨w.heap.size + 1, 0, none⟩ = some (.slice A x.f.length c) := HX3.out.at_ 0 _ rfl
      have hc1 : V.cell? ⟨w.heap.size + 1, 1, none⟩ = some (.slice B x.r.length d) := HX3.out.at_ 1 _ rfl
      have hc2 : V.cell? ⟨w.heap.size + 1, 2, none⟩ = some (.int .i64 x.n) := HX3.out.at_ 2 _ rfl
      have hc3 : V.cell? ⟨w.heap.size + 1, 3, none⟩ = some (.int .i64 lm) := HX3.out.at_ 3 _ rfl
      obtain ⟨g0, g1, g2, g3⟩ := cells4 HG3.out
      go_wp2_with fail
      refine (HC.out _ HT3.out).mono ?_
      rintro _ w4 ⟨rfl, b4⟩
      have HX4 := Go.Lib.hid (HX3.out.below b4)
      have HG4 := Go.Lib.hid (HG3.out.below b4)
      have HT4 := Go.Lib.hid (HT3.out.below b4)
      have HB4 := Go.Lib.hid (upB HB3.out b4)
      clear b4 hc0 hc1 hc2 hc3 g0 g1 g2 g3
      have hc0 : w4.cell? ⟨w.heap.size + 1, 0, none⟩ = some (.slice A x.f.length c) := HX4.out.at_ 0 _ rfl
      have hc1 : w4.cell? ⟨w.heap.size + 1, 1, none⟩ = some (.slice B x.r.length d) := HX4.out.at_ 1 _ rfl
      have hc2 : w4.cell? ⟨w.heap.size + 1, 2, none⟩ = some (.int .i64 x.n) := HX4.out.at_ 2 _ rfl
      have hc3 : w4.cell? ⟨w.heap.size + 1, 3, none⟩ = some (.int .i64 lm) := HX4.out.at_ 3 _ rfl
      obtain ⟨g0, g1, g2, g3⟩ := cells4 HG4.out
      go_wp2_with fail
      refine (HW2.out _ HT4.out).mono ?_
      rintro _ w5 ⟨mb, n, key, L, D, rfl, -, hS, hL, hB⟩
      have HB5 := Go.Lib.hid (upB HB4.out hB)
      have hown := hS.own
      have HSZ := Go.Lib.hid (show Maps.size D = (bfEnd x lm (plG g)).seen.length by rw [hS.size, ← hL, List.length_map]; rfl)
      clear hS hL hB hc0 hc1 hc2 hc3 g0 g1 g2 g3
      go_wp2_with (at_len; refine wpList_len_own _ rfl _ 81 rfl 76 24 Try.underlying81 heldE mb n D rfl hown ?_)
      go_wp2_with fail
      go_ret2
      exact Gives2.of (by rw [HV.out, HSZ.out]) HB5.out
set_option maxRecDepth 100000 in
set_option maxHeartbeats 16000000 in
theorem implShort (x : Trn) (A : Option Addr) (c : Nat) (B : Option Addr) (d : Nat) (lm f r tf2 tr2 : Int) (w : World) (T : TrL x A c B d w) :
    Calls Try.prog 16 #[trainV x A c B d, .int .i64 lm, .int .i64 f, .int .i64 r, .int .i64 tf2, .int .i64 tr2] w (GivesLN (shortR x lm f r tf2 tr2) w) := by
  have HT := Go.Lib.hid T
  have HX := Go.Lib.hid (show Box ((boxT x A c B d w).alloc (.cells #[.slice A x.f.length c, .slice B x.r.length d, .int .i64 x.n, .int .i64 lm] 74)) (w.heap.size + 1) (shC x A c B d lm) from Box.new (by simp [boxT]) rfl)
  have HXB := Go.Lib.hid ((boxT_below x A c B d w).alloc (boxT_below x A c B d w).size (.cells #[.slice A x.f.length c, .slice B x.r.length d, .int .i64 x.n, .int .i64 lm] 74))
  clear T
  have HGA := Go.Lib.hid (fun w0 T0 => implShAt x A c B d lm f r w0 T0)
  have HGT := Go.Lib.hid (fun w0 T0 => implShAt x A c B d lm tf2 tr2 w0 T0)
  by_cases h0 : code11 x lm f r = 0
  case neg =>
    have HV := Go.Lib.hid (show shortR x lm f r tf2 tr2 = ([], code11 x lm f r) by unfold shortR; rw [if_neg h0])
    clear HGT
    obtain ⟨ga, gb, gc, gd, hv⟩ := shAtV_form x lm f r
    rw [hv, codeG_is] at HGA
    clear hv
    unfold gV at HGA
    unfold shV at HGA
    generalize code11 x lm f r = z at *
    have hzb : (z != 0) = true := by simpa using h0
    clear h0
    unfold trainV
    go_enter Try.func16, Try.ntmps16
    go_upto_region 2 with fail
    refine wp_gen (R := fun W => Box W (w.heap.size + 1) (shC x A c B d lm) ∧ Below w.heap.size w W) ⟨HX.out, HXB.out⟩ ?_
    rintro W ⟨hx, hb⟩
    have HX1 := Go.Lib.hid hx
    have HB1 := Go.Lib.hid hb
    have HT1 := Go.Lib.hid (HT.out.below hb)
    clear hx hb HX HXB
    have hc0 : W.cell? ⟨w.heap.size + 1, 0, none⟩ = some (.slice A x.f.length c) := HX1.out.at_ 0 _ rfl
    have hc1 : W.cell? ⟨w.heap.size + 1, 1, none⟩ = some (.slice B x.r.length d) := HX1.out.at_ 1 _ rfl
    have hc2 : W.cell? ⟨w.heap.size + 1, 2, none⟩ = some (.int .i64 x.n) := HX1.out.at_ 2 _ rfl
    have hc3 : W.cell? ⟨w.heap.size + 1, 3, none⟩ = some (.int .i64 lm) := HX1.out.at_ 3 _ rfl
    go_wp2_with fail
    refine (HGA.out _ HT1.out).mono ?_
    rintro _ w2 ⟨rfl, b2⟩
    have HB2 := Go.Lib.hid ((upB HB1.out b2).alloc (upB HB1.out b2).size (.cells #[.int .i64 ga, .int .i64 gb, .int .i64 gc, .int .i64 gd] 76))
    clear b2 hc0 hc1 hc2 hc3
    go_wp2_with fail
    go_ret2
    exact GivesLN.nil HV.out HB2.out
  case pos =>
    obtain ⟨ht, hgb, hl⟩ := code11_ok h0
    have hTR := trainB_ok ht
    have HTR := Go.Lib.hid hTR
    have HTB := Go.Lib.hid ht
    have hf1 := hTR.f.one
    have hl4 := inB_iff.1 hl
    obtain ⟨g, rfl, rfl, hg⟩ := gearB_gr hgb
    have HGK := Go.Lib.hid hg
    rw [shAtV_gear h0, codeG_is, h0] at HGA
    unfold gearV gV at HGA
    unfold shV at HGA
    have HCF := Go.Lib.hid (fun w0 T0 => implCrossedG x A c B d lm g.1 g.2 (fI x g.1) (rI x g.2) w0 T0 hl4 hf1)
    unfold gV at HCF
    unfold shV at HCF
    have HWY := Go.Lib.hid (fun (hc : crossB x lm (plG g) = false) w0 T0 => implWays x A c B d lm g w0 T0 hTR ht hl4 hg hc)
    unfold gearV gV at HWY
    unfold shV at HWY
    by_cases h2 : code11 x lm tf2 tr2 = 0
    case neg =>
      have HV := Go.Lib.hid (show shortR x lm g.1 g.2 tf2 tr2 = ([], code11 x lm tf2 tr2) by unfold shortR; rw [if_pos h0, if_neg h2])
      obtain ⟨ga, gb, gc, gd, hv⟩ := shAtV_form x lm tf2 tr2
      rw [hv, codeG_is] at HGT
      unfold gV at HGT
      unfold shV at HGT
      clear hv HWY HCF h0 ht hgb hl hTR hf1 hl4 hg
      generalize code11 x lm tf2 tr2 = z at *
      have hzb : (z != 0) = true := by simpa using h2
      clear h2
      generalize fI x g.1 = tf at *
      generalize rI x g.2 = tr at *
      unfold trainV
      go_enter Try.func16, Try.ntmps16
      go_upto_region 2 with fail
      refine wp_gen (R := fun W => Box W (w.heap.size + 1) (shC x A c B d lm) ∧ Below w.heap.size w W) ⟨HX.out, HXB.out⟩ ?_
      rintro W ⟨hx, hb⟩
      have HX1 := Go.Lib.hid hx
      have HB1 := Go.Lib.hid hb
      have HT1 := Go.Lib.hid (HT.out.below hb)
      clear hx hb HX HXB
      have hc0 : W.cell? ⟨w.heap.size + 1, 0, none⟩ = some (.slice A x.f.length c) := HX1.out.at_ 0 _ rfl
      have hc1 : W.cell? ⟨w.heap.size + 1, 1, none⟩ = some (.slice B x.r.length d) := HX1.out.at_ 1 _ rfl
      have hc2 : W.cell? ⟨w.heap.size + 1, 2, none⟩ = some (.int .i64 x.n) := HX1.out.at_ 2 _ rfl
      have hc3 : W.cell? ⟨w.heap.size + 1, 3, none⟩ = some (.int .i64 lm) := HX1.out.at_ 3 _ rfl
      go_wp2_with fail
      refine (HGA.out _ HT1.out).mono ?_
      rintro _ w2 ⟨rfl, b2⟩
      have HX2 := Go.Lib.hid (HX1.out.below b2)
      have HB2 := Go.Lib.hid (upB HB1.out b2)
      have HT2 := Go.Lib.hid (HT1.out.below b2)
      clear b2 hc0 hc1 hc2 hc3
      have hc0 : w2.cell? ⟨w.heap.size + 1, 0, none⟩ = some (.slice A x.f.length c) := HX2.out.at_ 0 _ rfl
      have hc1 : w2.cell? ⟨w.heap.size + 1, 1, none⟩ = some (.slice B x.r.length d) := HX2.out.at_ 1 _ rfl
      have hc2 : w2.cell? ⟨w.heap.size + 1, 2, none⟩ = some (.int .i64 x.n) := HX2.out.at_ 2 _ rfl
      have hc3 : w2.cell? ⟨w.heap.size + 1, 3, none⟩ = some (.int .i64 lm) := HX2.out.at_ 3 _ rfl
      have HXN := Go.Lib.hid (HX2.out.alloc (.cells #[.int .i64 g.1, .int .i64 g.2, .int .i64 tf, .int .i64 tr] 76))
      have HGN := Go.Lib.hid (show Box (w2.alloc (.cells #[.int .i64 g.1, .int .i64 g.2, .int .i64 tf, .int .i64 tr] 76)) w2.heap.size (gC g.1 g.2 tf tr) from Box.new rfl rfl)
      have HBN := Go.Lib.hid (HB2.out.alloc HB2.out.size (.cells #[.int .i64 g.1, .int .i64 g.2, .int .i64 tf, .int .i64 tr] 76))
      have HTN := Go.Lib.hid (HT2.out.below ((Below.refl w2.heap.size w2).alloc (Nat.le_refl _) (.cells #[.int .i64 g.1, .int .i64 g.2, .int .i64 tf, .int .i64 tr] 76)))
      clear hc0 hc1 hc2 hc3
      go_upto_region 3 with fail
      refine wp_gen (R := fun V => Box V (w.heap.size + 1) (shC x A c B d lm) ∧ Box V w2.heap.size (gC g.1 g.2 tf tr) ∧ Below w.heap.size w V ∧ TrL x A c B d V) ⟨HXN.out, HGN.out, HBN.out, HTN.out⟩ ?_
      rintro V ⟨hx, hg, hb, ht⟩
      have HX3 := Go.Lib.hid hx
      have HG3 := Go.Lib.hid hg
      have HB3 := Go.Lib.hid hb
      have HT3 := Go.Lib.hid ht
      clear hx hg hb ht HXN HGN HBN HTN HX2 HB2 HT2
      generalize w2.heap.size = gq at *
      have hc0 : V.cell? ⟨w.heap.size + 1, 0, none⟩ = some (.slice A x.f.length c) := HX3.out.at_ 0 _ rfl
      have hc1 : V.cell? ⟨w.heap.size + 1, 1, none⟩ = some (.slice B x.r.length d) := HX3.out.at_ 1 _ rfl
      have hc2 : V.cell? ⟨w.heap.size + 1, 2, none⟩ = some (.int .i64 x.n) := HX3.out.at_ 2 _ rfl
      have hc3 : V.cell? ⟨w.heap.size + 1, 3, none⟩ = some (.int .i64 lm) := HX3.out.at_ 3 _ rfl
      obtain ⟨g0, g1, g2, g3⟩ := cells4 HG3.out
      go_wp2_with fail
      refine (HGT.out _ HT3.out).mono ?_
      rintro _ w4 ⟨rfl, b4⟩
      have HX4 := Go.Lib.hid (HX3.out.below b4)
      have HG4 := Go.Lib.hid (HG3.out.below b4)
      have HT4 := Go.Lib.hid (HT3.out.below b4)
      have HB4 := Go.Lib.hid (upB HB3.out b4)
      clear b4 hc0 hc1 hc2 hc3 g0 g1 g2 g3
      have HBE := Go.Lib.hid (HB4.out.alloc HB4.out.size (.cells #[.int .i64 ga, .int .i64 gb, .int .i64 gc, .int .i64 gd] 76))
      go_wp2_with fail
      go_ret2
      exact GivesLN.nil HV.out HBE.out
    case pos =>
      obtain ⟨-, hhb, -⟩ := code11_ok h2
      obtain ⟨h, rfl, rfl, hh⟩ := gearB_gr hhb
      have HHK := Go.Lib.hid hh
      rw [shAtV_gear h2, codeG_is, h2] at HGT
      unfold gearV gV at HGT
      unfold shV at HGT
      have HCT := Go.Lib.hid (fun w0 T0 => implCrossedG x A c B d lm h.1 h.2 (fI x h.1) (rI x h.2) w0 T0 hl4 hf1)
      unfold gV at HCT
      unfold shV at HCT
      have HV0 := Go.Lib.hid (show shortR x lm g.1 g.2 h.1 h.2 = if crossB x lm (plG g) || crossB x lm (plG h) then ([], 5) else wayOf (bfEnd x lm (plG g)) (plG h) by unfold shortR; rw [if_pos h0, if_pos h2]; rfl)
      have HBE := Go.Lib.hid (fun (hc : crossB x lm (plG g) = false) => bfEnd_ok hTR (okG_of (gearB_of hg) hc))
      clear h0 h2 ht hgb hhb hl hTR hf1 hl4 hg hh
      obtain ⟨hf, hhf⟩ : ∃ z, fI x h.1 = z := ⟨_, rfl⟩
      obtain ⟨hr, hhr⟩ : ∃ z, rI x h.2 = z := ⟨_, rfl⟩
      have HHF := Go.Lib.hid hhf
      have HHR := Go.Lib.hid hhr
      rw [hhf, hhr] at HGT HCT
      clear hhf hhr
      rw [show (((g.1 : Nat) : Int), ((g.2 : Nat) : Int)) = plG g from rfl] at HCF
      rw [show (((h.1 : Nat) : Int), ((h.2 : Nat) : Int)) = plG h from rfl] at HCT
      obtain ⟨tf, htf⟩ : ∃ z, fI x g.1 = z := ⟨_, rfl⟩
      obtain ⟨tr, htr⟩ : ∃ z, rI x g.2 = z := ⟨_, rfl⟩
      rw [htf, htr] at HGA HCF HWY
      clear htf htr
      cases hcg : crossB x lm (plG g)
      case true =>
        have HV := Go.Lib.hid (show shortR x lm g.1 g.2 h.1 h.2 = ([], 5) by rw [HV0.out, hcg]; rfl)
        rw [hcg] at HCF
        clear HWY HV0 hcg HBE
        unfold trainV
        go_enter Try.func16, Try.ntmps16
        go_upto_region 2 with fail
        refine wp_gen (R := fun W => Box W (w.heap.size + 1) (shC x A c B d lm) ∧ Below w.heap.size w W) ⟨HX.out, HXB.out⟩ ?_
        rintro W ⟨hx, hb⟩
        have HX1 := Go.Lib.hid hx
        have HB1 := Go.Lib.hid hb
        have HT1 := Go.Lib.hid (HT.out.below hb)
        clear hx hb HX HXB
        have hc0 : W.cell? ⟨w.heap.size + 1, 0, none⟩ = some (.slice A x.f.length c) := HX1.out.at_ 0 _ rfl
        have hc1 : W.cell? ⟨w.heap.size + 1, 1, none⟩ = some (.slice B x.r.length d) := HX1.out.at_ 1 _ rfl
        have hc2 : W.cell? ⟨w.heap.size + 1, 2, none⟩ = some (.int .i64 x.n) := HX1.out.at_ 2 _ rfl
        have hc3 : W.cell? ⟨w.heap.size + 1, 3, none⟩ = some (.int .i64 lm) := HX1.out.at_ 3 _ rfl
        go_wp2_with fail
        refine (HGA.out _ HT1.out).mono ?_
        rintro _ w2 ⟨rfl, b2⟩
        have HX2 := Go.Lib.hid (HX1.out.below b2)
        have HB2 := Go.Lib.hid (upB HB1.out b2)
        have HT2 := Go.Lib.hid (HT1.out.below b2)
        clear b2 hc0 hc1 hc2 hc3
        have hc0 : w2.cell? ⟨w.heap.size + 1, 0, none⟩ = some (.slice A x.f.length c) := HX2.out.at_ 0 _ rfl
        have hc1 : w2.cell? ⟨w.heap.size + 1, 1, none⟩ = some (.slice B x.r.length d) := HX2.out.at_ 1 _ rfl
        have hc2 : w2.cell? ⟨w.heap.size + 1, 2, none⟩ = some (.int .i64 x.n) := HX2.out.at_ 2 _ rfl
        have hc3 : w2.cell? ⟨w.heap.size + 1, 3, none⟩ = some (.int .i64 lm) := HX2.out.at_ 3 _ rfl
        have HXN := Go.Lib.hid (HX2.out.alloc (.cells #[.int .i64 g.1, .int .i64 g.2, .int .i64 tf, .int .i64 tr] 76))
        have HGN := Go.Lib.hid (show Box (w2.alloc (.cells #[.int .i64 g.1, .int .i64 g.2, .int .i64 tf, .int .i64 tr] 76)) w2.heap.size (gC g.1 g.2 tf tr) from Box.new rfl rfl)
        have HBN := Go.Lib.hid (HB2.out.alloc HB2.out.size (.cells #[.int .i64 g.1, .int .i64 g.2, .int .i64 tf, .int .i64 tr] 76))
        have HTN := Go.Lib.hid (HT2.out.below ((Below.refl w2.heap.size w2).alloc (Nat.le_refl _) (.cells #[.int .i64 g.1, .int .i64 g.2, .int .i64 tf, .int .i64 tr] 76)))
        clear hc0 hc1 hc2 hc3
        go_upto_region 3 with fail
        refine wp_gen (R := fun V => Box V (w.heap.size + 1) (shC x A c B d lm) ∧ Box V w2.heap.size (gC g.1 g.2 tf tr) ∧ Below w.heap.size w V ∧ TrL x A c B d V) ⟨HXN.out, HGN.out, HBN.out, HTN.out⟩ ?_
        rintro V ⟨hx, hg, hb, ht⟩
        have HX3 := Go.Lib.hid hx
        have HG3 := Go.Lib.hid hg
        have HB3 := Go.Lib.hid hb
        have HT3 := Go.Lib.hid ht
        clear hx hg hb ht HXN HGN HBN HTN HX2 HB2 HT2
        generalize w2.heap.size = gq at *
        have hc0 : V.cell? ⟨w.heap.size + 1, 0, none⟩ = some (.slice A x.f.length c) := HX3.out.at_ 0 _ rfl
        have hc1 : V.cell? ⟨w.heap.size + 1, 1, none⟩ = some (.slice B x.r.length d) := HX3.out.at_ 1 _ rfl
        have hc2 : V.cell? ⟨w.heap.size + 1, 2, none⟩ = some (.int .i64 x.n) := HX3.out.at_ 2 _ rfl
        have hc3 : V.cell? ⟨w.heap.size + 1, 3, none⟩ = some (.int .i64 lm) := HX3.out.at_ 3 _ rfl
        obtain ⟨g0, g1, g2, g3⟩ := cells4 HG3.out
        go_wp2_with fail
        refine (HGT.out _ HT3.out).mono ?_
        rintro _ w4 ⟨rfl, b4⟩
        have HX4 := Go.Lib.hid (HX3.out.below b4)
        have HG4 := Go.Lib.hid (HG3.out.below b4)
        have HT4 := Go.Lib.hid (HT3.out.below b4)
        have HB4 := Go.Lib.hid (upB HB3.out b4)
        clear b4 hc0 hc1 hc2 hc3 g0 g1 g2 g3
        have HXN := Go.Lib.hid (HX4.out.alloc (.cells #[.int .i64 h.1, .int .i64 h.2, .int .i64 hf, .int .i64 hr] 76))
        have HFN := Go.Lib.hid (HG4.out.alloc (.cells #[.int .i64 h.1, .int .i64 h.2, .int .i64 hf, .int .i64 hr] 76))
        have HGN := Go.Lib.hid (show Box (w4.alloc (.cells #[.int .i64 h.1, .int .i64 h.2, .int .i64 hf, .int .i64 hr] 76)) w4.heap.size (gC h.1 h.2 hf hr) from Box.new rfl rfl)
        have HBN := Go.Lib.hid (HB4.out.alloc HB4.out.size (.cells #[.int .i64 h.1, .int .i64 h.2, .int .i64 hf, .int .i64 hr] 76))
        have HTN := Go.Lib.hid (HT4.out.below ((Below.refl w4.heap.size w4).alloc (Nat.le_refl _) (.cells #[.int .i64 h.1, .int .i64 h.2, .int .i64 hf, .int .i64 hr] 76)))
        go_upto_region 6 with fail
        refine wp_gen (R := fun V => Box V (w.heap.size + 1) (shC x A c B d lm) ∧ Box V gq (gC g.1 g.2 tf tr) ∧ Box V w4.heap.size (gC h.1 h.2 hf hr) ∧ Below w.heap.size w V ∧ TrL x A c B d V) ⟨HXN.out, HFN.out, HGN.out, HBN.out, HTN.out⟩ ?_
        rintro V5 ⟨hx, hf1, hg, hb, ht⟩
        have HX5 := Go.Lib.hid hx
        have HF5 := Go.Lib.hid hf1
        have HG5 := Go.Lib.hid hg
        have HB5 := Go.Lib.hid hb
        have HT5 := Go.Lib.hid ht
        clear hx hf1 hg hb ht HXN HFN HGN HBN HTN HX4 HG4 HB4 HT4 HX3 HG3 HB3 HT3
        generalize w4.heap.size = tq at *
        have hc0 : V5.cell? ⟨w.heap.size + 1, 0, none⟩ = some (.slice A x.f.length c) := HX5.out.at_ 0 _ rfl
        have hc1 : V5.cell? ⟨w.heap.size + 1, 1, none⟩ = some (.slice B x.r.length d) := HX5.out.at_ 1 _ rfl
        have hc2 : V5.cell? ⟨w.heap.size + 1, 2, none⟩ = some (.int .i64 x.n) := HX5.out.at_ 2 _ rfl
        have hc3 : V5.cell? ⟨w.heap.size + 1, 3, none⟩ = some (.int .i64 lm) := HX5.out.at_ 3 _ rfl
        obtain ⟨g0, g1, g2, g3⟩ := cells4 HF5.out
        obtain ⟨t0, t1, t2, t3⟩ := cells4 HG5.out
        go_wp2_with fail
        refine (HCF.out _ HT5.out).mono ?_
        rintro _ w6 ⟨rfl, b6⟩
        have HX6 := Go.Lib.hid (HX5.out.below b6)
        have HF6 := Go.Lib.hid (HF5.out.below b6)
        have HG6 := Go.Lib.hid (HG5.out.below b6)
        have HB6 := Go.Lib.hid (upB HB5.out b6)
        have HT6 := Go.Lib.hid (HT5.out.below b6)
        clear b6 hc0 hc1 hc2 hc3 g0 g1 g2 g3 t0 t1 t2 t3
        have hc0 : w6.cell? ⟨w.heap.size + 1, 0, none⟩ = some (.slice A x.f.length c) := HX6.out.at_ 0 _ rfl
        have hc1 : w6.cell? ⟨w.heap.size + 1, 1, none⟩ = some (.slice B x.r.length d) := HX6.out.at_ 1 _ rfl
        have hc2 : w6.cell? ⟨w.heap.size + 1, 2, none⟩ = some (.int .i64 x.n) := HX6.out.at_ 2 _ rfl
        have hc3 : w6.cell? ⟨w.heap.size + 1, 3, none⟩ = some (.int .i64 lm) := HX6.out.at_ 3 _ rfl
        obtain ⟨g0, g1, g2, g3⟩ := cells4 HF6.out
        obtain ⟨t0, t1, t2, t3⟩ := cells4 HG6.out
        go_wp2_with fail
        go_ret2
        exact GivesLN.nil HV.out HB6.out
      case false =>
        rw [hcg] at HCF
        have HW2 := Go.Lib.hid (HWY.out hcg)
        have HND := Go.Lib.hid (HBE.out hcg)
        cases hch : crossB x lm (plG h)
        case true =>
          have HV := Go.Lib.hid (show shortR x lm g.1 g.2 h.1 h.2 = ([], 5) by rw [HV0.out, hcg, hch]; rfl)
          rw [hch] at HCT
          clear HWY HW2 HV0 hcg hch HBE HND
          unfold trainV
          go_enter Try.func16, Try.ntmps16
          go_upto_region 2 with fail
          refine wp_gen (R := fun W => Box W (w.heap.size + 1) (shC x A c B d lm) ∧ Below w.heap.size w W) ⟨HX.out, HXB.out⟩ ?_
          rintro W ⟨hx, hb⟩
          have HX1 := Go.Lib.hid hx
          have HB1 := Go.Lib.hid hb
          have HT1 := Go.Lib.hid (HT.out.below hb)
          clear hx hb HX HXB
          have hc0 : W.cell? ⟨w.heap.size + 1, 0, none⟩ = some (.slice A x.f.length c) := HX1.out.at_ 0 _ rfl
          have hc1 : W.cell? ⟨w.heap.size + 1, 1, none⟩ = some (.slice B x.r.length d) := HX1.out.at_ 1 _ rfl
          have hc2 : W.cell? ⟨w.heap.size + 1, 2, none⟩ = some (.int .i64 x.n) := HX1.out.at_ 2 _ rfl
          have hc3 : W.cell? ⟨w.heap.size + 1, 3, none⟩ = some (.int .i64 lm) := HX1.out.at_ 3 _ rfl
          go_wp2_with fail
          refine (HGA.out _ HT1.out).mono ?_
          rintro _ w2 ⟨rfl, b2⟩
          have HX2 := Go.Lib.hid (HX1.out.below b2)
          have HB2 := Go.Lib.hid (upB HB1.out b2)
          have HT2 := Go.Lib.hid (HT1.out.below b2)
          clear b2 hc0 hc1 hc2 hc3
          have hc0 : w2.cell? ⟨w.heap.size + 1, 0, none⟩ = some (.slice A x.f.length c) := HX2.out.at_ 0 _ rfl
          have hc1 : w2.cell? ⟨w.heap.size + 1, 1, none⟩ = some (.slice B x.r.length d) := HX2.out.at_ 1 _ rfl
          have hc2 : w2.cell? ⟨w.heap.size + 1, 2, none⟩ = some (.int .i64 x.n) := HX2.out.at_ 2 _ rfl
          have hc3 : w2.cell? ⟨w.heap.size + 1, 3, none⟩ = some (.int .i64 lm) := HX2.out.at_ 3 _ rfl
          have HXN := Go.Lib.hid (HX2.out.alloc (.cells #[.int .i64 g.1, .int .i64 g.2, .int .i64 tf, .int .i64 tr] 76))
          have HGN := Go.Lib.hid (show Box (w2.alloc (.cells #[.int .i64 g.1, .int .i64 g.2, .int .i64 tf, .int .i64 tr] 76)) w2.heap.size (gC g.1 g.2 tf tr) from Box.new rfl rfl)
          have HBN := Go.Lib.hid (HB2.out.alloc HB2.out.size (.cells #[.int .i64 g.1, .int .i64 g.2, .int .i64 tf, .int .i64 tr] 76))
          have HTN := Go.Lib.hid (HT2.out.below ((Below.refl w2.heap.size w2).alloc (Nat.le_refl _) (.cells #[.int .i64 g.1, .int .i64 g.2, .int .i64 tf, .int .i64 tr] 76)))
          clear hc0 hc1 hc2 hc3
          go_upto_region 3 with fail
          refine wp_gen (R := fun V => Box V (w.heap.size + 1) (shC x A c B d lm) ∧ Box V w2.heap.size (gC g.1 g.2 tf tr) ∧ Below w.heap.size w V ∧ TrL x A c B d V) ⟨HXN.out, HGN.out, HBN.out, HTN.out⟩ ?_
          rintro V ⟨hx, hg, hb, ht⟩
          have HX3 := Go.Lib.hid hx
          have HG3 := Go.Lib.hid hg
          have HB3 := Go.Lib.hid hb
          have HT3 := Go.Lib.hid ht
          clear hx hg hb ht HXN HGN HBN HTN HX2 HB2 HT2
          generalize w2.heap.size = gq at *
          have hc0 : V.cell? ⟨w.heap.size + 1, 0, none⟩ = some (.slice A x.f.length c) := HX3.out.at_ 0 _ rfl
          have hc1 : V.cell? ⟨w.heap.size + 1, 1, none⟩ = some (.slice B x.r.length d) := HX3.out.at_ 1 _ rfl
          have hc2 : V.cell? ⟨w.heap.size + 1, 2, none⟩ = some (.int .i64 x.n) := HX3.out.at_ 2 _ rfl
          have hc3 : V.cell? ⟨w.heap.size + 1, 3, none⟩ = some (.int .i64 lm) := HX3.out.at_ 3 _ rfl
          obtain ⟨g0, g1, g2, g3⟩ := cells4 HG3.out
          go_wp2_with fail
          refine (HGT.out _ HT3.out).mono ?_
          rintro _ w4 ⟨rfl, b4⟩
          have HX4 := Go.Lib.hid (HX3.out.below b4)
          have HG4 := Go.Lib.hid (HG3.out.below b4)
          have HT4 := Go.Lib.hid (HT3.out.below b4)
          have HB4 := Go.Lib.hid (upB HB3.out b4)
          clear b4 hc0 hc1 hc2 hc3 g0 g1 g2 g3
          have HXN := Go.Lib.hid (HX4.out.alloc (.cells #[.int .i64 h.1, .int .i64 h.2, .int .i64 hf, .int .i64 hr] 76))
          have HFN := Go.Lib.hid (HG4.out.alloc (.cells #[.int .i64 h.1, .int .i64 h.2, .int .i64 hf, .int .i64 hr] 76))
          have HGN := Go.Lib.hid (show Box (w4.alloc (.cells #[.int .i64 h.1, .int .i64 h.2, .int .i64 hf, .int .i64 hr] 76)) w4.heap.size (gC h.1 h.2 hf hr) from Box.new rfl rfl)
          have HBN := Go.Lib.hid (HB4.out.alloc HB4.out.size (.cells #[.int .i64 h.1, .int .i64 h.2, .int .i64 hf, .int .i64 hr] 76))
          have HTN := Go.Lib.hid (HT4.out.below ((Below.refl w4.heap.size w4).alloc (Nat.le_refl _) (.cells #[.int .i64 h.1, .int .i64 h.2, .int .i64 hf, .int .i64 hr] 76)))
          go_upto_region 6 with fail
          refine wp_gen (R := fun V => Box V (w.heap.size + 1) (shC x A c B d lm) ∧ Box V gq (gC g.1 g.2 tf tr) ∧ Box V w4.heap.size (gC h.1 h.2 hf hr) ∧ Below w.heap.size w V ∧ TrL x A c B d V) ⟨HXN.out, HFN.out, HGN.out, HBN.out, HTN.out⟩ ?_
          rintro V5 ⟨hx, hf1, hg, hb, ht⟩
          have HX5 := Go.Lib.hid hx
          have HF5 := Go.Lib.hid hf1
          have HG5 := Go.Lib.hid hg
          have HB5 := Go.Lib.hid hb
          have HT5 := Go.Lib.hid ht
          clear hx hf1 hg hb ht HXN HFN HGN HBN HTN HX4 HG4 HB4 HT4 HX3 HG3 HB3 HT3
          generalize w4.heap.size = tq at *
          have hc0 : V5.cell? ⟨w.heap.size + 1, 0, none⟩ = some (.slice A x.f.length c) := HX5.out.at_ 0 _ rfl
          have hc1 : V5.cell? ⟨w.heap.size + 1, 1, none⟩ = some (.slice B x.r.length d) := HX5.out.at_ 1 _ rfl
          have hc2 : V5.cell? ⟨w.heap.size + 1, 2, none⟩ = some (.int .i64 x.n) := HX5.out.at_ 2 _ rfl
          have hc3 : V5.cell? ⟨w.heap.size + 1, 3, none⟩ = some (.int .i64 lm) := HX5.out.at_ 3 _ rfl
          obtain ⟨g0, g1, g2, g3⟩ := cells4 HF5.out
          obtain ⟨t0, t1, t2, t3⟩ := cells4 HG5.out
          go_wp2_with fail
          refine (HCF.out _ HT5.out).mono ?_
          rintro _ w6 ⟨rfl, b6⟩
          have HX6 := Go.Lib.hid (HX5.out.below b6)
          have HF6 := Go.Lib.hid (HF5.out.below b6)
          have HG6 := Go.Lib.hid (HG5.out.below b6)
          have HB6 := Go.Lib.hid (upB HB5.out b6)
          have HT6 := Go.Lib.hid (HT5.out.below b6)
          clear b6 hc0 hc1 hc2 hc3 g0 g1 g2 g3 t0 t1 t2 t3
          have hc0 : w6.cell? ⟨w.heap.size + 1, 0, none⟩ = some (.slice A x.f.length c) := HX6.out.at_ 0 _ rfl
          have hc1 : w6.cell? ⟨w.heap.size + 1, 1, none⟩ = some (.slice B x.r.length d) := HX6.out.at_ 1 _ rfl
          have hc2 : w6.cell? ⟨w.heap.size + 1, 2, none⟩ = some (.int .i64 x.n) := HX6.out.at_ 2 _ rfl
          have hc3 : w6.cell? ⟨w.heap.size + 1, 3, none⟩ = some (.int .i64 lm) := HX6.out.at_ 3 _ rfl
          obtain ⟨g0, g1, g2, g3⟩ := cells4 HF6.out
          obtain ⟨t0, t1, t2, t3⟩ := cells4 HG6.out
          go_wp2_with fail
          refine (HCT.out _ HT6.out).mono ?_
          rintro _ w7 ⟨rfl, b7⟩
          have HX7 := Go.Lib.hid (HX6.out.below b7)
          have HF7 := Go.Lib.hid (HF6.out.below b7)
          have HG7 := Go.Lib.hid (HG6.out.below b7)
          have HB7 := Go.Lib.hid (upB HB6.out b7)
          have HT7 := Go.Lib.hid (HT6.out.below b7)
          clear b7 hc0 hc1 hc2 hc3 g0 g1 g2 g3 t0 t1 t2 t3
          have hc0 : w7.cell? ⟨w.heap.size + 1, 0, none⟩ = some (.slice A x.f.length c) := HX7.out.at_ 0 _ rfl
          have hc1 : w7.cell? ⟨w.heap.size + 1, 1, none⟩ = some (.slice B x.r.length d) := HX7.out.at_ 1 _ rfl
          have hc2 : w7.cell? ⟨w.heap.size + 1, 2, none⟩ = some (.int .i64 x.n) := HX7.out.at_ 2 _ rfl
          have hc3 : w7.cell? ⟨w.heap.size + 1, 3, none⟩ = some (.int .i64 lm) := HX7.out.at_ 3 _ rfl
          obtain ⟨g0, g1, g2, g3⟩ := cells4 HF7.out
          obtain ⟨t0, t1, t2, t3⟩ := cells4 HG7.out
          go_wp2_with fail
          go_ret2
          exact GivesLN.nil HV.out HB7.out
        case false =>
          have HV1 := Go.Lib.hid (show shortR x lm g.1 g.2 h.1 h.2 = wayOf (bfEnd x lm (plG g)) (plG h) by rw [HV0.out, hcg, hch]; rfl)
          rw [hch] at HCT
          clear HWY HV0 hcg hch HBE
          cases hin : (bfEnd x lm (plG g)).seen.contains (plG h)
          case false =>
            have HIN := Go.Lib.hid hin
            have HV := Go.Lib.hid (show shortR x lm g.1 g.2 h.1 h.2 = ([], 4) by
              rw [HV1.out]
              unfold wayOf
              rw [hin]
              rfl)
            clear hin HV1 HND
            unfold trainV
            go_enter Try.func16, Try.ntmps16
            go_upto_region 2 with fail
            refine wp_gen (R := fun W => Box W (w.heap.size + 1) (shC x A c B d lm) ∧ Below w.heap.size w W) ⟨HX.out, HXB.out⟩ ?_
            rintro W ⟨hx, hb⟩
            have HX1 := Go.Lib.hid hx
            have HB1 := Go.Lib.hid hb
            have HT1 := Go.Lib.hid (HT.out.below hb)
            clear hx hb HX HXB
            have hc0 : W.cell? ⟨w.heap.size + 1, 0, none⟩ = some (.slice A x.f.length c) := HX1.out.at_ 0 _ rfl
            have hc1 : W.cell? ⟨w.heap.size + 1, 1, none⟩ = some (.slice B x.r.length d) := HX1.out.at_ 1 _ rfl
            have hc2 : W.cell? ⟨w.heap.size + 1, 2, none⟩ = some (.int .i64 x.n) := HX1.out.at_ 2 _ rfl
            have hc3 : W.cell? ⟨w.heap.size + 1, 3, none⟩ = some (.int .i64 lm) := HX1.out.at_ 3 _ rfl
            go_wp2_with fail
            refine (HGA.out _ HT1.out).mono ?_
            rintro _ w2 ⟨rfl, b2⟩
            have HX2 := Go.Lib.hid (HX1.out.below b2)
            have HB2 := Go.Lib.hid (upB HB1.out b2)
            have HT2 := Go.Lib.hid (HT1.out.below b2)
            clear b2 hc0 hc1 hc2 hc3
            have hc0 : w2.cell? ⟨w.heap.size + 1, 0, none⟩ = some (.slice A x.f.length c) := HX2.out.at_ 0 _ rfl
            have hc1 : w2.cell? ⟨w.heap.size + 1, 1, none⟩ = some (.slice B x.r.length d) := HX2.out.at_ 1 _ rfl
            have hc2 : w2.cell? ⟨w.heap.size + 1, 2, none⟩ = some (.int .i64 x.n) := HX2.out.at_ 2 _ rfl
            have hc3 : w2.cell? ⟨w.heap.size + 1, 3, none⟩ = some (.int .i64 lm) := HX2.out.at_ 3 _ rfl
            have HXN := Go.Lib.hid (HX2.out.alloc (.cells #[.int .i64 g.1, .int .i64 g.2, .int .i64 tf, .int .i64 tr] 76))
            have HGN := Go.Lib.hid (show Box (w2.alloc (.cells #[.int .i64 g.1, .int .i64 g.2, .int .i64 tf, .int .i64 tr] 76)) w2.heap.size (gC g.1 g.2 tf tr) from Box.new rfl rfl)
            have HBN := Go.Lib.hid (HB2.out.alloc HB2.out.size (.cells #[.int .i64 g.1, .int .i64 g.2, .int .i64 tf, .int .i64 tr] 76))
            have HTN := Go.Lib.hid (HT2.out.below ((Below.refl w2.heap.size w2).alloc (Nat.le_refl _) (.cells #[.int .i64 g.1, .int .i64 g.2, .int .i64 tf, .int .i64 tr] 76)))
            clear hc0 hc1 hc2 hc3
            go_upto_region 3 with fail
            refine wp_gen (R := fun V => Box V (w.heap.size + 1) (shC x A c B d lm) ∧ Box V w2.heap.size (gC g.1 g.2 tf tr) ∧ Below w.heap.size w V ∧ TrL x A c B d V) ⟨HXN.out, HGN.out, HBN.out, HTN.out⟩ ?_
            rintro V ⟨hx, hg, hb, ht⟩
            have HX3 := Go.Lib.hid hx
            have HG3 := Go.Lib.hid hg
            have HB3 := Go.Lib.hid hb
            have HT3 := Go.Lib.hid ht
            clear hx hg hb ht HXN HGN HBN HTN HX2 HB2 HT2
            generalize w2.heap.size = gq at *
            have hc0 : V.cell? ⟨w.heap.size + 1, 0, none⟩ = some (.slice A x.f.length c) := HX3.out.at_ 0 _ rfl
            have hc1 : V.cell? ⟨w.heap.size + 1, 1, none⟩ = some (.slice B x.r.length d) := HX3.out.at_ 1 _ rfl
            have hc2 : V.cell? ⟨w.heap.size + 1, 2, none⟩ = some (.int .i64 x.n) := HX3.out.at_ 2 _ rfl
            have hc3 : V.cell? ⟨w.heap.size + 1, 3, none⟩ = some (.int .i64 lm) := HX3.out.at_ 3 _ rfl
            obtain ⟨g0, g1, g2, g3⟩ := cells4 HG3.out
            go_wp2_with fail
            refine (HGT.out _ HT3.out).mono ?_
            rintro _ w4 ⟨rfl, b4⟩
            have HX4 := Go.Lib.hid (HX3.out.below b4)
            have HG4 := Go.Lib.hid (HG3.out.below b4)
            have HT4 := Go.Lib.hid (HT3.out.below b4)
            have HB4 := Go.Lib.hid (upB HB3.out b4)
            clear b4 hc0 hc1 hc2 hc3 g0 g1 g2 g3
            have HXN := Go.Lib.hid (HX4.out.alloc (.cells #[.int .i64 h.1, .int .i64 h.2, .int .i64 hf, .int .i64 hr] 76))
            have HFN := Go.Lib.hid (HG4.out.alloc (.cells #[.int .i64 h.1, .int .i64 h.2, .int .i64 hf, .int .i64 hr] 76))
            have HGN := Go.Lib.hid (show Box (w4.alloc (.cells #[.int .i64 h.1, .int .i64 h.2, .int .i64 hf, .int .i64 hr] 76)) w4.heap.size (gC h.1 h.2 hf hr) from Box.new rfl rfl)
            have HBN := Go.Lib.hid (HB4.out.alloc HB4.out.size (.cells #[.int .i64 h.1, .int .i64 h.2, .int .i64 hf, .int .i64 hr] 76))
            have HTN := Go.Lib.hid (HT4.out.below ((Below.refl w4.heap.size w4).alloc (Nat.le_refl _) (.cells #[.int .i64 h.1, .int .i64 h.2, .int .i64 hf, .int .i64 hr] 76)))
            go_upto_region 6 with fail
            refine wp_gen (R := fun V => Box V (w.heap.size + 1) (shC x A c B d lm) ∧ Box V gq (gC g.1 g.2 tf tr) ∧ Box V w4.heap.size (gC h.1 h.2 hf hr) ∧ Below w.heap.size w V ∧ TrL x A c B d V) ⟨HXN.out, HFN.out, HGN.out, HBN.out, HTN.out⟩ ?_
            rintro V5 ⟨hx, hf1, hg, hb, ht⟩
            have HX5 := Go.Lib.hid hx
            have HF5 := Go.Lib.hid hf1
            have HG5 := Go.Lib.hid hg
            have HB5 := Go.Lib.hid hb
            have HT5 := Go.Lib.hid ht
            clear hx hf1 hg hb ht HXN HFN HGN HBN HTN HX4 HG4 HB4 HT4 HX3 HG3 HB3 HT3
            generalize w4.heap.size = tq at *
            have hc0 : V5.cell? ⟨w.heap.size + 1, 0, none⟩ = some (.slice A x.f.length c) := HX5.out.at_ 0 _ rfl
            have hc1 : V5.cell? ⟨w.heap.size + 1, 1, none⟩ = some (.slice B x.r.length d) := HX5.out.at_ 1 _ rfl
            have hc2 : V5.cell? ⟨w.heap.size + 1, 2, none⟩ = some (.int .i64 x.n) := HX5.out.at_ 2 _ rfl
            have hc3 : V5.cell? ⟨w.heap.size + 1, 3, none⟩ = some (.int .i64 lm) := HX5.out.at_ 3 _ rfl
            obtain ⟨g0, g1, g2, g3⟩ := cells4 HF5.out
            obtain ⟨t0, t1, t2, t3⟩ := cells4 HG5.out
            go_wp2_with fail
            refine (HCF.out _ HT5.out).mono ?_
            rintro _ w6 ⟨rfl, b6⟩
            have HX6 := Go.Lib.hid (HX5.out.below b6)
            have HF6 := Go.Lib.hid (HF5.out.below b6)
            have HG6 := Go.Lib.hid (HG5.out.below b6)
            have HB6 := Go.Lib.hid (upB HB5.out b6)
            have HT6 := Go.Lib.hid (HT5.out.below b6)
            clear b6 hc0 hc1 hc2 hc3 g0 g1 g2 g3 t0 t1 t2 t3
            have hc0 : w6.cell? ⟨w.heap.size + 1, 0, none⟩ = some (.slice A x.f.length c) := HX6.out.at_ 0 _ rfl
            have hc1 : w6.cell? ⟨w.heap.size + 1, 1, none⟩ = some (.slice B x.r.length d) := HX6.out.at_ 1 _ rfl
            have hc2 : w6.cell? ⟨w.heap.size + 1, 2, none⟩ = some (.int .i64 x.n) := HX6.out.at_ 2 _ rfl
            have hc3 : w6.cell? ⟨w.heap.size + 1, 3, none⟩ = some (.int .i64 lm) := HX6.out.at_ 3 _ rfl
            obtain ⟨g0, g1, g2, g3⟩ := cells4 HF6.out
            obtain ⟨t0, t1, t2, t3⟩ := cells4 HG6.out
            go_wp2_with fail
            refine (HCT.out _ HT6.out).mono ?_
            rintro _ w8 ⟨rfl, b8⟩
            have HX8 := Go.Lib.hid (HX6.out.below b8)
            have HF8 := Go.Lib.hid (HF6.out.below b8)
            have HG8 := Go.Lib.hid (HG6.out.below b8)
            have HB8 := Go.Lib.hid (upB HB6.out b8)
            have HT8 := Go.Lib.hid (HT6.out.below b8)
            clear b8 hc0 hc1 hc2 hc3 g0 g1 g2 g3 t0 t1 t2 t3
            have hc0 : w8.cell? ⟨w.heap.size + 1, 0, none⟩ = some (.slice A x.f.length c) := HX8.out.at_ 0 _ rfl
            have hc1 : w8.cell? ⟨w.heap.size + 1, 1, none⟩ = some (.slice B x.r.length d) := HX8.out.at_ 1 _ rfl
            have hc2 : w8.cell? ⟨w.heap.size + 1, 2, none⟩ = some (.int .i64 x.n) := HX8.out.at_ 2 _ rfl
            have hc3 : w8.cell? ⟨w.heap.size + 1, 3, none⟩ = some (.int .i64 lm) := HX8.out.at_ 3 _ rfl
            obtain ⟨g0, g1, g2, g3⟩ := cells4 HF8.out
            obtain ⟨t0, t1, t2, t3⟩ := cells4 HG8.out
            have HTD := Go.Lib.hid (HT8.out.below (show Below w8.heap.size w8 w8.drew from below_drewN (Below.refl _ _) 1))
            have hsl : w.heap.size + 1 < w8.drew.heap.size := HX8.out.lt
            have hgl : gq < w8.drew.heap.size := HF8.out.lt
            have htl : tq < w8.drew.heap.size := HG8.out.lt
            go_upto_region 10 with fail
            refine wp_region_held_drew (S := fun w' => w'.cell? ⟨w.heap.size + 1, 0, none⟩ = some (.slice A x.f.length c) ∧ w'.cell? ⟨w.heap.size + 1, 1, none⟩ = some (.slice B x.r.length d) ∧ w'.cell? ⟨w.heap.size + 1, 2, none⟩ = some (.int .i64 x.n) ∧ w'.cell? ⟨w.heap.size + 1, 3, none⟩ = some (.int .i64 lm) ∧ w'.cell? ⟨gq, 0, none⟩ = some (.int .i64 (g.1 : Nat)) ∧ w'.cell? ⟨gq, 1, none⟩ = some (.int .i64 (g.2 : Nat)) ∧ w'.cell? ⟨gq, 2, none⟩ = some (.int .i64 tf) ∧ w'.cell? ⟨gq, 3, none⟩ = some (.int .i64 tr) ∧ w'.cell? ⟨tq, 0, none⟩ = some (.int .i64 (h.1 : Nat)) ∧ w'.cell? ⟨tq, 1, none⟩ = some (.int .i64 (h.2 : Nat)) ∧ w'.cell? ⟨tq, 2, none⟩ = some (.int .i64 hf) ∧ w'.cell? ⟨tq, 3, none⟩ = some (.int .i64 hr)) (by kernel_rfl) (by exact ⟨hc0, hc1, hc2, hc3, g0, g1, g2, g3, t0, t1, t2, t3⟩) (fun hHeld => ?_)
            refine wpAnyH_take (i := 0) (v := ?vqn1) rfl (by kernel_rfl) (by kernel_rfl) (by kernel_rfl) (fun _ _ _ h => h) (Or.inl ⟨by rfl, ?hyqn1⟩) (by assumption) ?restqn1
            case hyqn1 => (intro w hSw; (try dsimp only at hSw); go_simp; try with_reducible rfl)
            try simp only [List.getElem_toArray, List.getElem_cons_succ, List.getElem_cons_zero, Act.put, List.setIfInBounds_toArray, List.set_cons_zero, List.set_cons_succ]
            refine wpAnyH_take (i := 1) (v := ?vqn2) rfl (by kernel_rfl) (by kernel_rfl) (by kernel_rfl) (fun _ _ _ h => h) (Or.inl ⟨by rfl, ?hyqn2⟩) (by assumption) ?restqn2
            case hyqn2 => (intro w hSw; (try dsimp only at hSw); go_simp; try with_reducible rfl)
            try simp only [List.getElem_toArray, List.getElem_cons_succ, List.getElem_cons_zero, Act.put, List.setIfInBounds_toArray, List.set_cons_zero, List.set_cons_succ]
            refine wpAnyH_take (i := 3) (v := ?vqn3) rfl (by kernel_rfl) (by kernel_rfl) (by kernel_rfl) (fun _ _ _ h => h) (Or.inl ⟨by rfl, ?hyqn3⟩) (by assumption) ?restqn3
            case hyqn3 => (intro w hSw; (try dsimp only at hSw); go_simp; try with_reducible rfl)
            try simp only [List.getElem_toArray, List.getElem_cons_succ, List.getElem_cons_zero, Act.put, List.setIfInBounds_toArray, List.set_cons_zero, List.set_cons_succ]
            refine wpAnyH_ready (rs := [2]) (by kernel_rfl) (by simp) ?_
            refine AllReadyH.cons rfl (fun K hK => ?_) AllReadyH.nil
            go_simp
            (go_at_call 56; refine (HW2.out _ HTD.out).mono ?_; rintro _ wc ⟨mb, n, key, L, D, rfl, hK, hS, hL, bc⟩)
            have hhas : Maps.has D (key h) = false := by
              rw [hS.has h HHK.out, ← contains_pl, hL, HIN.out]
              rfl
            obtain ⟨v, ps, hrun, hvv⟩ := hS.own.look_ok keyedG Try.underlying81 (zeroRowG wc) (show heldE (.slice none 0 0) = some (.held (.slice none 0 0), []) from rfl) (show keyOf Try.prog 76 (gearV x h) = some (key h) from gk_of hK HHK.out)
            rw [hhas] at hrun
            unfold gearV gV at hrun
            rw [HHF.out, HHR.out] at hrun
            have HBC := Go.Lib.hid (show Below w.heap.size w wc from HB8.out.trans (((show Below w8.heap.size w8 w8.drew from below_drewN (Below.refl _ _) 1).trans bc).mono HB8.out.size))
            clear hK hS hL hhas hvv
            refine hK.out _ _ ?_ (fun hHeld => ?_)
            · exact ⟨(bc.cell (p := ⟨w.heap.size + 1, 0, none⟩) hsl).trans hHeld.1, (bc.cell (p := ⟨w.heap.size + 1, 1, none⟩) hsl).trans hHeld.2.1, (bc.cell (p := ⟨w.heap.size + 1, 2, none⟩) hsl).trans hHeld.2.2.1, (bc.cell (p := ⟨w.heap.size + 1, 3, none⟩) hsl).trans hHeld.2.2.2.1, (bc.cell (p := ⟨gq, 0, none⟩) hgl).trans hHeld.2.2.2.2.1, (bc.cell (p := ⟨gq, 1, none⟩) hgl).trans hHeld.2.2.2.2.2.1, (bc.cell (p := ⟨gq, 2, none⟩) hgl).trans hHeld.2.2.2.2.2.2.1, (bc.cell (p := ⟨gq, 3, none⟩) hgl).trans hHeld.2.2.2.2.2.2.2.1, (bc.cell (p := ⟨tq, 0, none⟩) htl).trans hHeld.2.2.2.2.2.2.2.2.1, (bc.cell (p := ⟨tq, 1, none⟩) htl).trans hHeld.2.2.2.2.2.2.2.2.2.1, (bc.cell (p := ⟨tq, 2, none⟩) htl).trans hHeld.2.2.2.2.2.2.2.2.2.2.1, (bc.cell (p := ⟨tq, 3, none⟩) htl).trans hHeld.2.2.2.2.2.2.2.2.2.2.2⟩
            clear hK K
            try simp only [List.getElem_toArray, List.getElem_cons_succ, List.getElem_cons_zero, Act.put, List.setIfInBounds_toArray, List.set_cons_zero, List.set_cons_succ]
            refine wpAnyH_ready (rs := [4]) (by kernel_rfl) (by simp) ?_
            refine AllReadyH.cons rfl (fun K hK => ?_) AllReadyH.nil
            go_simp
            refine hK.out _ _ ?_ (fun hHeld => ?_)
            · exact hHeld
            clear hK K
            try simp only [List.getElem_toArray, List.getElem_cons_succ, List.getElem_cons_zero, Act.put, List.setIfInBounds_toArray, List.set_cons_zero, List.set_cons_succ]
            refine wpAnyH_take (i := 5) (v := ?vqn4) rfl (by kernel_rfl) (by kernel_rfl) (by kernel_rfl) (fun _ _ _ h => h) (Or.inl ⟨by rfl, ?hyqn4⟩) (by assumption) ?restqn4
            case hyqn4 => (intro w hSw; (try dsimp only at hSw); go_simp; try with_reducible rfl)
            try simp only [List.getElem_toArray, List.getElem_cons_succ, List.getElem_cons_zero, Act.put, List.setIfInBounds_toArray, List.set_cons_zero, List.set_cons_succ]
            refine wpAnyH_take (i := 6) (v := ?vqn5) rfl (by kernel_rfl) (by kernel_rfl) (by kernel_rfl) (fun _ _ _ h => h) (Or.inl ⟨by rfl, ?hyqn5⟩) (by assumption) ?restqn5
            case hyqn5 => (intro w hSw; (try dsimp only at hSw); go_simp; try with_reducible rfl)
            try simp only [List.getElem_toArray, List.getElem_cons_succ, List.getElem_cons_zero, Act.put, List.setIfInBounds_toArray, List.set_cons_zero, List.set_cons_succ]
            refine wpAnyH_take (i := 7) (v := ?vqn6) rfl (by kernel_rfl) (by kernel_rfl) (by kernel_rfl) (fun _ _ _ h => h) (Or.inl ⟨by rfl, ?hyqn6⟩) (by assumption) ?restqn6
            case hyqn6 => (intro w hSw; (try dsimp only at hSw); go_simp; try with_reducible rfl)
            try simp only [List.getElem_toArray, List.getElem_cons_succ, List.getElem_cons_zero, Act.put, List.setIfInBounds_toArray, List.set_cons_zero, List.set_cons_succ]
            refine wpAnyH_take (i := 8) (v := ?vqn7) rfl (by kernel_rfl) (by kernel_rfl) (by kernel_rfl) (fun _ _ _ h => h) (Or.inl ⟨by rfl, ?hyqn7⟩) (by assumption) ?restqn7
            case hyqn7 => (intro w hSw; (try dsimp only at hSw); go_simp; try with_reducible rfl)
            try simp only [List.getElem_toArray, List.getElem_cons_succ, List.getElem_cons_zero, Act.put, List.setIfInBounds_toArray, List.set_cons_zero, List.set_cons_succ]
            refine wpAnyH_take (i := 9) (v := ?vqn8) rfl (by kernel_rfl) (by kernel_rfl) (by kernel_rfl) (fun _ _ _ h => h) (Or.inl ⟨by rfl, ?hyqn8⟩) (by assumption) ?restqn8
            case hyqn8 => (intro w hSw; (try dsimp only at hSw); go_simp; try with_reducible rfl)
            try simp only [List.getElem_toArray, List.getElem_cons_succ, List.getElem_cons_zero, Act.put, List.setIfInBounds_toArray, List.set_cons_zero, List.set_cons_succ]
            refine wpAnyH_done (by kernel_rfl) ?_ _
            clear hrun hHeld bc
            go_wp2_with fail
            go_ret2
            exact GivesLN.nil HV.out HBC.out
          case true =>
            have HIN := Go.Lib.hid hin
            obtain ⟨k, hk, hks⟩ := mem_s (b := bfEnd x lm (plG g)) (p := plG h) (by simpa using hin)
            have HKL := Go.Lib.hid hk
            have HKS := Go.Lib.hid hks
            have HV := Go.Lib.hid (show shortR x lm g.1 g.2 h.1 h.2 = ((bfEnd x lm (plG g)).w k, 0) by rw [HV1.out, ← hks]; exact wayOf_at HND.out.nd hk)
            clear hin HV1 HND hk hks
            unfold trainV
            go_enter Try.func16, Try.ntmps16
            go_upto_region 2 with fail
            refine wp_gen (R := fun W => Box W (w.heap.size + 1) (shC x A c B d lm) ∧ Below w.heap.size w W) ⟨HX.out, HXB.out⟩ ?_
            rintro W ⟨hx, hb⟩
            have HX1 := Go.Lib.hid hx
            have HB1 := Go.Lib.hid hb
            have HT1 := Go.Lib.hid (HT.out.below hb)
            clear hx hb HX HXB
            have hc0 : W.cell? ⟨w.heap.size + 1, 0, none⟩ = some (.slice A x.f.length c) := HX1.out.at_ 0 _ rfl
            have hc1 : W.cell? ⟨w.heap.size + 1, 1, none⟩ = some (.slice B x.r.length d) := HX1.out.at_ 1 _ rfl
            have hc2 : W.cell? ⟨w.heap.size + 1, 2, none⟩ = some (.int .i64 x.n) := HX1.out.at_ 2 _ rfl
            have hc3 : W.cell? ⟨w.heap.size + 1, 3, none⟩ = some (.int .i64 lm) := HX1.out.at_ 3 _ rfl
            go_wp2_with fail
            refine (HGA.out _ HT1.out).mono ?_
            rintro _ w2 ⟨rfl, b2⟩
            have HX2 := Go.Lib.hid (HX1.out.below b2)
            have HB2 := Go.Lib.hid (upB HB1.out b2)
            have HT2 := Go.Lib.hid (HT1.out.below b2)
            clear b2 hc0 hc1 hc2 hc3
            have hc0 : w2.cell? ⟨w.heap.size + 1, 0, none⟩ = some (.slice A x.f.length c) := HX2.out.at_ 0 _ rfl
            have hc1 : w2.cell? ⟨w.heap.size + 1, 1, none⟩ = some (.slice B x.r.length d) := HX2.out.at_ 1 _ rfl
            have hc2 : w2.cell? ⟨w.heap.size + 1, 2, none⟩ = some (.int .i64 x.n) := HX2.out.at_ 2 _ rfl
            have hc3 : w2.cell? ⟨w.heap.size + 1, 3, none⟩ = some (.int .i64 lm) := HX2.out.at_ 3 _ rfl
            have HXN := Go.Lib.hid (HX2.out.alloc (.cells #[.int .i64 g.1, .int .i64 g.2, .int .i64 tf, .int .i64 tr] 76))
            have HGN := Go.Lib.hid (show Box (w2.alloc (.cells #[.int .i64 g.1, .int .i64 g.2, .int .i64 tf, .int .i64 tr] 76)) w2.heap.size (gC g.1 g.2 tf tr) from Box.new rfl rfl)
            have HBN := Go.Lib.hid (HB2.out.alloc HB2.out.size (.cells #[.int .i64 g.1, .int .i64 g.2, .int .i64 tf, .int .i64 tr] 76))
            have HTN := Go.Lib.hid (HT2.out.below ((Below.refl w2.heap.size w2).alloc (Nat.le_refl _) (.cells #[.int .i64 g.1, .int .i64 g.2, .int .i64 tf, .int .i64 tr] 76)))
            clear hc0 hc1 hc2 hc3
            go_upto_region 3 with fail
            refine wp_gen (R := fun V => Box V (w.heap.size + 1) (shC x A c B d lm) ∧ Box V w2.heap.size (gC g.1 g.2 tf tr) ∧ Below w.heap.size w V ∧ TrL x A c B d V) ⟨HXN.out, HGN.out, HBN.out, HTN.out⟩ ?_
            rintro V ⟨hx, hg, hb, ht⟩
            have HX3 := Go.Lib.hid hx
            have HG3 := Go.Lib.hid hg
            have HB3 := Go.Lib.hid hb
            have HT3 := Go.Lib.hid ht
            clear hx hg hb ht HXN HGN HBN HTN HX2 HB2 HT2
            generalize w2.heap.size = gq at *
            have hc0 : V.cell? ⟨w.heap.size + 1, 0, none⟩ = some (.slice A x.f.length c) := HX3.out.at_ 0 _ rfl
            have hc1 : V.cell? ⟨w.heap.size + 1, 1, none⟩ = some (.slice B x.r.length d) := HX3.out.at_ 1 _ rfl
            have hc2 : V.cell? ⟨w.heap.size + 1, 2, none⟩ = some (.int .i64 x.n) := HX3.out.at_ 2 _ rfl
            have hc3 : V.cell? ⟨w.heap.size + 1, 3, none⟩ = some (.int .i64 lm) := HX3.out.at_ 3 _ rfl
            obtain ⟨g0, g1, g2, g3⟩ := cells4 HG3.out
            go_wp2_with fail
            refine (HGT.out _ HT3.out).mono ?_
            rintro _ w4 ⟨rfl, b4⟩
            have HX4 := Go.Lib.hid (HX3.out.below b4)
            have HG4 := Go.Lib.hid (HG3.out.below b4)
            have HT4 := Go.Lib.hid (HT3.out.below b4)
            have HB4 := Go.Lib.hid (upB HB3.out b4)
            clear b4 hc0 hc1 hc2 hc3 g0 g1 g2 g3
            have HXN := Go.Lib.hid (HX4.out.alloc (.cells #[.int .i64 h.1, .int .i64 h.2, .int .i64 hf, .int .i64 hr] 76))
            have HFN := Go.Lib.hid (HG4.out.alloc (.cells #[.int .i64 h.1, .int .i64 h.2, .int .i64 hf, .int .i64 hr] 76))
            have HGN := Go.Lib.hid (show Box (w4.alloc (.cells #[.int .i64 h.1, .int .i64 h.2, .int .i64 hf, .int .i64 hr] 76)) w4.heap.size (gC h.1 h.2 hf hr) from Box.new rfl rfl)
            have HBN := Go.Lib.hid (HB4.out.alloc HB4.out.size (.cells #[.int .i64 h.1, .int .i64 h.2, .int .i64 hf, .int .i64 hr] 76))
            have HTN := Go.Lib.hid (HT4.out.below ((Below.refl w4.heap.size w4).alloc (Nat.le_refl _) (.cells #[.int .i64 h.1, .int .i64 h.2, .int .i64 hf, .int .i64 hr] 76)))
            go_upto_region 6 with fail
            refine wp_gen (R := fun V => Box V (w.heap.size + 1) (shC x A c B d lm) ∧ Box V gq (gC g.1 g.2 tf tr) ∧ Box V w4.heap.size (gC h.1 h.2 hf hr) ∧ Below w.heap.size w V ∧ TrL x A c B d V) ⟨HXN.out, HFN.out, HGN.out, HBN.out, HTN.out⟩ ?_
            rintro V5 ⟨hx, hf1, hg, hb, ht⟩
            have HX5 := Go.Lib.hid hx
            have HF5 := Go.Lib.hid hf1
            have HG5 := Go.Lib.hid hg
            have HB5 := Go.Lib.hid hb
            have HT5 := Go.Lib.hid ht
            clear hx hf1 hg hb ht HXN HFN HGN HBN HTN HX4 HG4 HB4 HT4 HX3 HG3 HB3 HT3
            generalize w4.heap.size = tq at *
            have hc0 : V5.cell? ⟨w.heap.size + 1, 0, none⟩ = some (.slice A x.f.length c) := HX5.out.at_ 0 _ rfl
            have hc1 : V5.cell? ⟨w.heap.size + 1, 1, none⟩ = some (.slice B x.r.length d) := HX5.out.at_ 1 _ rfl
            have hc2 : V5.cell? ⟨w.heap.size + 1, 2, none⟩ = some (.int .i64 x.n) := HX5.out.at_ 2 _ rfl
            have hc3 : V5.cell? ⟨w.heap.size + 1, 3, none⟩ = some (.int .i64 lm) := HX5.out.at_ 3 _ rfl
            obtain ⟨g0, g1, g2, g3⟩ := cells4 HF5.out
            obtain ⟨t0, t1, t2, t3⟩ := cells4 HG5.out
            go_wp2_with fail
            refine (HCF.out _ HT5.out).mono ?_
            rintro _ w6 ⟨rfl, b6⟩
            have HX6 := Go.Lib.hid (HX5.out.below b6)
            have HF6 := Go.Lib.hid (HF5.out.below b6)
            have HG6 := Go.Lib.hid (HG5.out.below b6)
            have HB6 := Go.Lib.hid (upB HB5.out b6)
            have HT6 := Go.Lib.hid (HT5.out.below b6)
            clear b6 hc0 hc1 hc2 hc3 g0 g1 g2 g3 t0 t1 t2 t3
            have hc0 : w6.cell? ⟨w.heap.size + 1, 0, none⟩ = some (.slice A x.f.length c) := HX6.out.at_ 0 _ rfl
            have hc1 : w6.cell? ⟨w.heap.size + 1, 1, none⟩ = some (.slice B x.r.length d) := HX6.out.at_ 1 _ rfl
            have hc2 : w6.cell? ⟨w.heap.size + 1, 2, none⟩ = some (.int .i64 x.n) := HX6.out.at_ 2 _ rfl
            have hc3 : w6.cell? ⟨w.heap.size + 1, 3, none⟩ = some (.int .i64 lm) := HX6.out.at_ 3 _ rfl
            obtain ⟨g0, g1, g2, g3⟩ := cells4 HF6.out
            obtain ⟨t0, t1, t2, t3⟩ := cells4 HG6.out
            go_wp2_with fail
            refine (HCT.out _ HT6.out).mono ?_
            rintro _ w8 ⟨rfl, b8⟩
            have HX8 := Go.Lib.hid (HX6.out.below b8)
            have HF8 := Go.Lib.hid (HF6.out.below b8)
            have HG8 := Go.Lib.hid (HG6.out.below b8)
            have HB8 := Go.Lib.hid (upB HB6.out b8)
            have HT8 := Go.Lib.hid (HT6.out.below b8)
            clear b8 hc0 hc1 hc2 hc3 g0 g1 g2 g3 t0 t1 t2 t3
            have hc0 : w8.cell? ⟨w.heap.size + 1, 0, none⟩ = some (.slice A x.f.length c) := HX8.out.at_ 0 _ rfl
            have hc1 : w8.cell? ⟨w.heap.size + 1, 1, none⟩ = some (.slice B x.r.length d) := HX8.out.at_ 1 _ rfl
            have hc2 : w8.cell? ⟨w.heap.size + 1, 2, none⟩ = some (.int .i64 x.n) := HX8.out.at_ 2 _ rfl
            have hc3 : w8.cell? ⟨w.heap.size + 1, 3, none⟩ = some (.int .i64 lm) := HX8.out.at_ 3 _ rfl
            obtain ⟨g0, g1, g2, g3⟩ := cells4 HF8.out
            obtain ⟨t0, t1, t2, t3⟩ := cells4 HG8.out
            have HTD := Go.Lib.hid (HT8.out.below (show Below w8.heap.size w8 w8.drew from below_drewN (Below.refl _ _) 1))
            have hsl : w.heap.size + 1 < w8.drew.heap.size := HX8.out.lt
            have hgl : gq < w8.drew.heap.size := HF8.out.lt
            have htl : tq < w8.drew.heap.size := HG8.out.lt
            go_upto_region 10 with fail
            refine wp_region_held_drew (S := fun w' => w'.cell? ⟨w.heap.size + 1, 0, none⟩ = some (.slice A x.f.length c) ∧ w'.cell? ⟨w.heap.size + 1, 1, none⟩ = some (.slice B x.r.length d) ∧ w'.cell? ⟨w.heap.size + 1, 2, none⟩ = some (.int .i64 x.n) ∧ w'.cell? ⟨w.heap.size + 1, 3, none⟩ = some (.int .i64 lm) ∧ w'.cell? ⟨gq, 0, none⟩ = some (.int .i64 (g.1 : Nat)) ∧ w'.cell? ⟨gq, 1, none⟩ = some (.int .i64 (g.2 : Nat)) ∧ w'.cell? ⟨gq, 2, none⟩ = some (.int .i64 tf) ∧ w'.cell? ⟨gq, 3, none⟩ = some (.int .i64 tr) ∧ w'.cell? ⟨tq, 0, none⟩ = some (.int .i64 (h.1 : Nat)) ∧ w'.cell? ⟨tq, 1, none⟩ = some (.int .i64 (h.2 : Nat)) ∧ w'.cell? ⟨tq, 2, none⟩ = some (.int .i64 hf) ∧ w'.cell? ⟨tq, 3, none⟩ = some (.int .i64 hr)) (by kernel_rfl) (by exact ⟨hc0, hc1, hc2, hc3, g0, g1, g2, g3, t0, t1, t2, t3⟩) (fun hHeld => ?_)
            refine wpAnyH_take (i := 0) (v := ?vqf1) rfl (by kernel_rfl) (by kernel_rfl) (by kernel_rfl) (fun _ _ _ h => h) (Or.inl ⟨by rfl, ?hyqf1⟩) (by assumption) ?restqf1
            case hyqf1 => (intro w hSw; (try dsimp only at hSw); go_simp; try with_reducible rfl)
            try simp only [List.getElem_toArray, List.getElem_cons_succ, List.getElem_cons_zero, Act.put, List.setIfInBounds_toArray, List.set_cons_zero, List.set_cons_succ]
            refine wpAnyH_take (i := 1) (v := ?vqf2) rfl (by kernel_rfl) (by kernel_rfl) (by kernel_rfl) (fun _ _ _ h => h) (Or.inl ⟨by rfl, ?hyqf2⟩) (by assumption) ?restqf2
            case hyqf2 => (intro w hSw; (try dsimp only at hSw); go_simp; try with_reducible rfl)
            try simp only [List.getElem_toArray, List.getElem_cons_succ, List.getElem_cons_zero, Act.put, List.setIfInBounds_toArray, List.set_cons_zero, List.set_cons_succ]
            refine wpAnyH_take (i := 3) (v := ?vqf3) rfl (by kernel_rfl) (by kernel_rfl) (by kernel_rfl) (fun _ _ _ h => h) (Or.inl ⟨by rfl, ?hyqf3⟩) (by assumption) ?restqf3
            case hyqf3 => (intro w hSw; (try dsimp only at hSw); go_simp; try with_reducible rfl)
            try simp only [List.getElem_toArray, List.getElem_cons_succ, List.getElem_cons_zero, Act.put, List.setIfInBounds_toArray, List.set_cons_zero, List.set_cons_succ]
            refine wpAnyH_ready (rs := [2]) (by kernel_rfl) (by simp) ?_
            refine AllReadyH.cons rfl (fun K hK => ?_) AllReadyH.nil
            go_simp
            (go_at_call 56; refine (HW2.out _ HTD.out).mono ?_; rintro _ wc ⟨mb, n, key, L, D, rfl, hK, hS, hL, bc⟩)
            have hkl : k < L.length := by rw [← List.length_map (f := plG), hL]; exact HKL.out
            have hkg : L.getD k (0, 0) = h := plG_inj ((seen_at hL hkl).symm.trans HKS.out)
            obtain ⟨v0, hat, hrw⟩ := hS.at_ k hkl
            rw [hkg] at hat
            generalize hwv : (bfEnd x lm (plG g)).ways.getD k [] = wv at hrw
            have HWL := Go.Lib.hid (show (bfEnd x lm (plG g)).w k = wv from hwv)
            clear hwv
            have hhas : Maps.has D (key h) = true := by
              rw [hS.has h HHK.out, ← contains_pl, hL, HIN.out]
              rfl
            obtain ⟨v, ps, hrun, hvv⟩ := hS.own.look_ok keyedG Try.underlying81 (zeroRowG wc) (show heldE (.slice none 0 0) = some (.held (.slice none 0 0), []) from rfl) (show keyOf Try.prog 76 (gearV x h) = some (key h) from gk_of hK HHK.out)
            rw [hhas] at hrun
            unfold gearV gV at hrun
            rw [HHF.out, HHR.out] at hrun
            rw [hat] at hvv
            obtain rfl : v = v0 := by
              unfold heldE at hvv
              exact (show v = v0 ∧ ps = [] by simpa using hvv).1
            obtain ⟨VA, vc, rfl, hov⟩ := hrw.ex
            have HOV := Go.Lib.hid hov
            clear hov hrw hat hkg
            have HBC := Go.Lib.hid (show Below w.heap.size w wc from HB8.out.trans (((show Below w8.heap.size w8 w8.drew from below_drewN (Below.refl _ _) 1).trans bc).mono HB8.out.size))
            clear hK hS hL hhas hvv
            refine hK.out _ _ ?_ (fun hHeld => ?_)
            · exact ⟨(bc.cell (p := ⟨w.heap.size + 1, 0, none⟩) hsl).trans hHeld.1, (bc.cell (p := ⟨w.heap.size + 1, 1, none⟩) hsl).trans hHeld.2.1, (bc.cell (p := ⟨w.heap.size + 1, 2, none⟩) hsl).trans hHeld.2.2.1, (bc.cell (p := ⟨w.heap.size + 1, 3, none⟩) hsl).trans hHeld.2.2.2.1, (bc.cell (p := ⟨gq, 0, none⟩) hgl).trans hHeld.2.2.2.2.1, (bc.cell (p := ⟨gq, 1, none⟩) hgl).trans hHeld.2.2.2.2.2.1, (bc.cell (p := ⟨gq, 2, none⟩) hgl).trans hHeld.2.2.2.2.2.2.1, (bc.cell (p := ⟨gq, 3, none⟩) hgl).trans hHeld.2.2.2.2.2.2.2.1, (bc.cell (p := ⟨tq, 0, none⟩) htl).trans hHeld.2.2.2.2.2.2.2.2.1, (bc.cell (p := ⟨tq, 1, none⟩) htl).trans hHeld.2.2.2.2.2.2.2.2.2.1, (bc.cell (p := ⟨tq, 2, none⟩) htl).trans hHeld.2.2.2.2.2.2.2.2.2.2.1, (bc.cell (p := ⟨tq, 3, none⟩) htl).trans hHeld.2.2.2.2.2.2.2.2.2.2.2⟩
            clear hK K
            try simp only [List.getElem_toArray, List.getElem_cons_succ, List.getElem_cons_zero, Act.put, List.setIfInBounds_toArray, List.set_cons_zero, List.set_cons_succ]
            refine wpAnyH_ready (rs := [4]) (by kernel_rfl) (by simp) ?_
            refine AllReadyH.cons rfl (fun K hK => ?_) AllReadyH.nil
            go_simp
            refine hK.out _ _ ?_ (fun hHeld => ?_)
            · exact hHeld
            clear hK K
            try simp only [List.getElem_toArray, List.getElem_cons_succ, List.getElem_cons_zero, Act.put, List.setIfInBounds_toArray, List.set_cons_zero, List.set_cons_succ]
            refine wpAnyH_take (i := 5) (v := ?vqf4) rfl (by kernel_rfl) (by kernel_rfl) (by kernel_rfl) (fun _ _ _ h => h) (Or.inl ⟨by rfl, ?hyqf4⟩) (by assumption) ?restqf4
            case hyqf4 => (intro w hSw; (try dsimp only at hSw); go_simp; try with_reducible rfl)
            try simp only [List.getElem_toArray, List.getElem_cons_succ, List.getElem_cons_zero, Act.put, List.setIfInBounds_toArray, List.set_cons_zero, List.set_cons_succ]
            refine wpAnyH_take (i := 6) (v := ?vqf5) rfl (by kernel_rfl) (by kernel_rfl) (by kernel_rfl) (fun _ _ _ h => h) (Or.inl ⟨by rfl, ?hyqf5⟩) (by assumption) ?restqf5
            case hyqf5 => (intro w hSw; (try dsimp only at hSw); go_simp; try with_reducible rfl)
            try simp only [List.getElem_toArray, List.getElem_cons_succ, List.getElem_cons_zero, Act.put, List.setIfInBounds_toArray, List.set_cons_zero, List.set_cons_succ]
            refine wpAnyH_take (i := 7) (v := ?vqf6) rfl (by kernel_rfl) (by kernel_rfl) (by kernel_rfl) (fun _ _ _ h => h) (Or.inl ⟨by rfl, ?hyqf6⟩) (by assumption) ?restqf6
            case hyqf6 => (intro w hSw; (try dsimp only at hSw); go_simp; try with_reducible rfl)
            try simp only [List.getElem_toArray, List.getElem_cons_succ, List.getElem_cons_zero, Act.put, List.setIfInBounds_toArray, List.set_cons_zero, List.set_cons_succ]
            refine wpAnyH_take (i := 8) (v := ?vqf7) rfl (by kernel_rfl) (by kernel_rfl) (by kernel_rfl) (fun _ _ _ h => h) (Or.inl ⟨by rfl, ?hyqf7⟩) (by assumption) ?restqf7
            case hyqf7 => (intro w hSw; (try dsimp only at hSw); go_simp; try with_reducible rfl)
            try simp only [List.getElem_toArray, List.getElem_cons_succ, List.getElem_cons_zero, Act.put, List.setIfInBounds_toArray, List.set_cons_zero, List.set_cons_succ]
            refine wpAnyH_take (i := 9) (v := ?vqf8) rfl (by kernel_rfl) (by kernel_rfl) (by kernel_rfl) (fun _ _ _ h => h) (Or.inl ⟨by rfl, ?hyqf8⟩) (by assumption) ?restqf8
            case hyqf8 => (intro w hSw; (try dsimp only at hSw); go_simp; try with_reducible rfl)
            try simp only [List.getElem_toArray, List.getElem_cons_succ, List.getElem_cons_zero, Act.put, List.setIfInBounds_toArray, List.set_cons_zero, List.set_cons_succ]
            refine wpAnyH_done (by kernel_rfl) ?_ _
            clear hrun hHeld bc
            go_wp2_with fail
            go_ret2
            exact GivesLN.own (by rw [HV.out, HWL.out]) rfl (HOV.out.lower HB8.out.size) HBC.out
end Go.Proofs.Ythedanpldebjcaa
