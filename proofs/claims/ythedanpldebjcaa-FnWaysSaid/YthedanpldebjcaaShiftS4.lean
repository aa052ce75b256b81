/- The model: shifts, gears that are reached, shortest ways. -/
import Derived.Test.YthedanpldebjcaaShiftS3
import Derived.Lib.MinMax
namespace Go.Proofs.Ythedanpldebjcaa
open Go.RowKit
set_option linter.unusedSimpArgs false
set_option linter.unusedVariables false

theorem start11_lm {x : Trn} {lm f r : Int} (h : start11 x lm f r = 0) : 0 ≤ lm ∧ lm ≤ 4 := by
  unfold start11 at h
  by_cases h1 : code11 x lm f r = 0
  · exact code11_lm h1
  · rw [if_neg h1] at h; exact absurd h h1
set_option maxRecDepth 100000 in
set_option maxHeartbeats 4000000 in
theorem specReach (x : Trn) (A : Option Addr) (c : Nat) (B : Option Addr) (d : Nat) (lm f r : Int) (w : World) (T : TrL x A c B d w) :
    Calls Try.prog 25 #[trainV x A c B d, .int .i64 lm, .int .i64 f, .int .i64 r] w (Gives2 (reachR x lm f r) w) := by
  have HT := Go.Lib.hid T
  have HX := Go.Lib.hid (boxT_box x A c B d w)
  have HXB := Go.Lib.hid (boxT_below x A c B d w)
  clear T
  have H1 := Go.Lib.hid (fun w0 T0 => specStart11 x A c B d lm f r w0 T0)
  by_cases h0 : start11 x lm f r = 0
  case neg =>
    have HV := Go.Lib.hid (show reachR x lm f r = (0, start11 x lm f r) by unfold reachR; rw [if_neg h0])
    generalize start11 x lm f r = cd at *
    unfold trainV at *
    go_enter Try.func25, Try.ntmps25
    go_upto_region 1 with fail
    refine wp_gen (R := fun W => Box W w.heap.size (trainC x A c B d) ∧ Below w.heap.size w W) ⟨HX.out, HXB.out⟩ ?_
    rintro W ⟨hx, hb⟩
    have HX1 := Go.Lib.hid hx
    have HB1 := Go.Lib.hid hb
    have HT1 := Go.Lib.hid (HT.out.below hb)
    clear hx hb HX HXB
    have hc0 : W.cell? ⟨w.heap.size, 0, none⟩ = some (.slice A x.f.length c) := HX1.out.at_ 0 _ rfl
    have hc1 : W.cell? ⟨w.heap.size, 1, none⟩ = some (.slice B x.r.length d) := HX1.out.at_ 1 _ rfl
    have hc2 : W.cell? ⟨w.heap.size, 2, none⟩ = some (.int .i64 x.n) := HX1.out.at_ 2 _ rfl
    go_wp2_with fail
    refine (H1.out _ HT1.out).mono ?_
    rintro _ w2 ⟨rfl, b2⟩
    have HX2 := Go.Lib.hid (HX1.out.below b2)
    have HB2 := Go.Lib.hid (upB HB1.out b2)
    have HT2 := Go.Lib.hid (HT1.out.below b2)
    clear b2
    go_wp2_with fail
    go_ret2
    exact Gives2.of HV.out HB2.out
  case pos =>
    have HV := Go.Lib.hid (show reachR x lm f r = ((((bfEnd x lm (f, r)).seen.length : Nat) : Int), (0 : Int)) by unfold reachR; rw [if_pos h0])
    obtain ⟨ht, hok⟩ := start11_ok h0
    have hlm := start11_lm h0
    rw [h0] at H1
    have H2 := Go.Lib.hid (fun w0 T0 => specWays x A c B d lm f r w0 T0 (trainB_ok ht) hlm hok)
    have HNL := Go.Lib.hid (nums_len (bfEnd x lm (f, r)))
    clear h0 ht hok hlm
    generalize bfEnd x lm (f, r) = be at *
    unfold trainV at *
    go_enter Try.func25, Try.ntmps25
    go_upto_region 1 with fail
    refine wp_gen (R := fun W => Box W w.heap.size (trainC x A c B d) ∧ Below w.heap.size w W) ⟨HX.out, HXB.out⟩ ?_
    rintro W ⟨hx, hb⟩
    have HX1 := Go.Lib.hid hx
    have HB1 := Go.Lib.hid hb
    have HT1 := Go.Lib.hid (HT.out.below hb)
    clear hx hb HX HXB
    have hc0 : W.cell? ⟨w.heap.size, 0, none⟩ = some (.slice A x.f.length c) := HX1.out.at_ 0 _ rfl
    have hc1 : W.cell? ⟨w.heap.size, 1, none⟩ = some (.slice B x.r.length d) := HX1.out.at_ 1 _ rfl
    have hc2 : W.cell? ⟨w.heap.size, 2, none⟩ = some (.int .i64 x.n) := HX1.out.at_ 2 _ rfl
    go_wp2_with fail
    refine (H1.out _ HT1.out).mono ?_
    rintro _ w2 ⟨rfl, b2⟩
    have HX2 := Go.Lib.hid (HX1.out.below b2)
    have HB2 := Go.Lib.hid (upB HB1.out b2)
    have HT2 := Go.Lib.hid (HT1.out.below b2)
    clear b2
    clear hc0 hc1 hc2
    have hc0 : w2.cell? ⟨w.heap.size, 0, none⟩ = some (.slice A x.f.length c) := HX2.out.at_ 0 _ rfl
    have hc1 : w2.cell? ⟨w.heap.size, 1, none⟩ = some (.slice B x.r.length d) := HX2.out.at_ 1 _ rfl
    have hc2 : w2.cell? ⟨w.heap.size, 2, none⟩ = some (.int .i64 x.n) := HX2.out.at_ 2 _ rfl
    go_wp2_with fail
    refine (H2.out _ HT2.out).mono ?_
    rintro _ w3 ⟨base, bs, cs, vs, vw, rfl, hbs, hs, b3⟩
    obtain ⟨As, caps, rfl, -⟩ := row_ow hs.sn
    have HB3 := Go.Lib.hid (upB HB2.out b3)
    rw [← HNL.out] at HV
    clear hs b3
    go_wp2_with fail
    go_ret2
    exact Gives2.of HV.out HB3.out
theorem gear_few {x : Trn} (hx : Train x) {f r : Int} (hg : gearB x f r = true) : (0 ≤ f ∧ f ≤ 2) ∧ 0 ≤ r ∧ r ≤ 11 := by
  unfold gearB at hg
  simp only [Bool.and_eq_true, decide_eq_true_eq] at hg
  have h1 := hx.f.few
  have h2 := hx.r.few
  omega
set_option maxRecDepth 100000 in
set_option maxHeartbeats 4000000 in
theorem specShift (x : Trn) (A : Option Addr) (c : Nat) (B : Option Addr) (d : Nat) (lm f r m : Int) (w : World) (T : TrL x A c B d w) :
    Calls Try.prog 20 #[trainV x A c B d, .int .i64 lm, .int .i64 f, .int .i64 r, .int .i64 m] w (IsV w (.tuple #[.int .i64 (shiftR x lm f r m).1, .int .i64 (shiftR x lm f r m).2.1, .int .i64 (shiftR x lm f r m).2.2])) := by
  have hfl := T.f.few
  have hrl := T.r.few
  have HT := Go.Lib.hid T
  have HX := Go.Lib.hid (boxT_box x A c B d w)
  have HXB := Go.Lib.hid (boxT_below x A c B d w)
  clear T
  have H1 := Go.Lib.hid (fun w0 T0 => specCode11 x A c B d lm f r w0 T0)
  have H2 := Go.Lib.hid (fun w0 => inN2 m 0 3 w0)
  have H3 := Go.Lib.hid (fun w0 T0 => specStart11 x A c B d lm f r w0 T0)
  by_cases h0 : code11 x lm f r = 0
  case neg =>
    have HV := Go.Lib.hid (show shiftR x lm f r m = (0, 0, code11 x lm f r) by unfold shiftR; rw [if_neg h0])
    generalize code11 x lm f r = cd at *
    unfold trainV at *
    go_enter Try.func20, Try.ntmps20
    go_upto_region 1 with fail
    refine wp_gen (R := fun W => Box W w.heap.size (trainC x A c B d) ∧ Below w.heap.size w W) ⟨HX.out, HXB.out⟩ ?_
    rintro W ⟨hx, hb⟩
    have HX1 := Go.Lib.hid hx
    have HB1 := Go.Lib.hid hb
    have HT1 := Go.Lib.hid (HT.out.below hb)
    clear hx hb HX HXB
    have hc0 : W.cell? ⟨w.heap.size, 0, none⟩ = some (.slice A x.f.length c) := HX1.out.at_ 0 _ rfl
    have hc1 : W.cell? ⟨w.heap.size, 1, none⟩ = some (.slice B x.r.length d) := HX1.out.at_ 1 _ rfl
    have hc2 : W.cell? ⟨w.heap.size, 2, none⟩ = some (.int .i64 x.n) := HX1.out.at_ 2 _ rfl
    go_wp2_with fail
    refine (H1.out _ HT1.out).mono ?_
    rintro _ w2 ⟨rfl, b2⟩
    have HX2 := Go.Lib.hid (HX1.out.below b2)
    have HB2 := Go.Lib.hid (upB HB1.out b2)
    have HT2 := Go.Lib.hid (HT1.out.below b2)
    clear b2
    go_wp2_with fail
    refine bodyPost_ret (results_tmp3 rfl _ _ _) rfl ?_
    exact ⟨by rw [HV.out]; rfl, HB2.out⟩
  case pos =>
    have HLM := Go.Lib.hid (code11_lm h0)
    obtain ⟨ht, hg, -⟩ := code11_ok h0
    have hgb := gear_few (trainB_ok ht) hg
    have HS11 := Go.Lib.hid (show start11 x lm f r = if crossB x lm (f, r) then 5 else 0 by unfold start11; rw [if_pos h0])
    have HV0 := Go.Lib.hid (show shiftR x lm f r m = if inB m 0 3 then (if crossB x lm (f, r) then (0, 0, 5) else if okG x lm (mvG (f, r) m) then ((mvG (f, r) m).1, (mvG (f, r) m).2, 0) else (0, 0, 5)) else (0, 0, 2) by unfold shiftR; rw [if_pos h0])
    rw [h0] at H1
    rw [HS11.out] at H3
    clear h0 ht hg HS11
    by_cases hm : inB m 0 3 = true
    case neg =>
      have HV := Go.Lib.hid (show shiftR x lm f r m = (0, 0, 2) from HV0.out.trans (if_neg hm))
      rw [Bool.not_eq_true] at hm
      rw [hm] at H2
      clear hm HV0
      unfold trainV at *
      go_enter Try.func20, Try.ntmps20
      go_upto_region 1 with fail
      refine wp_gen (R := fun W => Box W w.heap.size (trainC x A c B d) ∧ Below w.heap.size w W) ⟨HX.out, HXB.out⟩ ?_
      rintro W ⟨hx, hb⟩
      have HX1 := Go.Lib.hid hx
      have HB1 := Go.Lib.hid hb
      have HT1 := Go.Lib.hid (HT.out.below hb)
      clear hx hb HX HXB
      have hc0 : W.cell? ⟨w.heap.size, 0, none⟩ = some (.slice A x.f.length c) := HX1.out.at_ 0 _ rfl
      have hc1 : W.cell? ⟨w.heap.size, 1, none⟩ = some (.slice B x.r.length d) := HX1.out.at_ 1 _ rfl
      have hc2 : W.cell? ⟨w.heap.size, 2, none⟩ = some (.int .i64 x.n) := HX1.out.at_ 2 _ rfl
      go_wp2_with fail
      refine (H1.out _ HT1.out).mono ?_
      rintro _ w2 ⟨rfl, b2⟩
      have HX2 := Go.Lib.hid (HX1.out.below b2)
      have HB2 := Go.Lib.hid (upB HB1.out b2)
      have HT2 := Go.Lib.hid (HT1.out.below b2)
      clear b2
      go_wp2_with fail
      refine (H2.out _).mono ?_
      rintro _ _ ⟨rfl, rfl⟩
      go_wp2_with fail
      refine bodyPost_ret (results_tmp3 rfl _ _ _) rfl ?_
      exact ⟨by rw [HV.out]; rfl, HB2.out⟩
    case pos =>
      have hmb := inB_iff.1 hm
      have H4 := Go.Lib.hid (fun w0 T0 => specMove x A c B d lm f r m w0 T0 HLM.out (by omega) (by omega) hmb)
      have HV1 := Go.Lib.hid (HV0.out.trans (if_pos hm))
      rw [hm] at H2
      clear hm HV0 hmb
      by_cases hc : crossB x lm (f, r) = true
      case pos =>
        have HV := Go.Lib.hid (show shiftR x lm f r m = (0, 0, 5) from HV1.out.trans (if_pos hc))
        rw [hc, if_pos rfl] at H3
        clear hc HV1
        unfold trainV at *
        go_enter Try.func20, Try.ntmps20
        go_upto_region 1 with fail
        refine wp_gen (R := fun W => Box W w.heap.size (trainC x A c B d) ∧ Below w.heap.size w W) ⟨HX.out, HXB.out⟩ ?_
        rintro W ⟨hx, hb⟩
        have HX1 := Go.Lib.hid hx
        have HB1 := Go.Lib.hid hb
        have HT1 := Go.Lib.hid (HT.out.below hb)
        clear hx hb HX HXB
        have hc0 : W.cell? ⟨w.heap.size, 0, none⟩ = some (.slice A x.f.length c) := HX1.out.at_ 0 _ rfl
        have hc1 : W.cell? ⟨w.heap.size, 1, none⟩ = some (.slice B x.r.length d) := HX1.out.at_ 1 _ rfl
        have hc2 : W.cell? ⟨w.heap.size, 2, none⟩ = some (.int .i64 x.n) := HX1.out.at_ 2 _ rfl
        go_wp2_with fail
        refine (H1.out _ HT1.out).mono ?_
        rintro _ w2 ⟨rfl, b2⟩
        have HX2 := Go.Lib.hid (HX1.out.below b2)
        have HB2 := Go.Lib.hid (upB HB1.out b2)
        have HT2 := Go.Lib.hid (HT1.out.below b2)
        clear b2
        go_wp2_with fail
        refine (H2.out _).mono ?_
        rintro _ _ ⟨rfl, rfl⟩
        clear hc0 hc1 hc2
        have hc0 : w2.cell? ⟨w.heap.size, 0, none⟩ = some (.slice A x.f.length c) := HX2.out.at_ 0 _ rfl
        have hc1 : w2.cell? ⟨w.heap.size, 1, none⟩ = some (.slice B x.r.length d) := HX2.out.at_ 1 _ rfl
        have hc2 : w2.cell? ⟨w.heap.size, 2, none⟩ = some (.int .i64 x.n) := HX2.out.at_ 2 _ rfl
        go_wp2_with fail
        refine (H3.out _ HT2.out).mono ?_
        rintro _ w3 ⟨rfl, b3⟩
        have HX3 := Go.Lib.hid (HX2.out.below b3)
        have HB3 := Go.Lib.hid (upB HB2.out b3)
        have HT3 := Go.Lib.hid (HT2.out.below b3)
        clear b3
        go_wp2_with fail
        refine bodyPost_ret (results_tmp3 rfl _ _ _) rfl ?_
        exact ⟨by rw [HV.out]; rfl, HB3.out⟩
      case neg =>
        have HV2 := Go.Lib.hid (HV1.out.trans (if_neg hc))
        rw [if_neg hc] at H3
        clear hc HV1
        obtain ⟨qf, qr, hq⟩ : ∃ qf qr, mvG (f, r) m = (qf, qr) := ⟨_, _, rfl⟩
        rw [hq] at H4 HV2
        clear hq
        by_cases hok : okG x lm (qf, qr) = true
        case pos =>
          have HV := Go.Lib.hid (show shiftR x lm f r m = (qf, qr, 0) from HV2.out.trans (if_pos hok))
          rw [hok] at H4
          clear hok HV2
          unfold trainV at *
          go_enter Try.func20, Try.ntmps20
          go_upto_region 1 with fail
          refine wp_gen (R := fun W => Box W w.heap.size (trainC x A c B d) ∧ Below w.heap.size w W) ⟨HX.out, HXB.out⟩ ?_
          rintro W ⟨hx, hb⟩
          have HX1 := Go.Lib.hid hx
          have HB1 := Go.Lib.hid hb
          have HT1 := Go.Lib.hid (HT.out.below hb)
          clear hx hb HX HXB
          have hc0 : W.cell? ⟨w.heap.size, 0, none⟩ = some (.slice A x.f.length c) := HX1.out.at_ 0 _ rfl
          have hc1 : W.cell? ⟨w.heap.size, 1, none⟩ = some (.slice B x.r.length d) := HX1.out.at_ 1 _ rfl
          have hc2 : W.cell? ⟨w.heap.size, 2, none⟩ = some (.int .i64 x.n) := HX1.out.at_ 2 _ rfl
          go_wp2_with fail
          refine (H1.out _ HT1.out).mono ?_
          rintro _ w2 ⟨rfl, b2⟩
          have HX2 := Go.Lib.hid (HX1.out.below b2)
          have HB2 := Go.Lib.hid (upB HB1.out b2)
          have HT2 := Go.Lib.hid (HT1.out.below b2)
          clear b2
          go_wp2_with fail
          refine (H2.out _).mono ?_
          rintro _ _ ⟨rfl, rfl⟩
          clear hc0 hc1 hc2
          have hc0 : w2.cell? ⟨w.heap.size, 0, none⟩ = some (.slice A x.f.length c) := HX2.out.at_ 0 _ rfl
          have hc1 : w2.cell? ⟨w.heap.size, 1, none⟩ = some (.slice B x.r.length d) := HX2.out.at_ 1 _ rfl
          have hc2 : w2.cell? ⟨w.heap.size, 2, none⟩ = some (.int .i64 x.n) := HX2.out.at_ 2 _ rfl
          go_wp2_with fail
          refine (H3.out _ HT2.out).mono ?_
          rintro _ w3 ⟨rfl, b3⟩
          have HX3 := Go.Lib.hid (HX2.out.below b3)
          have HB3 := Go.Lib.hid (upB HB2.out b3)
          have HT3 := Go.Lib.hid (HT2.out.below b3)
          clear b3
          clear hc0 hc1 hc2
          have hc0 : w3.cell? ⟨w.heap.size, 0, none⟩ = some (.slice A x.f.length c) := HX3.out.at_ 0 _ rfl
          have hc1 : w3.cell? ⟨w.heap.size, 1, none⟩ = some (.slice B x.r.length d) := HX3.out.at_ 1 _ rfl
          have hc2 : w3.cell? ⟨w.heap.size, 2, none⟩ = some (.int .i64 x.n) := HX3.out.at_ 2 _ rfl
          go_wp2_with fail
          refine (H4.out _ HT3.out).mono ?_
          rintro _ w4 ⟨rfl, b4⟩
          have HX4 := Go.Lib.hid (HX3.out.below b4)
          have HB4 := Go.Lib.hid (upB HB3.out b4)
          have HT4 := Go.Lib.hid (HT3.out.below b4)
          clear b4
          go_wp2_with fail
          refine bodyPost_ret (results_tmp3 rfl _ _ _) rfl ?_
          exact ⟨by rw [HV.out]; rfl, HB4.out⟩
        case neg =>
          have HV := Go.Lib.hid (show shiftR x lm f r m = (0, 0, 5) from HV2.out.trans (if_neg hok))
          rw [Bool.not_eq_true] at hok
          rw [hok] at H4
          clear hok HV2
          unfold trainV at *
          go_enter Try.func20, Try.ntmps20
          go_upto_region 1 with fail
          refine wp_gen (R := fun W => Box W w.heap.size (trainC x A c B d) ∧ Below w.heap.size w W) ⟨HX.out, HXB.out⟩ ?_
          rintro W ⟨hx, hb⟩
          have HX1 := Go.Lib.hid hx
          have HB1 := Go.Lib.hid hb
          have HT1 := Go.Lib.hid (HT.out.below hb)
          clear hx hb HX HXB
          have hc0 : W.cell? ⟨w.heap.size, 0, none⟩ = some (.slice A x.f.length c) := HX1.out.at_ 0 _ rfl
          have hc1 : W.cell? ⟨w.heap.size, 1, none⟩ = some (.slice B x.r.length d) := HX1.out.at_ 1 _ rfl
          have hc2 : W.cell? ⟨w.heap.size, 2, none⟩ = some (.int .i64 x.n) := HX1.out.at_ 2 _ rfl
          go_wp2_with fail
          refine (H1.out _ HT1.out).mono ?_
          rintro _ w2 ⟨rfl, b2⟩
          have HX2 := Go.Lib.hid (HX1.out.below b2)
          have HB2 := Go.Lib.hid (upB HB1.out b2)
          have HT2 := Go.Lib.hid (HT1.out.below b2)
          clear b2
          go_wp2_with fail
          refine (H2.out _).mono ?_
          rintro _ _ ⟨rfl, rfl⟩
          clear hc0 hc1 hc2
          have hc0 : w2.cell? ⟨w.heap.size, 0, none⟩ = some (.slice A x.f.length c) := HX2.out.at_ 0 _ rfl
          have hc1 : w2.cell? ⟨w.heap.size, 1, none⟩ = some (.slice B x.r.length d) := HX2.out.at_ 1 _ rfl
          have hc2 : w2.cell? ⟨w.heap.size, 2, none⟩ = some (.int .i64 x.n) := HX2.out.at_ 2 _ rfl
          go_wp2_with fail
          refine (H3.out _ HT2.out).mono ?_
          rintro _ w3 ⟨rfl, b3⟩
          have HX3 := Go.Lib.hid (HX2.out.below b3)
          have HB3 := Go.Lib.hid (upB HB2.out b3)
          have HT3 := Go.Lib.hid (HT2.out.below b3)
          clear b3
          clear hc0 hc1 hc2
          have hc0 : w3.cell? ⟨w.heap.size, 0, none⟩ = some (.slice A x.f.length c) := HX3.out.at_ 0 _ rfl
          have hc1 : w3.cell? ⟨w.heap.size, 1, none⟩ = some (.slice B x.r.length d) := HX3.out.at_ 1 _ rfl
          have hc2 : w3.cell? ⟨w.heap.size, 2, none⟩ = some (.int .i64 x.n) := HX3.out.at_ 2 _ rfl
          go_wp2_with fail
          refine (H4.out _ HT3.out).mono ?_
          rintro _ w4 ⟨rfl, b4⟩
          have HX4 := Go.Lib.hid (HX3.out.below b4)
          have HB4 := Go.Lib.hid (upB HB3.out b4)
          have HT4 := Go.Lib.hid (HT3.out.below b4)
          clear b4
          go_wp2_with fail
          refine bodyPost_ret (results_tmp3 rfl _ _ _) rfl ?_
          exact ⟨by rw [HV.out]; rfl, HB4.out⟩
set_option maxRecDepth 100000 in
set_option maxHeartbeats 16000000 in
theorem specShort (x : Trn) (A : Option Addr) (c : Nat) (B : Option Addr) (d : Nat) (lm f r tf tr : Int) (w : World) (T : TrL x A c B d w) :
    Calls Try.prog 17 #[trainV x A c B d, .int .i64 lm, .int .i64 f, .int .i64 r, .int .i64 tf, .int .i64 tr] w (GivesLN (shortR x lm f r tf tr) w) := by
  have HT := Go.Lib.hid T
  have HX := Go.Lib.hid (boxT_box x A c B d w)
  have HXB := Go.Lib.hid (boxT_below x A c B d w)
  clear T
  have H1 := Go.Lib.hid (fun w0 T0 => specCode11 x A c B d lm f r w0 T0)
  have H2 := Go.Lib.hid (fun w0 T0 => specCode11 x A c B d lm tf tr w0 T0)
  have H3 := Go.Lib.hid (fun w0 T0 => specStart11 x A c B d lm f r w0 T0)
  have H4 := Go.Lib.hid (fun w0 T0 => specStart11 x A c B d lm tf tr w0 T0)
  by_cases h0 : code11 x lm f r = 0
  case neg =>
    have HV := Go.Lib.hid (show shortR x lm f r tf tr = ([], code11 x lm f r) by unfold shortR; rw [if_neg h0])
    generalize code11 x lm f r = cd at *
    unfold trainV at *
    go_enter Try.func17, Try.ntmps17
    go_upto_region 1 with fail
    refine wp_gen (R := fun W => Box W w.heap.size (trainC x A c B d) ∧ Below w.heap.size w W) ⟨HX.out, HXB.out⟩ ?_
    rintro W ⟨hx, hb⟩
    have HX1 := Go.Lib.hid hx
    have HB1 := Go.Lib.hid hb
    have HT1 := Go.Lib.hid (HT.out.below hb)
    clear hx hb HX HXB
    have hc0 : W.cell? ⟨w.heap.size, 0, none⟩ = some (.slice A x.f.length c) := HX1.out.at_ 0 _ rfl
    have hc1 : W.cell? ⟨w.heap.size, 1, none⟩ = some (.slice B x.r.length d) := HX1.out.at_ 1 _ rfl
    have hc2 : W.cell? ⟨w.heap.size, 2, none⟩ = some (.int .i64 x.n) := HX1.out.at_ 2 _ rfl
    go_wp2_with fail
    refine (H1.out _ HT1.out).mono ?_
    rintro _ w2 ⟨rfl, b2⟩
    have HX2 := Go.Lib.hid (HX1.out.below b2)
    have HB2 := Go.Lib.hid (upB HB1.out b2)
    have HT2 := Go.Lib.hid (HT1.out.below b2)
    clear b2
    go_wp2_with fail
    go_ret2
    exact GivesLN.nil HV.out HB2.out
  case pos =>
    by_cases h1 : code11 x lm tf tr = 0
    case neg =>
      have HV := Go.Lib.hid (show shortR x lm f r tf tr = ([], code11 x lm tf tr) by unfold shortR; rw [if_pos h0, if_neg h1])
      rw [h0] at H1
      clear h0
      generalize code11 x lm tf tr = cd at *
      unfold trainV at *
      go_enter Try.func17, Try.ntmps17
      go_upto_region 1 with fail
      refine wp_gen (R := fun W => Box W w.heap.size (trainC x A c B d) ∧ Below w.heap.size w W) ⟨HX.out, HXB.out⟩ ?_
      rintro W ⟨hx, hb⟩
      have HX1 := Go.Lib.hid hx
      have HB1 := Go.Lib.hid hb
      have HT1 := Go.Lib.hid (HT.out.below hb)
      clear hx hb HX HXB
      have hc0 : W.cell? ⟨w.heap.size, 0, none⟩ = some (.slice A x.f.length c) := HX1.out.at_ 0 _ rfl
      have hc1 : W.cell? ⟨w.heap.size, 1, none⟩ = some (.slice B x.r.length d) := HX1.out.at_ 1 _ rfl
      have hc2 : W.cell? ⟨w.heap.size, 2, none⟩ = some (.int .i64 x.n) := HX1.out.at_ 2 _ rfl
      go_wp2_with fail
      refine (H1.out _ HT1.out).mono ?_
      rintro _ w2 ⟨rfl, b2⟩
      have HX2 := Go.Lib.hid (HX1.out.below b2)
      have HB2 := Go.Lib.hid (upB HB1.out b2)
      have HT2 := Go.Lib.hid (HT1.out.below b2)
      clear b2
      clear hc0 hc1 hc2
      have hc0 : w2.cell? ⟨w.heap.size, 0, none⟩ = some (.slice A x.f.length c) := HX2.out.at_ 0 _ rfl
      have hc1 : w2.cell? ⟨w.heap.size, 1, none⟩ = some (.slice B x.r.length d) := HX2.out.at_ 1 _ rfl
      have hc2 : w2.cell? ⟨w.heap.size, 2, none⟩ = some (.int .i64 x.n) := HX2.out.at_ 2 _ rfl
      go_wp2_with fail
      refine (H2.out _ HT2.out).mono ?_
      rintro _ w3 ⟨rfl, b3⟩
      have HX3 := Go.Lib.hid (HX2.out.below b3)
      have HB3 := Go.Lib.hid (upB HB2.out b3)
      have HT3 := Go.Lib.hid (HT2.out.below b3)
      clear b3
      go_wp2_with fail
      go_ret2
      exact GivesLN.nil HV.out HB3.out
    case pos =>
      have HV0 := Go.Lib.hid (show shortR x lm f r tf tr = if crossB x lm (f, r) || crossB x lm (tf, tr) then ([], 5) else wayOf (bfEnd x lm (f, r)) (tf, tr) by unfold shortR; rw [if_pos h0, if_pos h1])
      have HLM := Go.Lib.hid (code11_lm h0)
      obtain ⟨ht, hg, -⟩ := code11_ok h0
      obtain ⟨-, hg2, -⟩ := code11_ok h1
      have HTR := Go.Lib.hid (trainB_ok ht)
      have hgb := gear_few (trainB_ok ht) hg2
      rw [show start11 x lm f r = if crossB x lm (f, r) then 5 else 0 by unfold start11; rw [if_pos h0]] at H3
      rw [show start11 x lm tf tr = if crossB x lm (tf, tr) then 5 else 0 by unfold start11; rw [if_pos h1]] at H4
      have HOKA := Go.Lib.hid (fun h => okG_of (x := x) (lm := lm) hg h)
      have HOKT := Go.Lib.hid (fun h => okG_of (x := x) (lm := lm) hg2 h)
      have e1 : IntKind.i64.wrap (tf * 12) = tf * 12 := IntWalk.i64_in _ (by omega)
      have e2 : IntKind.i64.wrap (tf * 12 + tr) = tf * 12 + tr := IntWalk.i64_in _ (by omega)
      rw [h0] at H1
      rw [h1] at H2
      clear h0 h1 ht hg hg2 hgb
      by_cases hc : (crossB x lm (f, r) || crossB x lm (tf, tr)) = true
      case pos =>
        have HV := Go.Lib.hid (show shortR x lm f r tf tr = ([], 5) from HV0.out.trans (if_pos hc))
        have HMX := Go.Lib.hid (show max (if crossB x lm (f, r) = true then 5 else 0) (if crossB x lm (tf, tr) = true then (5 : Int) else 0) = 5 by
          rw [Bool.or_eq_true] at hc
          rcases hc with h | h
          · rw [if_pos h]; split <;> omega
          · rw [if_pos h]; split <;> omega)
        clear hc HV0 HOKA HOKT
        generalize (if crossB x lm (f, r) = true then (5 : Int) else 0) = s1 at *
        generalize (if crossB x lm (tf, tr) = true then (5 : Int) else 0) = s2 at *
        have em : max s1 s2 = 5 := HMX.out
        unfold trainV at *
        go_enter Try.func17, Try.ntmps17
        go_upto_region 1 with fail
        refine wp_gen (R := fun W => Box W w.heap.size (trainC x A c B d) ∧ Below w.heap.size w W) ⟨HX.out, HXB.out⟩ ?_
        rintro W ⟨hx, hb⟩
        have HX1 := Go.Lib.hid hx
        have HB1 := Go.Lib.hid hb
        have HT1 := Go.Lib.hid (HT.out.below hb)
        clear hx hb HX HXB
        have hc0 : W.cell? ⟨w.heap.size, 0, none⟩ = some (.slice A x.f.length c) := HX1.out.at_ 0 _ rfl
        have hc1 : W.cell? ⟨w.heap.size, 1, none⟩ = some (.slice B x.r.length d) := HX1.out.at_ 1 _ rfl
        have hc2 : W.cell? ⟨w.heap.size, 2, none⟩ = some (.int .i64 x.n) := HX1.out.at_ 2 _ rfl
        go_wp2_with fail
        refine (H1.out _ HT1.out).mono ?_
        rintro _ w2 ⟨rfl, b2⟩
        have HX2 := Go.Lib.hid (HX1.out.below b2)
        have HB2 := Go.Lib.hid (upB HB1.out b2)
        have HT2 := Go.Lib.hid (HT1.out.below b2)
        clear b2
        clear hc0 hc1 hc2
        have hc0 : w2.cell? ⟨w.heap.size, 0, none⟩ = some (.slice A x.f.length c) := HX2.out.at_ 0 _ rfl
        have hc1 : w2.cell? ⟨w.heap.size, 1, none⟩ = some (.slice B x.r.length d) := HX2.out.at_ 1 _ rfl
        have hc2 : w2.cell? ⟨w.heap.size, 2, none⟩ = some (.int .i64 x.n) := HX2.out.at_ 2 _ rfl
        go_wp2_with fail
        refine (H2.out _ HT2.out).mono ?_
        rintro _ w3 ⟨rfl, b3⟩
        have HX3 := Go.Lib.hid (HX2.out.below b3)
        have HB3 := Go.Lib.hid (upB HB2.out b3)
        have HT3 := Go.Lib.hid (HT2.out.below b3)
        clear b3
        clear hc0 hc1 hc2
        have hc0 : w3.cell? ⟨w.heap.size, 0, none⟩ = some (.slice A x.f.length c) := HX3.out.at_ 0 _ rfl
        have hc1 : w3.cell? ⟨w.heap.size, 1, none⟩ = some (.slice B x.r.length d) := HX3.out.at_ 1 _ rfl
        have hc2 : w3.cell? ⟨w.heap.size, 2, none⟩ = some (.int .i64 x.n) := HX3.out.at_ 2 _ rfl
        have hlb4 : w.heap.size < w3.drew.heap.size := HX3.out.drew.lt
        have HTD := Go.Lib.hid (show TrL x A c B d w3.drew from ⟨HT3.out.f.drewN 1, HT3.out.r.drewN 1⟩)
        go_upto_region 5 with fail
        refine wp_region_held_drew (S := fun w' => w'.cell? ⟨w.heap.size, 0, none⟩ = some (.slice A x.f.length c) ∧ w'.cell? ⟨w.heap.size, 1, none⟩ = some (.slice B x.r.length d) ∧ w'.cell? ⟨w.heap.size, 2, none⟩ = some (.int .i64 x.n)) (by kernel_rfl) (by exact ⟨hc0, hc1, hc2⟩) (fun hHeld => ?_)
        refine wpAnyH_take (i := 0) (v := ?vsa1) rfl (by kernel_rfl) (by kernel_rfl) (by kernel_rfl) (fun _ _ _ h => h) (Or.inl ⟨by rfl, ?hysa1⟩) (by assumption) ?restsa1
        case hysa1 => (intro w hSw; (try dsimp only at hSw); go_simp; try with_reducible rfl)
        try simp only [List.getElem_toArray, List.getElem_cons_succ, List.getElem_cons_zero, Act.put, List.setIfInBounds_toArray, List.set_cons_zero, List.set_cons_succ]
        refine wpAnyH_take (i := 1) (v := ?vsa2) rfl (by kernel_rfl) (by kernel_rfl) (by kernel_rfl) (fun _ _ _ h => h) (Or.inl ⟨by rfl, ?hysa2⟩) (by assumption) ?restsa2
        case hysa2 => (intro w hSw; (try dsimp only at hSw); go_simp; try with_reducible rfl)
        try simp only [List.getElem_toArray, List.getElem_cons_succ, List.getElem_cons_zero, Act.put, List.setIfInBounds_toArray, List.set_cons_zero, List.set_cons_succ]
        refine wpAnyH_take (i := 2) (v := ?vsa3) rfl (by kernel_rfl) (by kernel_rfl) (by kernel_rfl) (fun _ _ _ h => h) (Or.inl ⟨by rfl, ?hysa3⟩) (by assumption) ?restsa3
        case hysa3 => (intro w hSw; (try dsimp only at hSw); go_simp; try with_reducible rfl)
        try simp only [List.getElem_toArray, List.getElem_cons_succ, List.getElem_cons_zero, Act.put, List.setIfInBounds_toArray, List.set_cons_zero, List.set_cons_succ]
        refine wpAnyH_take (i := 3) (v := ?vsa4) rfl (by kernel_rfl) (by kernel_rfl) (by kernel_rfl) (fun _ _ _ h => h) (Or.inl ⟨by rfl, ?hysa4⟩) (by assumption) ?restsa4
        case hysa4 => (intro w hSw; (try dsimp only at hSw); go_simp; try with_reducible rfl)
        try simp only [List.getElem_toArray, List.getElem_cons_succ, List.getElem_cons_zero, Act.put, List.setIfInBounds_toArray, List.set_cons_zero, List.set_cons_succ]
        refine wpAnyH_take (i := 5) (v := ?vsa5) rfl (by kernel_rfl) (by kernel_rfl) (by kernel_rfl) (fun _ _ _ h => h) (Or.inl ⟨by rfl, ?hysa5⟩) (by assumption) ?restsa5
        case hysa5 => (intro w hSw; (try dsimp only at hSw); go_simp; try with_reducible rfl)
        try simp only [List.getElem_toArray, List.getElem_cons_succ, List.getElem_cons_zero, Act.put, List.setIfInBounds_toArray, List.set_cons_zero, List.set_cons_succ]
        refine wpAnyH_take (i := 6) (v := ?vsa6) rfl (by kernel_rfl) (by kernel_rfl) (by kernel_rfl) (fun _ _ _ h => h) (Or.inl ⟨by rfl, ?hysa6⟩) (by assumption) ?restsa6
        case hysa6 => (intro w hSw; (try dsimp only at hSw); go_simp; try with_reducible rfl)
        try simp only [List.getElem_toArray, List.getElem_cons_succ, List.getElem_cons_zero, Act.put, List.setIfInBounds_toArray, List.set_cons_zero, List.set_cons_succ]
        refine wpAnyH_take (i := 7) (v := ?vsa7) rfl (by kernel_rfl) (by kernel_rfl) (by kernel_rfl) (fun _ _ _ h => h) (Or.inl ⟨by rfl, ?hysa7⟩) (by assumption) ?restsa7
        case hysa7 => (intro w hSw; (try dsimp only at hSw); go_simp; try with_reducible rfl)
        try simp only [List.getElem_toArray, List.getElem_cons_succ, List.getElem_cons_zero, Act.put, List.setIfInBounds_toArray, List.set_cons_zero, List.set_cons_succ]
        refine wpAnyH_take (i := 8) (v := ?vsa8) rfl (by kernel_rfl) (by kernel_rfl) (by kernel_rfl) (fun _ _ _ h => h) (Or.inl ⟨by rfl, ?hysa8⟩) (by assumption) ?restsa8
        case hysa8 => (intro w hSw; (try dsimp only at hSw); go_simp; try with_reducible rfl)
        try simp only [List.getElem_toArray, List.getElem_cons_succ, List.getElem_cons_zero, Act.put, List.setIfInBounds_toArray, List.set_cons_zero, List.set_cons_succ]
        refine wpAnyH_ready (rs := [4]) (by kernel_rfl) (by simp) ?_
        refine AllReadyH.cons rfl (fun K hK => ?_) AllReadyH.nil
        go_simp
        (go_at_call 58; refine (H3.out _ HTD.out).mono ?_; rintro _ w4 ⟨rfl, b4⟩)
        refine hK.out _ _ ?_ (fun hHeld => ?_)
        · exact ⟨(b4.cell (p := ⟨w.heap.size, 0, none⟩) hlb4).trans hHeld.1, (b4.cell (p := ⟨w.heap.size, 1, none⟩) hlb4).trans hHeld.2.1, (b4.cell (p := ⟨w.heap.size, 2, none⟩) hlb4).trans hHeld.2.2⟩
        clear hK K
        try simp only [List.getElem_toArray, List.getElem_cons_succ, List.getElem_cons_zero, Act.put, List.setIfInBounds_toArray, List.set_cons_zero, List.set_cons_succ]
        refine wpAnyH_ready (rs := [9]) (by kernel_rfl) (by simp) ?_
        refine AllReadyH.cons rfl (fun K hK => ?_) AllReadyH.nil
        have HT4 := Go.Lib.hid (HTD.out.below b4)
        have hlb5 : w.heap.size < w4.heap.size := Nat.lt_of_lt_of_le hlb4 b4.size
        go_simp
        (go_at_call 58; refine (H4.out _ HT4.out).mono ?_; rintro _ w5 ⟨rfl, b5⟩)
        refine hK.out _ _ ?_ (fun hHeld => ?_)
        · exact ⟨(b5.cell (p := ⟨w.heap.size, 0, none⟩) hlb5).trans hHeld.1, (b5.cell (p := ⟨w.heap.size, 1, none⟩) hlb5).trans hHeld.2.1, (b5.cell (p := ⟨w.heap.size, 2, none⟩) hlb5).trans hHeld.2.2⟩
        clear hK K
        try simp only [List.getElem_toArray, List.getElem_cons_succ, List.getElem_cons_zero, Act.put, List.setIfInBounds_toArray, List.set_cons_zero, List.set_cons_succ]
        refine wpAnyH_take (i := 10) (v := ?vsa9) rfl (by kernel_rfl) (by kernel_rfl) (by kernel_rfl) (fun _ _ _ h => h) (Or.inl ⟨by rfl, ?hysa9⟩) (by assumption) ?restsa9
        case hysa9 => (intro w hSw; (try dsimp only at hSw); go_simp; try with_reducible rfl)
        try simp only [List.getElem_toArray, List.getElem_cons_succ, List.getElem_cons_zero, Act.put, List.setIfInBounds_toArray, List.set_cons_zero, List.set_cons_succ]
        refine wpAnyH_take (i := 11) (v := ?vsa10) rfl (by kernel_rfl) (by kernel_rfl) (by kernel_rfl) (fun _ _ _ h => h) (Or.inl ⟨by rfl, ?hysa10⟩) (by assumption) ?restsa10
        case hysa10 => (intro w hSw; (try dsimp only at hSw); go_simp; try with_reducible rfl)
        try simp only [List.getElem_toArray, List.getElem_cons_succ, List.getElem_cons_zero, Act.put, List.setIfInBounds_toArray, List.set_cons_zero, List.set_cons_succ]
        refine wpAnyH_done (by kernel_rfl) ?_ _
        have HX5 := Go.Lib.hid (HX3.out.drew.below (b4.trans (b5.mono b4.size)))
        have HB5 := Go.Lib.hid (HB3.out.drew.trans ((b4.trans (b5.mono b4.size)).mono HB3.out.drew.size))
        have HT5 := Go.Lib.hid (HT4.out.below b5)
        clear b4 b5 hc0 hc1 hc2 hHeld
        go_wp2_with fail
        go_ret2
        exact GivesLN.nil HV.out HB5.out
      case neg =>
        rw [Bool.not_eq_true, Bool.or_eq_false_iff] at hc
        have HV := Go.Lib.hid (show shortR x lm f r tf tr = wayOf (bfEnd x lm (f, r)) (tf, tr) by rw [HV0.out, hc.1, hc.2]; rfl)
        rw [hc.1, if_neg (by simp)] at H3
        rw [hc.2, if_neg (by simp)] at H4
        have HOK1 := Go.Lib.hid (HOKA.out hc.1)
        have HOK2 := Go.Lib.hid (HOKT.out hc.2)
        have HW := Go.Lib.hid (fun w0 T0 => specWays x A c B d lm f r w0 T0 HTR.out HLM.out HOK1.out)
        have HBE := Go.Lib.hid (bfEnd_ok HTR.out HOK1.out)
        have hfew := bf_few HTR.out HBE.out
        have h36 := ordI_few HTR.out
        have HNL := Go.Lib.hid (nums_len (bfEnd x lm (f, r)))
        have em : max (0 : Int) 0 = 0 := by decide
        clear hc HV0 HOKA HOKT HOK1
        have hl36 : (bfEnd x lm (f, r)).seen.length ≤ 36 := by omega
        clear hfew h36
        generalize bfEnd x lm (f, r) = be at *
        unfold trainV at *
        go_enter Try.func17, Try.ntmps17
        go_upto_region 1 with fail
        refine wp_gen (R := fun W => Box W w.heap.size (trainC x A c B d) ∧ Below w.heap.size w W) ⟨HX.out, HXB.out⟩ ?_
        rintro W ⟨hx, hb⟩
        have HX1 := Go.Lib.hid hx
        have HB1 := Go.Lib.hid hb
        have HT1 := Go.Lib.hid (HT.out.below hb)
        clear hx hb HX HXB
        have hc0 : W.cell? ⟨w.heap.size, 0, none⟩ = some (.slice A x.f.length c) := HX1.out.at_ 0 _ rfl
        have hc1 : W.cell? ⟨w.heap.size, 1, none⟩ = some (.slice B x.r.length d) := HX1.out.at_ 1 _ rfl
        have hc2 : W.cell? ⟨w.heap.size, 2, none⟩ = some (.int .i64 x.n) := HX1.out.at_ 2 _ rfl
        go_wp2_with fail
        refine (H1.out _ HT1.out).mono ?_
        rintro _ w2 ⟨rfl, b2⟩
        have HX2 := Go.Lib.hid (HX1.out.below b2)
        have HB2 := Go.Lib.hid (upB HB1.out b2)
        have HT2 := Go.Lib.hid (HT1.out.below b2)
        clear b2
        clear hc0 hc1 hc2
        have hc0 : w2.cell? ⟨w.heap.size, 0, none⟩ = some (.slice A x.f.length c) := HX2.out.at_ 0 _ rfl
        have hc1 : w2.cell? ⟨w.heap.size, 1, none⟩ = some (.slice B x.r.length d) := HX2.out.at_ 1 _ rfl
        have hc2 : w2.cell? ⟨w.heap.size, 2, none⟩ = some (.int .i64 x.n) := HX2.out.at_ 2 _ rfl
        go_wp2_with fail
        refine (H2.out _ HT2.out).mono ?_
        rintro _ w3 ⟨rfl, b3⟩
        have HX3 := Go.Lib.hid (HX2.out.below b3)
        have HB3 := Go.Lib.hid (upB HB2.out b3)
        have HT3 := Go.Lib.hid (HT2.out.below b3)
        clear b3
        clear hc0 hc1 hc2
        have hc0 : w3.cell? ⟨w.heap.size, 0, none⟩ = some (.slice A x.f.length c) := HX3.out.at_ 0 _ rfl
        have hc1 : w3.cell? ⟨w.heap.size, 1, none⟩ = some (.slice B x.r.length d) := HX3.out.at_ 1 _ rfl
        have hc2 : w3.cell? ⟨w.heap.size, 2, none⟩ = some (.int .i64 x.n) := HX3.out.at_ 2 _ rfl
        have hlb4 : w.heap.size < w3.drew.heap.size := HX3.out.drew.lt
        have HTD := Go.Lib.hid (show TrL x A c B d w3.drew from ⟨HT3.out.f.drewN 1, HT3.out.r.drewN 1⟩)
        go_upto_region 5 with fail
        refine wp_region_held_drew (S := fun w' => w'.cell? ⟨w.heap.size, 0, none⟩ = some (.slice A x.f.length c) ∧ w'.cell? ⟨w.heap.size, 1, none⟩ = some (.slice B x.r.length d) ∧ w'.cell? ⟨w.heap.size, 2, none⟩ = some (.int .i64 x.n)) (by kernel_rfl) (by exact ⟨hc0, hc1, hc2⟩) (fun hHeld => ?_)
        refine wpAnyH_take (i := 0) (v := ?vsb1) rfl (by kernel_rfl) (by kernel_rfl) (by kernel_rfl) (fun _ _ _ h => h) (Or.inl ⟨by rfl, ?hysb1⟩) (by assumption) ?restsb1
        case hysb1 => (intro w hSw; (try dsimp only at hSw); go_simp; try with_reducible rfl)
        try simp only [List.getElem_toArray, List.getElem_cons_succ, List.getElem_cons_zero, Act.put, List.setIfInBounds_toArray, List.set_cons_zero, List.set_cons_succ]
        refine wpAnyH_take (i := 1) (v := ?vsb2) rfl (by kernel_rfl) (by kernel_rfl) (by kernel_rfl) (fun _ _ _ h => h) (Or.inl ⟨by rfl, ?hysb2⟩) (by assumption) ?restsb2
        case hysb2 => (intro w hSw; (try dsimp only at hSw); go_simp; try with_reducible rfl)
        try simp only [List.getElem_toArray, List.getElem_cons_succ, List.getElem_cons_zero, Act.put, List.setIfInBounds_toArray, List.set_cons_zero, List.set_cons_succ]
        refine wpAnyH_take (i := 2) (v := ?vsb3) rfl (by kernel_rfl) (by kernel_rfl) (by kernel_rfl) (fun _ _ _ h => h) (Or.inl ⟨by rfl, ?hysb3⟩) (by assumption) ?restsb3
        case hysb3 => (intro w hSw; (try dsimp only at hSw); go_simp; try with_reducible rfl)
        try simp only [List.getElem_toArray, List.getElem_cons_succ, List.getElem_cons_zero, Act.put, List.setIfInBounds_toArray, List.set_cons_zero, List.set_cons_succ]
        refine wpAnyH_take (i := 3) (v := ?vsb4) rfl (by kernel_rfl) (by kernel_rfl) (by kernel_rfl) (fun _ _ _ h => h) (Or.inl ⟨by rfl, ?hysb4⟩) (by assumption) ?restsb4
        case hysb4 => (intro w hSw; (try dsimp only at hSw); go_simp; try with_reducible rfl)
        try simp only [List.getElem_toArray, List.getElem_cons_succ, List.getElem_cons_zero, Act.put, List.setIfInBounds_toArray, List.set_cons_zero, List.set_cons_succ]
        refine wpAnyH_take (i := 5) (v := ?vsb5) rfl (by kernel_rfl) (by kernel_rfl) (by kernel_rfl) (fun _ _ _ h => h) (Or.inl ⟨by rfl, ?hysb5⟩) (by assumption) ?restsb5
        case hysb5 => (intro w hSw; (try dsimp only at hSw); go_simp; try with_reducible rfl)
        try simp only [List.getElem_toArray, List.getElem_cons_succ, List.getElem_cons_zero, Act.put, List.setIfInBounds_toArray, List.set_cons_zero, List.set_cons_succ]
        refine wpAnyH_take (i := 6) (v := ?vsb6) rfl (by kernel_rfl) (by kernel_rfl) (by kernel_rfl) (fun _ _ _ h => h) (Or.inl ⟨by rfl, ?hysb6⟩) (by assumption) ?restsb6
        case hysb6 => (intro w hSw; (try dsimp only at hSw); go_simp; try with_reducible rfl)
        try simp only [List.getElem_toArray, List.getElem_cons_succ, List.getElem_cons_zero, Act.put, List.setIfInBounds_toArray, List.set_cons_zero, List.set_cons_succ]
        refine wpAnyH_take (i := 7) (v := ?vsb7) rfl (by kernel_rfl) (by kernel_rfl) (by kernel_rfl) (fun _ _ _ h => h) (Or.inl ⟨by rfl, ?hysb7⟩) (by assumption) ?restsb7
        case hysb7 => (intro w hSw; (try dsimp only at hSw); go_simp; try with_reducible rfl)
        try simp only [List.getElem_toArray, List.getElem_cons_succ, List.getElem_cons_zero, Act.put, List.setIfInBounds_toArray, List.set_cons_zero, List.set_cons_succ]
        refine wpAnyH_take (i := 8) (v := ?vsb8) rfl (by kernel_rfl) (by kernel_rfl) (by kernel_rfl) (fun _ _ _ h => h) (Or.inl ⟨by rfl, ?hysb8⟩) (by assumption) ?restsb8
        case hysb8 => (intro w hSw; (try dsimp only at hSw); go_simp; try with_reducible rfl)
        try simp only [List.getElem_toArray, List.getElem_cons_succ, List.getElem_cons_zero, Act.put, List.setIfInBounds_toArray, List.set_cons_zero, List.set_cons_succ]
        refine wpAnyH_ready (rs := [4]) (by kernel_rfl) (by simp) ?_
        refine AllReadyH.cons rfl (fun K hK => ?_) AllReadyH.nil
        go_simp
        (go_at_call 58; refine (H3.out _ HTD.out).mono ?_; rintro _ w4 ⟨rfl, b4⟩)
        refine hK.out _ _ ?_ (fun hHeld => ?_)
        · exact ⟨(b4.cell (p := ⟨w.heap.size, 0, none⟩) hlb4).trans hHeld.1, (b4.cell (p := ⟨w.heap.size, 1, none⟩) hlb4).trans hHeld.2.1, (b4.cell (p := ⟨w.heap.size, 2, none⟩) hlb4).trans hHeld.2.2⟩
        clear hK K
        try simp only [List.getElem_toArray, List.getElem_cons_succ, List.getElem_cons_zero, Act.put, List.setIfInBounds_toArray, List.set_cons_zero, List.set_cons_succ]
        refine wpAnyH_ready (rs := [9]) (by kernel_rfl) (by simp) ?_
        refine AllReadyH.cons rfl (fun K hK => ?_) AllReadyH.nil
        have HT4 := Go.Lib.hid (HTD.out.below b4)
        have hlb5 : w.heap.size < w4.heap.size := Nat.lt_of_lt_of_le hlb4 b4.size
        go_simp
        (go_at_call 58; refine (H4.out _ HT4.out).mono ?_; rintro _ w5 ⟨rfl, b5⟩)
        refine hK.out _ _ ?_ (fun hHeld => ?_)
        · exact ⟨(b5.cell (p := ⟨w.heap.size, 0, none⟩) hlb5).trans hHeld.1, (b5.cell (p := ⟨w.heap.size, 1, none⟩) hlb5).trans hHeld.2.1, (b5.cell (p := ⟨w.heap.size, 2, none⟩) hlb5).trans hHeld.2.2⟩
        clear hK K
        try simp only [List.getElem_toArray, List.getElem_cons_succ, List.getElem_cons_zero, Act.put, List.setIfInBounds_toArray, List.set_cons_zero, List.set_cons_succ]
        refine wpAnyH_take (i := 10) (v := ?vsb9) rfl (by kernel_rfl) (by kernel_rfl) (by kernel_rfl) (fun _ _ _ h => h) (Or.inl ⟨by rfl, ?hysb9⟩) (by assumption) ?restsb9
        case hysb9 => (intro w hSw; (try dsimp only at hSw); go_simp; try with_reducible rfl)
        try simp only [List.getElem_toArray, List.getElem_cons_succ, List.getElem_cons_zero, Act.put, List.setIfInBounds_toArray, List.set_cons_zero, List.set_cons_succ]
        refine wpAnyH_take (i := 11) (v := ?vsb10) rfl (by kernel_rfl) (by kernel_rfl) (by kernel_rfl) (fun _ _ _ h => h) (Or.inl ⟨by rfl, ?hysb10⟩) (by assumption) ?restsb10
        case hysb10 => (intro w hSw; (try dsimp only at hSw); go_simp; try with_reducible rfl)
        try simp only [List.getElem_toArray, List.getElem_cons_succ, List.getElem_cons_zero, Act.put, List.setIfInBounds_toArray, List.set_cons_zero, List.set_cons_succ]
        refine wpAnyH_done (by kernel_rfl) ?_ _
        have HX5 := Go.Lib.hid (HX3.out.drew.below (b4.trans (b5.mono b4.size)))
        have HB5 := Go.Lib.hid (HB3.out.drew.trans ((b4.trans (b5.mono b4.size)).mono HB3.out.drew.size))
        have HT5 := Go.Lib.hid (HT4.out.below b5)
        clear b4 b5 hc0 hc1 hc2 hHeld
        have hc0 : w5.cell? ⟨w.heap.size, 0, none⟩ = some (.slice A x.f.length c) := HX5.out.at_ 0 _ rfl
        have hc1 : w5.cell? ⟨w.heap.size, 1, none⟩ = some (.slice B x.r.length d) := HX5.out.at_ 1 _ rfl
        have hc2 : w5.cell? ⟨w.heap.size, 2, none⟩ = some (.int .i64 x.n) := HX5.out.at_ 2 _ rfl
        go_wp2_with fail
        refine (HW.out _ HT5.out).mono ?_
        rintro _ w6 ⟨base, bs, cs, vs, vw, rfl, hbs, hs, b6⟩
        have HB6 := Go.Lib.hid (upB HB5.out b6)
        have HS := Go.Lib.hid hs
        have HBS := Go.Lib.hid (Nat.le_trans HB5.out.size hbs)
        obtain ⟨As, caps, rfl, -⟩ := row_ow hs.sn
        obtain ⟨Aw, capw, rfl, -⟩ := row_ow hs.wy
        have HWL := Go.Lib.hid HBE.out.len
        clear hs b6 hbs hc0 hc1 hc2
        go_wp2_with fail
        go_loopw [17] (fun i wr => ∃ k : Nat, k ≤ be.seen.length ∧ i = .int .i64 k ∧ wr = w6 ∧ ∀ j, j < k → be.s j ≠ (tf, tr)) (fun i _ => be.seen.length - (intOf i).toNat)
        case atStart => exact ⟨0, Nat.zero_le _, rfl, rfl, fun j h => absurd h (by omega)⟩
        case round =>
          obtain ⟨k, hk, rfl, hw, hno⟩ := hrel
          have hw2 := hw.symm
          clear hw
          subst hw2
          have HNO := Go.Lib.hid hno
          clear hno
          by_cases hlt : k < be.seen.length
          case neg =>
            obtain rfl : k = be.seen.length := by omega
            have HV2 := Go.Lib.hid (HV.out.trans (wayOf_no HNO.out))
            have hkl : ¬ (be.seen.length : Int) < (nums be).length := by rw [HNL.out]; omega
            go_wp2_with fail
            go_ret2
            exact GivesLN.nil HV2.out HB6.out
          case pos =>
            have hkl : (k : Int) < (nums be).length := by rw [HNL.out]; omega
            have hokk := HBE.out.ok _ (s_mem hlt)
            have hsn := HS.out.sn
            obtain ⟨As2, caps2, e5, hos⟩ := row_ow hsn
            injection e5 with e5 _ e6
            subst e5
            subst e6
            obtain ⟨gs, rfl, -, -, -⟩ := hos.form (by rw [HNL.out]; omega)
            have hcell : w6.cell? ⟨gs, k, none⟩ = some (.int .i64 (numG (be.s k))) := (hos.cell (by rw [HNL.out]; exact hlt)).trans ((ints_at (nums be) k (by rw [HNL.out]; exact hlt)).trans (by rw [nums_at hlt]))
            clear hos hsn
            by_cases hq : be.s k = (tf, tr)
            case pos =>
              have HV2 := Go.Lib.hid (show shortR x lm f r tf tr = (be.w k, 0) by rw [HV.out, ← hq]; exact wayOf_at HBE.out.nd hlt)
              have hqb : (numG (be.s k) == tf * 12 + tr) = true := by rw [hq]; simp [numG]
              have hkw : k < be.ways.length := by rw [HWL.out]; exact hlt
              have hbw : be.ways.length ≤ 36 := by rw [HWL.out]; exact hl36
              have hkwi : (k : Int) < be.ways.length := by omega
              obtain ⟨Aw2, capw2, e7, how⟩ := row_ow HS.out.wy
              injection e7 with e7 _ e8
              subst e7
              subst e8
              obtain ⟨gw, rfl, -, -, -⟩ := how.form (by omega)
              obtain ⟨wk, hwk⟩ : ∃ wk, wk = be.w k := ⟨_, rfl⟩
              obtain ⟨qk, hqk⟩ : ∃ qk, qk = bs.getD k 0 := ⟨_, rfl⟩
              obtain ⟨ck, hck⟩ : ∃ ck, ck = cs.getD k 0 := ⟨_, rfl⟩
              have hcw : w6.cell? ⟨gw, k, none⟩ = some (.slice (some ⟨qk, 0, none⟩) wk.length ck) := by rw [hwk, hqk, hck]; exact (HS.out.wy.cellAt k (by omega)).trans (rowsW_at hkw)
              have HRK := Go.Lib.hid (show w6.ownsRow base 2 1 (.slice (some ⟨qk, 0, none⟩) wk.length ck) wk.length (ints wk) by rw [hwk, hqk, hck]; exact HS.out.rows k hkw)
              rw [← hwk] at HV2
              clear how hwk hqk hck hq hokk
              generalize numG (be.s k) = np at *
              go_wp2_with fail
              go_ret2
              rw [HV2.out]
              exact ⟨_, _, rfl, ⟨own_lower HRK.out HBS.out, fun g hg => (HRK.out.lt g hg).2⟩, HB6.out⟩
            case neg =>
              have HN2 := Go.Lib.hid (show ∀ j, j < k + 1 → be.s j ≠ (tf, tr) from fun j hj => by
                rcases Nat.lt_or_ge j k with h | h
                · exact HNO.out j h
                · obtain rfl : j = k := by omega
                  exact hq)
              have hqb : (numG (be.s k) == tf * 12 + tr) = false := by
                rw [← Bool.not_eq_true]
                intro e
                have e2 : numG (be.s k) = numG (tf, tr) := by simpa [numG] using e
                exact hq (num_inj HTR.out hokk HOK2.out e2)
              clear hq hokk
              generalize numG (be.s k) = np at *
              go_wp2_with fail
              go_roundw
              case rel => exact ⟨k + 1, by omega, by go_num, by first | rfl | trivial, HN2.out⟩
              case measure => simp [intOf]; omega
end Go.Proofs.Ythedanpldebjcaa
