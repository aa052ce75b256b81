/- The model: chains for trains, capacities, slacks. -/
import Derived.Test.YtilepehlmjohbaaChainS1
import Derived.Test.YtilepehlmjohbaaGearS3
import Derived.Test.YtilepehlmjohbaaMgSlacks1
namespace Go.Proofs.Ytilepehlmjohbaa
open Go.RowKit
set_option linter.unusedSimpArgs false
set_option linter.unusedVariables false

/-- The code of a train, a stay and links. -/
def trcI (x : Trn) (s l : Int) : Int := if trainB x then if stayB s && linksB l then 0 else 2 else 1
set_option maxRecDepth 100000 in
set_option maxHeartbeats 4000000 in
theorem specTrainC (x : Trn) (A : Option Addr) (c : Nat) (B : Option Addr) (d : Nat) (s l : Int) (w : World) (T : TrL x A c B d w) :
    Calls Try.prog 66 #[trainV x A c B d, .int .i64 s, .int .i64 l] w (IsV w (.int .i64 (trcI x s l))) := by
  have HT := Go.Lib.hid T
  have HX := Go.Lib.hid (boxT_box x A c B d w)
  have HXB := Go.Lib.hid (boxT_below x A c B d w)
  clear T
  have H1 := Go.Lib.hid (fun w0 T0 => specTrain x A c B d w0 T0)
  have H2 := Go.Lib.hid (fun w0 => specStay s w0)
  have H3 := Go.Lib.hid (fun w0 => specLinks l w0)
  have HV := Go.Lib.hid (show trcI x s l = if trainB x then if stayB s && linksB l then 0 else 2 else 1 from rfl)
  generalize trainB x = tb at *
  generalize stayB s = sb at *
  generalize linksB l = lb at *
  cases tb
  case false =>
    unfold trainV at *
    go_enter Try.func66, Try.ntmps66
    go_upto_region 1 with fail
    refine wp_gen (R := fun W => Box W w.heap.size (trainC x A c B d) ∧ Below w.heap.size w W) ⟨HX.out, HXB.out⟩ ?_
    rintro W ⟨hx, hb⟩
    have HX1 := Go.Lib.hid hx
    have HB1 := Go.Lib.hid hb
    have HT1 := Go.Lib.hid (HT.out.below hb)
    clear hx hb HX HXB
    have hc0 : W.cell? ⟨w.heap.size, 0, none⟩ = some (.slice A x.f.length c) := HX1.out.at_ 0 _ rfl
    have hc1 : W.cell? ⟨w.heap.size, 1, none⟩ = some (.slice B x.r.length d) := HX1.out.at_ 1 _ rfl
    have hc2 : W.cell? ⟨w.heap.size, 2, none⟩ = some (.int .i64 x.n) := HX1.out.at_ 2 _ rfl
    go_wp2_with fail
    refine (H1.out _ HT1.out).mono ?_
    rintro _ w2 ⟨rfl, b2⟩
    have HX2 := Go.Lib.hid (HX1.out.below b2)
    have HB2 := Go.Lib.hid (upB HB1.out b2)
    have HT2 := Go.Lib.hid (HT1.out.below b2)
    clear b2 hc0 hc1 hc2
    go_wp2_with fail
    go_ret
    exact ⟨by rw [HV.out]; rfl, HB2.out⟩
  case true =>
    cases sb
    case false =>
      unfold trainV at *
      go_enter Try.func66, Try.ntmps66
      go_upto_region 1 with fail
      refine wp_gen (R := fun W => Box W w.heap.size (trainC x A c B d) ∧ Below w.heap.size w W) ⟨HX.out, HXB.out⟩ ?_
      rintro W ⟨hx, hb⟩
      have HX1 := Go.Lib.hid hx
      have HB1 := Go.Lib.hid hb
      have HT1 := Go.Lib.hid (HT.out.below hb)
      clear hx hb HX HXB
      have hc0 : W.cell? ⟨w.heap.size, 0, none⟩ = some (.slice A x.f.length c) := HX1.out.at_ 0 _ rfl
      have hc1 : W.cell? ⟨w.heap.size, 1, none⟩ = some (.slice B x.r.length d) := HX1.out.at_ 1 _ rfl
      have hc2 : W.cell? ⟨w.heap.size, 2, none⟩ = some (.int .i64 x.n) := HX1.out.at_ 2 _ rfl
      go_wp2_with fail
      refine (H1.out _ HT1.out).mono ?_
      rintro _ w2 ⟨rfl, b2⟩
      have HX2 := Go.Lib.hid (HX1.out.below b2)
      have HB2 := Go.Lib.hid (upB HB1.out b2)
      have HT2 := Go.Lib.hid (HT1.out.below b2)
      clear b2 hc0 hc1 hc2
      go_wp2_with fail
      refine (H2.out _).mono ?_
      rintro _ _ ⟨rfl, rfl⟩
      go_wp2_with fail
      go_ret
      exact ⟨by rw [HV.out]; rfl, HB2.out⟩
    case true =>
      cases lb
      case false =>
        unfold trainV at *
        go_enter Try.func66, Try.ntmps66
        go_upto_region 1 with fail
        refine wp_gen (R := fun W => Box W w.heap.size (trainC x A c B d) ∧ Below w.heap.size w W) ⟨HX.out, HXB.out⟩ ?_
        rintro W ⟨hx, hb⟩
        have HX1 := Go.Lib.hid hx
        have HB1 := Go.Lib.hid hb
        have HT1 := Go.Lib.hid (HT.out.below hb)
        clear hx hb HX HXB
        have hc0 : W.cell? ⟨w.heap.size, 0, none⟩ = some (.slice A x.f.length c) := HX1.out.at_ 0 _ rfl
        have hc1 : W.cell? ⟨w.heap.size, 1, none⟩ = some (.slice B x.r.length d) := HX1.out.at_ 1 _ rfl
        have hc2 : W.cell? ⟨w.heap.size, 2, none⟩ = some (.int .i64 x.n) := HX1.out.at_ 2 _ rfl
        go_wp2_with fail
        refine (H1.out _ HT1.out).mono ?_
        rintro _ w2 ⟨rfl, b2⟩
        have HX2 := Go.Lib.hid (HX1.out.below b2)
        have HB2 := Go.Lib.hid (upB HB1.out b2)
        have HT2 := Go.Lib.hid (HT1.out.below b2)
        clear b2 hc0 hc1 hc2
        go_wp2_with fail
        refine (H2.out _).mono ?_
        rintro _ _ ⟨rfl, rfl⟩
        go_wp2_with fail
        refine (H3.out _).mono ?_
        rintro _ _ ⟨rfl, rfl⟩
        go_wp2_with fail
        go_ret
        exact ⟨by rw [HV.out]; rfl, HB2.out⟩
      case true =>
        unfold trainV at *
        go_enter Try.func66, Try.ntmps66
        go_upto_region 1 with fail
        refine wp_gen (R := fun W => Box W w.heap.size (trainC x A c B d) ∧ Below w.heap.size w W) ⟨HX.out, HXB.out⟩ ?_
        rintro W ⟨hx, hb⟩
        have HX1 := Go.Lib.hid hx
        have HB1 := Go.Lib.hid hb
        have HT1 := Go.Lib.hid (HT.out.below hb)
        clear hx hb HX HXB
        have hc0 : W.cell? ⟨w.heap.size, 0, none⟩ = some (.slice A x.f.length c) := HX1.out.at_ 0 _ rfl
        have hc1 : W.cell? ⟨w.heap.size, 1, none⟩ = some (.slice B x.r.length d) := HX1.out.at_ 1 _ rfl
        have hc2 : W.cell? ⟨w.heap.size, 2, none⟩ = some (.int .i64 x.n) := HX1.out.at_ 2 _ rfl
        go_wp2_with fail
        refine (H1.out _ HT1.out).mono ?_
        rintro _ w2 ⟨rfl, b2⟩
        have HX2 := Go.Lib.hid (HX1.out.below b2)
        have HB2 := Go.Lib.hid (upB HB1.out b2)
        have HT2 := Go.Lib.hid (HT1.out.below b2)
        clear b2 hc0 hc1 hc2
        go_wp2_with fail
        refine (H2.out _).mono ?_
        rintro _ _ ⟨rfl, rfl⟩
        go_wp2_with fail
        refine (H3.out _).mono ?_
        rintro _ _ ⟨rfl, rfl⟩
        go_wp2_with fail
        go_ret
        exact ⟨by rw [HV.out]; rfl, HB2.out⟩
theorem trc_no {x : Trn} {s l : Int} (h : ¬ (trainB x = true ∧ (stayB s && linksB l) = true)) : trcI x s l = 1 ∧ trainB x = false ∨ trcI x s l = 2 ∧ trainB x = true ∧ (stayB s && linksB l) = false := by
  unfold trcI
  by_cases ht : trainB x = true
  · have h2 : ¬ (stayB s && linksB l) = true := fun e => h ⟨ht, e⟩
    rw [if_pos ht, if_neg h2]
    exact .inr ⟨rfl, ht, by simpa using h2⟩
  · rw [if_neg ht]
    exact .inl ⟨rfl, by simpa using ht⟩
theorem trc_ok {x : Trn} {s l : Int} (ht : trainB x = true) (h : (stayB s && linksB l) = true) : trcI x s l = 0 := by
  unfold trcI
  rw [if_pos ht, if_pos h]
set_option maxRecDepth 100000 in
set_option maxHeartbeats 4000000 in
theorem specCap (x : Trn) (A : Option Addr) (c : Nat) (B : Option Addr) (d : Nat) (w : World) (T : TrL x A c B d w) :
    Calls Try.prog 31 #[trainV x A c B d] w (Gives2 (capR x) w) := by
  have HT := Go.Lib.hid T
  have HX := Go.Lib.hid (boxT_box x A c B d w)
  have HXB := Go.Lib.hid (boxT_below x A c B d w)
  clear T
  have H1 := Go.Lib.hid (fun w0 T0 => specTrain x A c B d w0 T0)
  by_cases ht : trainB x = true
  case neg =>
    have HV := Go.Lib.hid (show capR x = (0, 1) by unfold capR; rw [if_neg ht])
    rw [Bool.not_eq_true] at ht
    rw [ht] at H1
    clear ht
    unfold trainV at *
    go_enter Try.func31, Try.ntmps31
    go_upto_region 1 with fail
    refine wp_gen (R := fun W => Box W w.heap.size (trainC x A c B d) ∧ Below w.heap.size w W) ⟨HX.out, HXB.out⟩ ?_
    rintro W ⟨hx, hb⟩
    have HX1 := Go.Lib.hid hx
    have HB1 := Go.Lib.hid hb
    have HT1 := Go.Lib.hid (HT.out.below hb)
    clear hx hb HX HXB
    have hc0 : W.cell? ⟨w.heap.size, 0, none⟩ = some (.slice A x.f.length c) := HX1.out.at_ 0 _ rfl
    have hc1 : W.cell? ⟨w.heap.size, 1, none⟩ = some (.slice B x.r.length d) := HX1.out.at_ 1 _ rfl
    have hc2 : W.cell? ⟨w.heap.size, 2, none⟩ = some (.int .i64 x.n) := HX1.out.at_ 2 _ rfl
    go_wp2_with fail
    refine (H1.out _ HT1.out).mono ?_
    rintro _ w2 ⟨rfl, b2⟩
    have HX2 := Go.Lib.hid (HX1.out.below b2)
    have HB2 := Go.Lib.hid (upB HB1.out b2)
    have HT2 := Go.Lib.hid (HT1.out.below b2)
    clear b2 hc0 hc1 hc2
    go_wp2_with fail
    go_ret2
    exact Gives2.of HV.out HB2.out
  case pos =>
    have HV := Go.Lib.hid (show capR x = (topF x - fI x 0 + topR x - rI x 0, 0) by unfold capR; rw [if_pos ht])
    have HTR := Go.Lib.hid (trainB_ok ht)
    rw [ht] at H1
    clear ht
    unfold trainV at *
    go_enter Try.func31, Try.ntmps31
    go_upto_region 1 with fail
    refine wp_gen (R := fun W => Box W w.heap.size (trainC x A c B d) ∧ Below w.heap.size w W) ⟨HX.out, HXB.out⟩ ?_
    rintro W ⟨hx, hb⟩
    have HX1 := Go.Lib.hid hx
    have HB1 := Go.Lib.hid hb
    have HT1 := Go.Lib.hid (HT.out.below hb)
    clear hx hb HX HXB
    have hc0 : W.cell? ⟨w.heap.size, 0, none⟩ = some (.slice A x.f.length c) := HX1.out.at_ 0 _ rfl
    have hc1 : W.cell? ⟨w.heap.size, 1, none⟩ = some (.slice B x.r.length d) := HX1.out.at_ 1 _ rfl
    have hc2 : W.cell? ⟨w.heap.size, 2, none⟩ = some (.int .i64 x.n) := HX1.out.at_ 2 _ rfl
    go_wp2_with fail
    refine (H1.out _ HT1.out).mono ?_
    rintro _ w2 ⟨rfl, b2⟩
    have HX2 := Go.Lib.hid (HX1.out.below b2)
    have HB2 := Go.Lib.hid (upB HB1.out b2)
    have HT2 := Go.Lib.hid (HT1.out.below b2)
    clear b2 hc0 hc1 hc2
    have hc0 : w2.cell? ⟨w.heap.size, 0, none⟩ = some (.slice A x.f.length c) := HX2.out.at_ 0 _ rfl
    have hc1 : w2.cell? ⟨w.heap.size, 1, none⟩ = some (.slice B x.r.length d) := HX2.out.at_ 1 _ rfl
    have hc2 : w2.cell? ⟨w.heap.size, 2, none⟩ = some (.int .i64 x.n) := HX2.out.at_ 2 _ rfl
    have hf1 := HTR.out.f.one
    have hr1 := HTR.out.r.one
    have hf3 := HTR.out.f.few
    have hr12 := HTR.out.r.few
    obtain ⟨fb, fo, hAe, -, fc⟩ := HT2.out.f.at_ (k := 0) (by omega)
    obtain ⟨rb, ro, hBe, -, rc⟩ := HT2.out.r.at_ (k := 0) (by omega)
    obtain ⟨ft, hft⟩ : ∃ t, x.f.length = t + 1 := ⟨x.f.length - 1, by omega⟩
    obtain ⟨rt, hrt⟩ : ∃ t, x.r.length = t + 1 := ⟨x.r.length - 1, by omega⟩
    have hcf0 : w2.cell? ⟨fb, fo, none⟩ = some (.int .i64 (fI x 0)) := fc 0 (by omega)
    have hcr0 : w2.cell? ⟨rb, ro, none⟩ = some (.int .i64 (rI x 0)) := rc 0 (by omega)
    have hcf1 : w2.cell? ⟨fb, fo + ft, none⟩ = some (.int .i64 (topF x)) := by unfold topF; rw [show x.f.length - 1 = ft by omega]; exact fc ft (by omega)
    have hcr1 : w2.cell? ⟨rb, ro + rt, none⟩ = some (.int .i64 (topR x)) := by unfold topR; rw [show x.r.length - 1 = rt by omega]; exact rc rt (by omega)
    have ef : IntKind.i64.wrap ((x.f.length : Int) - 1) = (ft : Int) := (IntWalk.i64_in _ (by omega)).trans (by omega)
    have er : IntKind.i64.wrap ((x.r.length : Int) - 1) = (rt : Int) := (IntWalk.i64_in _ (by omega)).trans (by omega)
    have i1 : (ft : Int) < x.f.length := by omega
    have i2 : (rt : Int) < x.r.length := by omega
    have i3 : (0 : Int) < x.f.length := by omega
    have i4 : (0 : Int) < x.r.length := by omega
    have i5 : 0 < x.f.length := by omega
    have i6 : 0 < x.r.length := by omega
    have i7 : (0 : Int) ≤ (ft : Int) := by omega
    have i8 : (0 : Int) ≤ (rt : Int) := by omega
    have hfa := HTR.out.fb (g := (0, 0)) ⟨by show 0 < x.f.length; omega, by show 0 < x.r.length; omega⟩
    have hra := HTR.out.rb (g := (0, 0)) ⟨by show 0 < x.f.length; omega, by show 0 < x.r.length; omega⟩
    have hfz := HTR.out.fb (g := (x.f.length - 1, 0)) ⟨by show x.f.length - 1 < x.f.length; omega, by show 0 < x.r.length; omega⟩
    have hrz := HTR.out.rb (g := (0, x.r.length - 1)) ⟨by show 0 < x.f.length; omega, by show x.r.length - 1 < x.r.length; omega⟩
    have hfz : 20 ≤ topF x ∧ topF x ≤ 60 := hfz
    have hrz : 9 ≤ topR x ∧ topR x ≤ 52 := hrz
    have hfa : 20 ≤ fI x 0 ∧ fI x 0 ≤ 60 := hfa
    have hra : 9 ≤ rI x 0 ∧ rI x 0 ≤ 52 := hra
    clear fc rc
    subst hAe hBe
    have e1 : IntKind.i64.wrap (topF x - fI x 0) = topF x - fI x 0 := IntWalk.i64_in _ (by omega)
    have e2 : IntKind.i64.wrap (topF x - fI x 0 + topR x) = topF x - fI x 0 + topR x := IntWalk.i64_in _ (by omega)
    have e3 : IntKind.i64.wrap (topF x - fI x 0 + topR x - rI x 0) = topF x - fI x 0 + topR x - rI x 0 := IntWalk.i64_in _ (by omega)
    have HFT := Go.Lib.hid hft
    have HRT := Go.Lib.hid hrt
    clear hft hrt hfa hra hfz hrz hf1 hr1 hf3 hr12
    generalize topF x = tf at *
    generalize topR x = tr at *
    generalize fI x 0 = f0 at *
    generalize rI x 0 = r0 at *
    have HBD := Go.Lib.hid (fun m => below_drewN HB2.out m)
    go_upto_region 3 with fail
    go_quiet (fail)
    go_wp2_with fail
    go_ret2
    exact Gives2.of HV.out (HBD.out _)
theorem lnTo_bd {need : Int} : ∀ {m : Nat} {l r : Int}, lnTo need l m = (r, 0) → l ≤ r ∧ r ≤ l + 2 * m
  | 0, l, r, h => by
    have : (4 : Int) = 0 := (Prod.mk.inj h).2
    omega
  | m + 1, l, r, h => by
    unfold lnTo at h
    split at h
    · have := (Prod.mk.inj h).1
      omega
    · have := lnTo_bd h
      omega
theorem linksR_bd {s f r l : Int} (h : linksR s f r = (l, 0)) : 40 ≤ l ∧ l ≤ 202 := by
  unfold linksR at h
  split at h
  · have := lnTo_bd h
    omega
  · have : (2 : Int) = 0 := (Prod.mk.inj h).2
    omega
set_option maxRecDepth 100000 in
set_option maxHeartbeats 4000000 in
theorem specChain (x : Trn) (A : Option Addr) (c : Nat) (B : Option Addr) (d : Nat) (s : Int) (w : World) (T : TrL x A c B d w) :
    Calls Try.prog 34 #[trainV x A c B d, .int .i64 s] w (Gives2 (chainR x s) w) := by
  have HT := Go.Lib.hid T
  have HX := Go.Lib.hid (boxT_box x A c B d w)
  have HXB := Go.Lib.hid (boxT_below x A c B d w)
  clear T
  have H1 := Go.Lib.hid (fun w0 T0 => specTrainC x A c B d s 40 w0 T0)
  have H40 := Go.Lib.hid (show (stayB s && linksB 40) = stayB s from by rw [show linksB 40 = true from rfl, Bool.and_true])
  by_cases hok : trainB x = true ∧ (stayB s && linksB 40) = true
  case neg =>
    have hz := trc_no hok
    have HV := Go.Lib.hid (show chainR x s = (0, trcI x s 40) by
      rcases hz with ⟨e, ht⟩ | ⟨e, ht, hs⟩
      · rw [e]; unfold chainR; rw [ht]; rfl
      · rw [H40.out] at hs
        rw [e]; unfold chainR; rw [ht, hs]; rfl)
    have hz0 : ¬ trcI x s 40 = 0 := by
      rcases hz with ⟨e, -⟩ | ⟨e, -⟩
      · rw [e]; decide
      · rw [e]; decide
    generalize trcI x s 40 = z at *
    have hzb : (z != 0) = true := by simpa using hz0
    clear hz hok hz0
    unfold trainV at *
    go_enter Try.func34, Try.ntmps34
    go_upto_region 1 with fail
    refine wp_gen (R := fun W => Box W w.heap.size (trainC x A c B d) ∧ Below w.heap.size w W) ⟨HX.out, HXB.out⟩ ?_
    rintro W ⟨hx, hb⟩
    have HX1 := Go.Lib.hid hx
    have HB1 := Go.Lib.hid hb
    have HT1 := Go.Lib.hid (HT.out.below hb)
    clear hx hb HX HXB
    have hc0 : W.cell? ⟨w.heap.size, 0, none⟩ = some (.slice A x.f.length c) := HX1.out.at_ 0 _ rfl
    have hc1 : W.cell? ⟨w.heap.size, 1, none⟩ = some (.slice B x.r.length d) := HX1.out.at_ 1 _ rfl
    have hc2 : W.cell? ⟨w.heap.size, 2, none⟩ = some (.int .i64 x.n) := HX1.out.at_ 2 _ rfl
    go_wp2_with fail
    refine (H1.out _ HT1.out).mono ?_
    rintro _ w2 ⟨rfl, b2⟩
    have HX2 := Go.Lib.hid (HX1.out.below b2)
    have HB2 := Go.Lib.hid (upB HB1.out b2)
    have HT2 := Go.Lib.hid (HT1.out.below b2)
    clear b2 hc0 hc1 hc2
    go_wp2_with fail
    go_ret2
    exact Gives2.of HV.out HB2.out
  case pos =>
    obtain ⟨ht, hs⟩ := hok
    have HV := Go.Lib.hid (show chainR x s = plus2 (linksR s (topF x) (topR x)) by rw [H40.out] at hs; unfold chainR; rw [if_pos ht, if_pos hs])
    have HTR := Go.Lib.hid (trainB_ok ht)
    rw [trc_ok ht hs] at H1
    clear ht hs H40
    unfold trainV at *
    go_enter Try.func34, Try.ntmps34
    go_upto_region 1 with fail
    refine wp_gen (R := fun W => Box W w.heap.size (trainC x A c B d) ∧ Below w.heap.size w W) ⟨HX.out, HXB.out⟩ ?_
    rintro W ⟨hx, hb⟩
    have HX1 := Go.Lib.hid hx
    have HB1 := Go.Lib.hid hb
    have HT1 := Go.Lib.hid (HT.out.below hb)
    clear hx hb HX HXB
    have hc0 : W.cell? ⟨w.heap.size, 0, none⟩ = some (.slice A x.f.length c) := HX1.out.at_ 0 _ rfl
    have hc1 : W.cell? ⟨w.heap.size, 1, none⟩ = some (.slice B x.r.length d) := HX1.out.at_ 1 _ rfl
    have hc2 : W.cell? ⟨w.heap.size, 2, none⟩ = some (.int .i64 x.n) := HX1.out.at_ 2 _ rfl
    go_wp2_with fail
    refine (H1.out _ HT1.out).mono ?_
    rintro _ w2 ⟨rfl, b2⟩
    have HX2 := Go.Lib.hid (HX1.out.below b2)
    have HB2 := Go.Lib.hid (upB HB1.out b2)
    have HT2 := Go.Lib.hid (HT1.out.below b2)
    clear b2 hc0 hc1 hc2
    have hc0 : w2.cell? ⟨w.heap.size, 0, none⟩ = some (.slice A x.f.length c) := HX2.out.at_ 0 _ rfl
    have hc1 : w2.cell? ⟨w.heap.size, 1, none⟩ = some (.slice B x.r.length d) := HX2.out.at_ 1 _ rfl
    have hc2 : w2.cell? ⟨w.heap.size, 2, none⟩ = some (.int .i64 x.n) := HX2.out.at_ 2 _ rfl
    have hf1 := HTR.out.f.one
    have hr1 := HTR.out.r.one
    have hf3 := HTR.out.f.few
    have hr12 := HTR.out.r.few
    obtain ⟨fb, fo, hAe, -, fc⟩ := HT2.out.f.at_ (k := 0) (by omega)
    obtain ⟨rb, ro, hBe, -, rc⟩ := HT2.out.r.at_ (k := 0) (by omega)
    obtain ⟨ft, hft⟩ : ∃ t, x.f.length = t + 1 := ⟨x.f.length - 1, by omega⟩
    obtain ⟨rt, hrt⟩ : ∃ t, x.r.length = t + 1 := ⟨x.r.length - 1, by omega⟩
    have hcf0 : w2.cell? ⟨fb, fo, none⟩ = some (.int .i64 (fI x 0)) := fc 0 (by omega)
    have hcr0 : w2.cell? ⟨rb, ro, none⟩ = some (.int .i64 (rI x 0)) := rc 0 (by omega)
    have hcf1 : w2.cell? ⟨fb, fo + ft, none⟩ = some (.int .i64 (topF x)) := by unfold topF; rw [show x.f.length - 1 = ft by omega]; exact fc ft (by omega)
    have hcr1 : w2.cell? ⟨rb, ro + rt, none⟩ = some (.int .i64 (topR x)) := by unfold topR; rw [show x.r.length - 1 = rt by omega]; exact rc rt (by omega)
    have ef : IntKind.i64.wrap ((x.f.length : Int) - 1) = (ft : Int) := (IntWalk.i64_in _ (by omega)).trans (by omega)
    have er : IntKind.i64.wrap ((x.r.length : Int) - 1) = (rt : Int) := (IntWalk.i64_in _ (by omega)).trans (by omega)
    have i1 : (ft : Int) < x.f.length := by omega
    have i2 : (rt : Int) < x.r.length := by omega
    have i3 : (0 : Int) < x.f.length := by omega
    have i4 : (0 : Int) < x.r.length := by omega
    have i5 : 0 < x.f.length := by omega
    have i6 : 0 < x.r.length := by omega
    have i7 : (0 : Int) ≤ (ft : Int) := by omega
    have i8 : (0 : Int) ≤ (rt : Int) := by omega
    have hfa := HTR.out.fb (g := (0, 0)) ⟨by show 0 < x.f.length; omega, by show 0 < x.r.length; omega⟩
    have hra := HTR.out.rb (g := (0, 0)) ⟨by show 0 < x.f.length; omega, by show 0 < x.r.length; omega⟩
    have hfz := HTR.out.fb (g := (x.f.length - 1, 0)) ⟨by show x.f.length - 1 < x.f.length; omega, by show 0 < x.r.length; omega⟩
    have hrz := HTR.out.rb (g := (0, x.r.length - 1)) ⟨by show 0 < x.f.length; omega, by show x.r.length - 1 < x.r.length; omega⟩
    have hfz : 20 ≤ topF x ∧ topF x ≤ 60 := hfz
    have hrz : 9 ≤ topR x ∧ topR x ≤ 52 := hrz
    have hfa : 20 ≤ fI x 0 ∧ fI x 0 ≤ 60 := hfa
    have hra : 9 ≤ rI x 0 ∧ rI x 0 ≤ 52 := hra
    clear fc rc
    subst hAe hBe
    obtain ⟨li, q, hL⟩ : ∃ li q, linksR s (topF x) (topR x) = (li, q) := ⟨_, _, rfl⟩
    have HLF := Go.Lib.hid (fun w0 => specLinksFor s (topF x) (topR x) w0)
    have HBD := Go.Lib.hid (fun (h : q = 0) => linksR_bd (s := s) (f := topF x) (r := topR x) (l := li) (by rw [hL, h]))
    rw [hL] at HLF HV
    have HP1 := Go.Lib.hid (fun (h : ¬ q = 0) => show plus2 (li, q) = (0, 4) from if_neg h)
    have HP2 := Go.Lib.hid (fun (h : li + 2 ≤ 200) => show plus2 (li, 0) = (li + 2, 0) by unfold plus2; rw [if_pos rfl, if_pos h])
    have HP3 := Go.Lib.hid (fun (h : ¬ li + 2 ≤ 200) => show plus2 (li, 0) = (0, 4) by unfold plus2; rw [if_pos rfl, if_neg h])
    have HFT := Go.Lib.hid hft
    have HRT := Go.Lib.hid hrt
    clear hft hrt hfa hra hfz hrz hf1 hr1 hf3 hr12 hL
    generalize topF x = tf at *
    generalize topR x = tr at *
    go_upto_region 4 with fail
    refine wp_region_held_drew (S := fun w' => w'.cell? ⟨w.heap.size, 0, none⟩ = some (.slice (some ⟨fb, fo, none⟩) x.f.length c) ∧ w'.cell? ⟨w.heap.size, 1, none⟩ = some (.slice (some ⟨rb, ro, none⟩) x.r.length d) ∧ w'.cell? ⟨fb, fo + ft, none⟩ = some (.int .i64 tf) ∧ w'.cell? ⟨rb, ro + rt, none⟩ = some (.int .i64 tr)) (by kernel_rfl) (by exact ⟨hc0, hc1, hcf1, hcr1⟩) (fun hHeld => ?_)
    refine wpAnyH_take (i := 0) (v := ?vc1) rfl (by kernel_rfl) (by kernel_rfl) (by kernel_rfl) (fun _ _ _ h => h) (Or.inl ⟨by rfl, ?hyc1⟩) (by assumption) ?restc1
    case hyc1 => (intro w hSw; (try dsimp only at hSw); go_simp; try with_reducible rfl)
    try simp only [List.getElem_toArray, List.getElem_cons_succ, List.getElem_cons_zero, Act.put, List.setIfInBounds_toArray, List.set_cons_zero, List.set_cons_succ]
    refine wpAnyH_take (i := 1) (v := ?vc2) rfl (by kernel_rfl) (by kernel_rfl) (by kernel_rfl) (fun _ _ _ h => h) (Or.inl ⟨by rfl, ?hyc2⟩) (by assumption) ?restc2
    case hyc2 => (intro w hSw; (try dsimp only at hSw); go_simp; try with_reducible rfl)
    try simp only [List.getElem_toArray, List.getElem_cons_succ, List.getElem_cons_zero, Act.put, List.setIfInBounds_toArray, List.set_cons_zero, List.set_cons_succ]
    refine wpAnyH_take (i := 2) (v := ?vc3) rfl (by kernel_rfl) (by kernel_rfl) (by kernel_rfl) (fun _ _ _ h => h) (Or.inl ⟨by rfl, ?hyc3⟩) (by assumption) ?restc3
    case hyc3 => (intro w hSw; (try dsimp only at hSw); go_simp; try with_reducible rfl)
    try simp only [List.getElem_toArray, List.getElem_cons_succ, List.getElem_cons_zero, Act.put, List.setIfInBounds_toArray, List.set_cons_zero, List.set_cons_succ]
    refine wpAnyH_take (i := 3) (v := ?vc4) rfl (by kernel_rfl) (by kernel_rfl) (by kernel_rfl) (fun _ _ _ h => h) (Or.inl ⟨by rfl, ?hyc4⟩) (by assumption) ?restc4
    case hyc4 => (intro w hSw; (try dsimp only at hSw); go_simp; try with_reducible rfl)
    try simp only [List.getElem_toArray, List.getElem_cons_succ, List.getElem_cons_zero, Act.put, List.setIfInBounds_toArray, List.set_cons_zero, List.set_cons_succ]
    refine wpAnyH_take (i := 4) (v := ?vc5) rfl (by kernel_rfl) (by kernel_rfl) (by kernel_rfl) (fun _ _ _ h => h) (Or.inl ⟨by rfl, ?hyc5⟩) (by assumption) ?restc5
    case hyc5 => (intro w hSw; (try dsimp only at hSw); go_simp; try with_reducible rfl)
    try simp only [List.getElem_toArray, List.getElem_cons_succ, List.getElem_cons_zero, Act.put, List.setIfInBounds_toArray, List.set_cons_zero, List.set_cons_succ]
    refine wpAnyH_take (i := 5) (v := ?vc6) rfl (by kernel_rfl) (by kernel_rfl) (by kernel_rfl) (fun _ _ _ h => h) (Or.inl ⟨by rfl, ?hyc6⟩) (by assumption) ?restc6
    case hyc6 => (intro w hSw; (try dsimp only at hSw); go_simp; try with_reducible rfl)
    try simp only [List.getElem_toArray, List.getElem_cons_succ, List.getElem_cons_zero, Act.put, List.setIfInBounds_toArray, List.set_cons_zero, List.set_cons_succ]
    refine wpAnyH_take (i := 6) (v := ?vc7) rfl (by kernel_rfl) (by kernel_rfl) (by kernel_rfl) (fun _ _ _ h => h) (Or.inl ⟨by rfl, ?hyc7⟩) (by assumption) ?restc7
    case hyc7 => (intro w hSw; (try dsimp only at hSw); go_simp; try with_reducible rfl)
    try simp only [List.getElem_toArray, List.getElem_cons_succ, List.getElem_cons_zero, Act.put, List.setIfInBounds_toArray, List.set_cons_zero, List.set_cons_succ]
    refine wpAnyH_take (i := 7) (v := ?vc8) rfl (by kernel_rfl) (by kernel_rfl) (by kernel_rfl) (fun _ _ _ h => h) (Or.inl ⟨by rfl, ?hyc8⟩) (by assumption) ?restc8
    case hyc8 => (intro w hSw; (try dsimp only at hSw); go_simp; try with_reducible rfl)
    try simp only [List.getElem_toArray, List.getElem_cons_succ, List.getElem_cons_zero, Act.put, List.setIfInBounds_toArray, List.set_cons_zero, List.set_cons_succ]
    refine wpAnyH_take (i := 8) (v := ?vc9) rfl (by kernel_rfl) (by kernel_rfl) (by kernel_rfl) (fun _ _ _ h => h) (Or.inl ⟨by rfl, ?hyc9⟩) (by assumption) ?restc9
    case hyc9 => (intro w hSw; (try dsimp only at hSw); go_simp; try with_reducible rfl)
    try simp only [List.getElem_toArray, List.getElem_cons_succ, List.getElem_cons_zero, Act.put, List.setIfInBounds_toArray, List.set_cons_zero, List.set_cons_succ]
    refine wpAnyH_take (i := 9) (v := ?vc10) rfl (by kernel_rfl) (by kernel_rfl) (by kernel_rfl) (fun _ _ _ h => h) (Or.inl ⟨by rfl, ?hyc10⟩) (by assumption) ?restc10
    case hyc10 => (intro w hSw; (try dsimp only at hSw); go_simp; try with_reducible rfl)
    try simp only [List.getElem_toArray, List.getElem_cons_succ, List.getElem_cons_zero, Act.put, List.setIfInBounds_toArray, List.set_cons_zero, List.set_cons_succ]
    refine wpAnyH_take (i := 10) (v := ?vc11) rfl (by kernel_rfl) (by kernel_rfl) (by kernel_rfl) (fun _ _ _ h => h) (Or.inl ⟨by rfl, ?hyc11⟩) (by assumption) ?restc11
    case hyc11 => (intro w hSw; (try dsimp only at hSw); go_simp; try with_reducible rfl)
    try simp only [List.getElem_toArray, List.getElem_cons_succ, List.getElem_cons_zero, Act.put, List.setIfInBounds_toArray, List.set_cons_zero, List.set_cons_succ]
    refine wpAnyH_take (i := 11) (v := ?vc12) rfl (by kernel_rfl) (by kernel_rfl) (by kernel_rfl) (fun _ _ _ h => h) (Or.inl ⟨by rfl, ?hyc12⟩) (by assumption) ?restc12
    case hyc12 => (intro w hSw; (try dsimp only at hSw); go_simp; try with_reducible rfl)
    try simp only [List.getElem_toArray, List.getElem_cons_succ, List.getElem_cons_zero, Act.put, List.setIfInBounds_toArray, List.set_cons_zero, List.set_cons_succ]
    refine wpAnyH_take (i := 12) (v := ?vc13) rfl (by kernel_rfl) (by kernel_rfl) (by kernel_rfl) (fun _ _ _ h => h) (Or.inl ⟨by rfl, ?hyc13⟩) (by assumption) ?restc13
    case hyc13 => (intro w hSw; (try dsimp only at hSw); go_simp; try with_reducible rfl)
    try simp only [List.getElem_toArray, List.getElem_cons_succ, List.getElem_cons_zero, Act.put, List.setIfInBounds_toArray, List.set_cons_zero, List.set_cons_succ]
    refine wpAnyH_take (i := 13) (v := ?vc14) rfl (by kernel_rfl) (by kernel_rfl) (by kernel_rfl) (fun _ _ _ h => h) (Or.inl ⟨by rfl, ?hyc14⟩) (by assumption) ?restc14
    case hyc14 => (intro w hSw; (try dsimp only at hSw); go_simp; try with_reducible rfl)
    try simp only [List.getElem_toArray, List.getElem_cons_succ, List.getElem_cons_zero, Act.put, List.setIfInBounds_toArray, List.set_cons_zero, List.set_cons_succ]
    refine wpAnyH_take (i := 14) (v := ?vc15) rfl (by kernel_rfl) (by kernel_rfl) (by kernel_rfl) (fun _ _ _ h => h) (Or.inl ⟨by rfl, ?hyc15⟩) (by assumption) ?restc15
    case hyc15 => (intro w hSw; (try dsimp only at hSw); go_simp; try with_reducible rfl)
    try simp only [List.getElem_toArray, List.getElem_cons_succ, List.getElem_cons_zero, Act.put, List.setIfInBounds_toArray, List.set_cons_zero, List.set_cons_succ]
    refine wpAnyH_take (i := 15) (v := ?vc16) rfl (by kernel_rfl) (by kernel_rfl) (by kernel_rfl) (fun _ _ _ h => h) (Or.inl ⟨by rfl, ?hyc16⟩) (by assumption) ?restc16
    case hyc16 => (intro w hSw; (try dsimp only at hSw); go_simp; try with_reducible rfl)
    try simp only [List.getElem_toArray, List.getElem_cons_succ, List.getElem_cons_zero, Act.put, List.setIfInBounds_toArray, List.set_cons_zero, List.set_cons_succ]
    refine wpAnyH_take (i := 16) (v := ?vc17) rfl (by kernel_rfl) (by kernel_rfl) (by kernel_rfl) (fun _ _ _ h => h) (Or.inl ⟨by rfl, ?hyc17⟩) (by assumption) ?restc17
    case hyc17 => (intro w hSw; (try dsimp only at hSw); go_simp; try with_reducible rfl)
    try simp only [List.getElem_toArray, List.getElem_cons_succ, List.getElem_cons_zero, Act.put, List.setIfInBounds_toArray, List.set_cons_zero, List.set_cons_succ]
    refine wpAnyH_ready (rs := [17]) (by kernel_rfl) (by simp) ?_
    refine AllReadyH.cons rfl (fun K hK => ?_) AllReadyH.nil
    go_simp
    (go_at_call 16; refine (HLF.out _).mono ?_; rintro _ wc ⟨rfl, bc⟩)
    refine hK.out _ _ ?_ (fun hHeld => ?_)
    · exact ⟨(bc.cell (p := ⟨w.heap.size, 0, none⟩) (cell_in hc0)).trans hc0, (bc.cell (p := ⟨w.heap.size, 1, none⟩) (cell_in hc1)).trans hc1, (bc.cell (p := ⟨fb, fo + ft, none⟩) (cell_in hcf1)).trans hcf1, (bc.cell (p := ⟨rb, ro + rt, none⟩) (cell_in hcr1)).trans hcr1⟩
    clear hK K
    try simp only [List.getElem_toArray, List.getElem_cons_succ, List.getElem_cons_zero, Act.put, List.setIfInBounds_toArray, List.set_cons_zero, List.set_cons_succ]
    refine wpAnyH_take (i := 18) (v := ?vc18) rfl (by kernel_rfl) (by kernel_rfl) (by kernel_rfl) (fun _ _ _ h => h) (Or.inl ⟨by rfl, ?hyc18⟩) (by assumption) ?restc18
    case hyc18 => (intro w hSw; (try dsimp only at hSw); go_simp; try with_reducible rfl)
    try simp only [List.getElem_toArray, List.getElem_cons_succ, List.getElem_cons_zero, Act.put, List.setIfInBounds_toArray, List.set_cons_zero, List.set_cons_succ]
    refine wpAnyH_take (i := 19) (v := ?vc19) rfl (by kernel_rfl) (by kernel_rfl) (by kernel_rfl) (fun _ _ _ h => h) (Or.inl ⟨by rfl, ?hyc19⟩) (by assumption) ?restc19
    case hyc19 => (intro w hSw; (try dsimp only at hSw); go_simp; try with_reducible rfl)
    try simp only [List.getElem_toArray, List.getElem_cons_succ, List.getElem_cons_zero, Act.put, List.setIfInBounds_toArray, List.set_cons_zero, List.set_cons_succ]
    refine wpAnyH_take (i := 20) (v := ?vc20) rfl (by kernel_rfl) (by kernel_rfl) (by kernel_rfl) (fun _ _ _ h => h) (Or.inl ⟨by rfl, ?hyc20⟩) (by assumption) ?restc20
    case hyc20 => (intro w hSw; (try dsimp only at hSw); go_simp; try with_reducible rfl)
    try simp only [List.getElem_toArray, List.getElem_cons_succ, List.getElem_cons_zero, Act.put, List.setIfInBounds_toArray, List.set_cons_zero, List.set_cons_succ]
    refine wpAnyH_take (i := 21) (v := ?vc21) rfl (by kernel_rfl) (by kernel_rfl) (by kernel_rfl) (fun _ _ _ h => h) (Or.inl ⟨by rfl, ?hyc21⟩) (by assumption) ?restc21
    case hyc21 => (intro w hSw; (try dsimp only at hSw); go_simp; try with_reducible rfl)
    try simp only [List.getElem_toArray, List.getElem_cons_succ, List.getElem_cons_zero, Act.put, List.setIfInBounds_toArray, List.set_cons_zero, List.set_cons_succ]
    refine wpAnyH_take (i := 22) (v := ?vc22) rfl (by kernel_rfl) (by kernel_rfl) (by kernel_rfl) (fun _ _ _ h => h) (Or.inl ⟨by rfl, ?hyc22⟩) (by assumption) ?restc22
    case hyc22 => (intro w hSw; (try dsimp only at hSw); go_simp; try with_reducible rfl)
    try simp only [List.getElem_toArray, List.getElem_cons_succ, List.getElem_cons_zero, Act.put, List.setIfInBounds_toArray, List.set_cons_zero, List.set_cons_succ]
    refine wpAnyH_done (by kernel_rfl) ?_ _
    have HB5 := Go.Lib.hid (HB2.out.drew.trans (bc.mono HB2.out.drew.size))
    clear bc hc0 hc1 hc2 hcf0 hcr0 hcf1 hcr1 hHeld
    by_cases hq : q = 0
    case neg =>
      have hqb : (q != 0) = true := by simpa using hq
      go_wp2_with fail
      go_ret2
      exact Gives2.of (HV.out.trans (HP1.out hq)) HB5.out
    case pos =>
      subst hq
      obtain ⟨hg0, hg1⟩ := HBD.out rfl
      have e1 : IntKind.i64.wrap (li + 2) = li + 2 := IntWalk.i64_in _ (by omega)
      by_cases hl : li + 2 ≤ 200
      case pos =>
        have hn : ¬ 200 < li + 2 := by omega
        clear hg0 hg1
        go_wp2_with fail
        go_ret2
        exact Gives2.of (HV.out.trans (HP2.out hl)) HB5.out
      case neg =>
        have hn : 200 < li + 2 := by omega
        clear hg0 hg1
        go_wp2_with fail
        go_ret2
        exact Gives2.of (HV.out.trans (HP3.out hl)) HB5.out
end Go.Proofs.Ytilepehlmjohbaa
