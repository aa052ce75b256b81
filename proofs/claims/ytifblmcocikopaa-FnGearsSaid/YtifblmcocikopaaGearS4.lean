/- The model: speeds, cadences, ranges. -/
import Derived.Test.YtifblmcocikopaaGearS3
namespace Go.Proofs.Ytifblmcocikopaa
open Go.RowKit
set_option linter.unusedSimpArgs false
set_option linter.unusedVariables false

theorem gear_nat {x : Trn} {f r : Int} (h : gearB x f r = true) : ∃ g : Gr, f = g.1 ∧ r = g.2 ∧ GOk x g ∧ (f.toNat, r.toNat) = g := by
  obtain ⟨f0, r0, hk⟩ := gearB_ok h
  exact ⟨(f.toNat, r.toNat), by show f = (f.toNat : Int); omega, by show r = (r.toNat : Int); omega, hk, rfl⟩
set_option maxRecDepth 100000 in
set_option maxHeartbeats 4000000 in
theorem specSpeed (x : Trn) (A : Option Addr) (c : Nat) (B : Option Addr) (d : Nat) (g : Gr) (ca : Int) (w : World) (T : TrL x A c B d w) (hT : Train x) (hg : GOk x g) (h0 : 0 ≤ ca) (h1 : ca ≤ 200) :
    Calls Try.prog 72 #[trainV x A c B d, .int .i64 g.1, .int .i64 g.2, .int .i64 ca] w (IsV w (.int .i64 (speedI x g ca))) := by
  have hfb := hT.fb hg
  have hrb := hT.rb hg
  have hn0 := hT.n0
  have hn1 := hT.n1
  obtain ⟨hg1, hg2⟩ := hg
  have HT := Go.Lib.hid T
  have HX := Go.Lib.hid (boxT_box x A c B d w)
  have HXB := Go.Lib.hid (boxT_below x A c B d w)
  clear T
  have HV := Go.Lib.hid (show speedI x g ca = 60 * ca * x.n * fI x g.1 / (1000 * rI x g.2) from rfl)
  unfold trainV
  go_enter Try.func72, Try.ntmps72
  go_upto_region 1 with fail
  refine wp_gen (R := fun W => Box W w.heap.size (trainC x A c B d) ∧ Below w.heap.size w W) ⟨HX.out, HXB.out⟩ ?_
  rintro W ⟨hx, hb⟩
  have HX1 := Go.Lib.hid hx
  have HB1 := Go.Lib.hid hb
  have HT1 := Go.Lib.hid (HT.out.below hb)
  clear hx hb HX HXB
  have hc0 : W.cell? ⟨w.heap.size, 0, none⟩ = some (.slice A x.f.length c) := HX1.out.at_ 0 _ rfl
  have hc1 : W.cell? ⟨w.heap.size, 1, none⟩ = some (.slice B x.r.length d) := HX1.out.at_ 1 _ rfl
  have hc2 : W.cell? ⟨w.heap.size, 2, none⟩ = some (.int .i64 x.n) := HX1.out.at_ 2 _ rfl
  obtain ⟨fb, fo, rfl, -, fc⟩ := HT1.out.f.at_ hg1
  obtain ⟨rb, ro, rfl, -, rc⟩ := HT1.out.r.at_ hg2
  have hcf : W.cell? ⟨fb, fo + g.1, none⟩ = some (.int .i64 (fI x g.1)) := fc g.1 hg1
  have hcr : W.cell? ⟨rb, ro + g.2, none⟩ = some (.int .i64 (rI x g.2)) := rc g.2 hg2
  clear fc rc HX1 HT1
  generalize fI x g.1 = f at *
  generalize rI x g.2 = r at *
  have m1 := mul_bd (a := 60 * ca) (b := x.n) (A := 12000) (B := 2500) (by omega) (by omega) (by omega) (by omega)
  have m2 := mul_bd (a := 60 * ca * x.n) (b := f) (A := 30000000) (B := 60) (by omega) (by omega) (by omega) (by omega)
  have ew1 : IntKind.i64.wrap (60 * ca) = 60 * ca := IntWalk.i64_in _ (by omega)
  have ew2 : IntKind.i64.wrap (60 * ca * x.n) = 60 * ca * x.n := IntWalk.i64_in _ (by omega)
  have ew3 : IntKind.i64.wrap (60 * ca * x.n * f) = 60 * ca * x.n * f := IntWalk.i64_in _ (by omega)
  have ew4 : IntKind.i64.wrap (1000 * r) = 1000 * r := IntWalk.i64_in _ (by omega)
  have hne : ¬ 1000 * r = 0 := by omega
  have hne2 : (1000 * r == 0) = false := by simp; omega
  have hne3 : ¬ r = 0 := by omega
  have ew5 : (60 * ca * x.n * f).tdiv (1000 * r) = 60 * ca * x.n * f / (1000 * r) := Int.tdiv_eq_ediv_of_nonneg (by omega)
  have hq0 : 0 ≤ 60 * ca * x.n * f / (1000 * r) := Int.ediv_nonneg (by omega) (by omega)
  have hq1 : 60 * ca * x.n * f / (1000 * r) ≤ 60 * ca * x.n * f := Int.ediv_le_self _ (by omega)
  have ew6 : IntKind.i64.wrap (60 * ca * x.n * f / (1000 * r)) = 60 * ca * x.n * f / (1000 * r) := IntWalk.i64_in _ (by omega)
  have i1 : (g.1 : Int) < x.f.length := by omega
  have i2 : (g.2 : Int) < x.r.length := by omega
  have i3 : (0 : Int) ≤ g.1 := by omega
  have i4 : (0 : Int) ≤ g.2 := by omega
  clear m1 m2 hq0 hq1 hfb hrb
  go_quiet (fail)
  go_wp2_with fail
  go_ret
  exact ⟨by rw [HV.out]; first | rfl | simp, below_drewN HB1.out _⟩
set_option maxRecDepth 100000 in
set_option maxHeartbeats 4000000 in
theorem specSpeedAt (x : Trn) (A : Option Addr) (c : Nat) (B : Option Addr) (d : Nat) (f r ca : Int) (w : World) (T : TrL x A c B d w) :
    Calls Try.prog 39 #[trainV x A c B d, .int .i64 f, .int .i64 r, .int .i64 ca] w (Gives2 (speedR x f r ca) w) := by
  have HT := Go.Lib.hid T
  have HX := Go.Lib.hid (boxT_box x A c B d w)
  have HXB := Go.Lib.hid (boxT_below x A c B d w)
  clear T
  have H1 := Go.Lib.hid (fun w0 T0 => specCode9 x A c B d f r w0 T0)
  have H2 := Go.Lib.hid (fun w0 => inN2 ca 0 200 w0)
  have HIB := Go.Lib.hid (show inB ca 0 200 = (decide (0 ≤ ca) && decide (ca ≤ 200)) from rfl)
  by_cases ht : trainB x = true
  case neg =>
    have HV := Go.Lib.hid (show speedR x f r ca = (0, 1) by unfold speedR; rw [if_neg ht])
    rw [show code9 x f r = 1 by unfold code9; rw [if_neg ht]] at H1
    clear ht H2 HIB
    unfold trainV at *
    go_enter Try.func39, Try.ntmps39
    go_upto_region 1 with fail
    refine wp_gen (R := fun W => Box W w.heap.size (trainC x A c B d) ∧ Below w.heap.size w W) ⟨HX.out, HXB.out⟩ ?_
    rintro W ⟨hx, hb⟩
    have HX1 := Go.Lib.hid hx
    have HB1 := Go.Lib.hid hb
    have HT1 := Go.Lib.hid (HT.out.below hb)
    clear hx hb HX HXB
    have hc0 : W.cell? ⟨w.heap.size, 0, none⟩ = some (.slice A x.f.length c) := HX1.out.at_ 0 _ rfl
    have hc1 : W.cell? ⟨w.heap.size, 1, none⟩ = some (.slice B x.r.length d) := HX1.out.at_ 1 _ rfl
    have hc2 : W.cell? ⟨w.heap.size, 2, none⟩ = some (.int .i64 x.n) := HX1.out.at_ 2 _ rfl
    go_wp2_with fail
    refine (H1.out _ HT1.out).mono ?_
    rintro _ w2 ⟨rfl, b2⟩
    have HX2 := Go.Lib.hid (HX1.out.below b2)
    have HB2 := Go.Lib.hid (upB HB1.out b2)
    have HT2 := Go.Lib.hid (HT1.out.below b2)
    clear b2
    go_wp2_with fail
    go_ret2
    exact Gives2.of HV.out HB2.out
  case pos =>
  by_cases hg : gearB x f r = true
  case neg =>
    have HV := Go.Lib.hid (show speedR x f r ca = (0, 2) by unfold speedR; rw [if_pos ht, if_neg (by rw [Bool.not_eq_true] at hg; rw [hg]; simp)])
    rw [show code9 x f r = 2 by unfold code9; rw [if_pos ht, if_neg hg]] at H1
    clear ht hg H2 HIB
    unfold trainV at *
    go_enter Try.func39, Try.ntmps39
    go_upto_region 1 with fail
    refine wp_gen (R := fun W => Box W w.heap.size (trainC x A c B d) ∧ Below w.heap.size w W) ⟨HX.out, HXB.out⟩ ?_
    rintro W ⟨hx, hb⟩
    have HX1 := Go.Lib.hid hx
    have HB1 := Go.Lib.hid hb
    have HT1 := Go.Lib.hid (HT.out.below hb)
    clear hx hb HX HXB
    have hc0 : W.cell? ⟨w.heap.size, 0, none⟩ = some (.slice A x.f.length c) := HX1.out.at_ 0 _ rfl
    have hc1 : W.cell? ⟨w.heap.size, 1, none⟩ = some (.slice B x.r.length d) := HX1.out.at_ 1 _ rfl
    have hc2 : W.cell? ⟨w.heap.size, 2, none⟩ = some (.int .i64 x.n) := HX1.out.at_ 2 _ rfl
    go_wp2_with fail
    refine (H1.out _ HT1.out).mono ?_
    rintro _ w2 ⟨rfl, b2⟩
    have HX2 := Go.Lib.hid (HX1.out.below b2)
    have HB2 := Go.Lib.hid (upB HB1.out b2)
    have HT2 := Go.Lib.hid (HT1.out.below b2)
    clear b2
    go_wp2_with fail
    go_ret2
    exact Gives2.of HV.out HB2.out
  case pos =>
  rw [show code9 x f r = 0 by unfold code9; rw [if_pos ht, if_pos hg]] at H1
  by_cases hi : inB ca 0 200 = true
  case neg =>
    have HV := Go.Lib.hid (show speedR x f r ca = (0, 2) by
      unfold speedR
      rw [if_pos ht, if_neg]
      rw [HIB.out] at hi
      rw [hg, Bool.true_and]
      exact hi)
    rw [Bool.not_eq_true] at hi
    rw [hi] at H2
    clear ht hg HIB hi
    unfold trainV at *
    go_enter Try.func39, Try.ntmps39
    go_upto_region 1 with fail
    refine wp_gen (R := fun W => Box W w.heap.size (trainC x A c B d) ∧ Below w.heap.size w W) ⟨HX.out, HXB.out⟩ ?_
    rintro W ⟨hx, hb⟩
    have HX1 := Go.Lib.hid hx
    have HB1 := Go.Lib.hid hb
    have HT1 := Go.Lib.hid (HT.out.below hb)
    clear hx hb HX HXB
    have hc0 : W.cell? ⟨w.heap.size, 0, none⟩ = some (.slice A x.f.length c) := HX1.out.at_ 0 _ rfl
    have hc1 : W.cell? ⟨w.heap.size, 1, none⟩ = some (.slice B x.r.length d) := HX1.out.at_ 1 _ rfl
    have hc2 : W.cell? ⟨w.heap.size, 2, none⟩ = some (.int .i64 x.n) := HX1.out.at_ 2 _ rfl
    go_wp2_with fail
    refine (H1.out _ HT1.out).mono ?_
    rintro _ w2 ⟨rfl, b2⟩
    have HX2 := Go.Lib.hid (HX1.out.below b2)
    have HB2 := Go.Lib.hid (upB HB1.out b2)
    have HT2 := Go.Lib.hid (HT1.out.below b2)
    clear b2
    go_wp2_with fail
    refine (H2.out _).mono ?_
    rintro _ _ ⟨rfl, rfl⟩
    go_wp2_with fail
    go_ret2
    exact Gives2.of HV.out HB2.out
  case pos =>
    have hib : 0 ≤ ca ∧ ca ≤ 200 := by simpa [HIB.out] using hi
    rw [hi] at H2
    obtain ⟨g, rfl, rfl, hok, hgg⟩ := gear_nat hg
    have hTr := Go.Lib.hid (trainB_ok ht)
    have HV := Go.Lib.hid (show speedR x g.1 g.2 ca = (speedI x g ca, 0) by
      unfold speedR
      rw [if_pos ht, if_pos (by rw [hg, ← HIB.out, hi]; rfl), hgg])
    have HD := Go.Lib.hid (fun w0 T0 => specSpeed x A c B d g ca w0 T0 hTr.out hok hib.1 hib.2)
    clear ht hg hok hgg HIB hi hib hTr
    generalize speedI x g ca = dv at *
    unfold trainV at *
    go_enter Try.func39, Try.ntmps39
    go_upto_region 1 with fail
    refine wp_gen (R := fun W => Box W w.heap.size (trainC x A c B d) ∧ Below w.heap.size w W) ⟨HX.out, HXB.out⟩ ?_
    rintro W ⟨hx, hb⟩
    have HX1 := Go.Lib.hid hx
    have HB1 := Go.Lib.hid hb
    have HT1 := Go.Lib.hid (HT.out.below hb)
    clear hx hb HX HXB
    have hc0 : W.cell? ⟨w.heap.size, 0, none⟩ = some (.slice A x.f.length c) := HX1.out.at_ 0 _ rfl
    have hc1 : W.cell? ⟨w.heap.size, 1, none⟩ = some (.slice B x.r.length d) := HX1.out.at_ 1 _ rfl
    have hc2 : W.cell? ⟨w.heap.size, 2, none⟩ = some (.int .i64 x.n) := HX1.out.at_ 2 _ rfl
    go_wp2_with fail
    refine (H1.out _ HT1.out).mono ?_
    rintro _ w2 ⟨rfl, b2⟩
    have HX2 := Go.Lib.hid (HX1.out.below b2)
    have HB2 := Go.Lib.hid (upB HB1.out b2)
    have HT2 := Go.Lib.hid (HT1.out.below b2)
    clear b2
    clear hc0 hc1 hc2
    have hc0 : w2.cell? ⟨w.heap.size, 0, none⟩ = some (.slice A x.f.length c) := HX2.out.at_ 0 _ rfl
    have hc1 : w2.cell? ⟨w.heap.size, 1, none⟩ = some (.slice B x.r.length d) := HX2.out.at_ 1 _ rfl
    have hc2 : w2.cell? ⟨w.heap.size, 2, none⟩ = some (.int .i64 x.n) := HX2.out.at_ 2 _ rfl
    go_wp2_with fail
    refine (H2.out _).mono ?_
    rintro _ _ ⟨rfl, rfl⟩
    go_wp2_with fail
    refine (HD.out _ HT2.out).mono ?_
    rintro _ w3 ⟨rfl, b3⟩
    have HX3 := Go.Lib.hid (HX2.out.below b3)
    have HB3 := Go.Lib.hid (upB HB2.out b3)
    have HT3 := Go.Lib.hid (HT2.out.below b3)
    clear b3
    go_wp2_with fail
    go_ret2
    exact Gives2.of HV.out HB3.out
theorem cadTo_hit {x : Trn} {g : Gr} {s c : Int} {m : Nat} (h : s ≤ speedI x g c) : cadTo x g s c (m + 1) = (c, 0) := by rw [cadTo, if_pos h]
theorem cadTo_miss {x : Trn} {g : Gr} {s c : Int} {m : Nat} (h : ¬ s ≤ speedI x g c) : cadTo x g s c (m + 1) = cadTo x g s (c + 1) m := by rw [cadTo, if_neg h]
set_option maxRecDepth 100000 in
set_option maxHeartbeats 4000000 in
theorem specCadFor (x : Trn) (A : Option Addr) (c : Nat) (B : Option Addr) (d : Nat) (f r s : Int) (w : World) (T : TrL x A c B d w) :
    Calls Try.prog 36 #[trainV x A c B d, .int .i64 f, .int .i64 r, .int .i64 s] w (Gives2 (cadR x f r s) w) := by
  have HT := Go.Lib.hid T
  have HX := Go.Lib.hid (boxT_box x A c B d w)
  have HXB := Go.Lib.hid (boxT_below x A c B d w)
  clear T
  have H1 := Go.Lib.hid (fun w0 T0 => specCode9 x A c B d f r w0 T0)
  have H2 := Go.Lib.hid (fun w0 => inN2 s 0 200000 w0)
  have HIB := Go.Lib.hid (show inB s 0 200000 = (decide (0 ≤ s) && decide (s ≤ 200000)) from rfl)
  by_cases ht : trainB x = true
  case neg =>
    have HV := Go.Lib.hid (show cadR x f r s = (0, 1) by unfold cadR; rw [if_neg ht])
    rw [show code9 x f r = 1 by unfold code9; rw [if_neg ht]] at H1
    clear ht H2 HIB
    unfold trainV at *
    go_enter Try.func36, Try.ntmps36
    go_upto_region 1 with fail
    refine wp_gen (R := fun W => Box W w.heap.size (trainC x A c B d) ∧ Below w.heap.size w W) ⟨HX.out, HXB.out⟩ ?_
    rintro W ⟨hx, hb⟩
    have HX1 := Go.Lib.hid hx
    have HB1 := Go.Lib.hid hb
    have HT1 := Go.Lib.hid (HT.out.below hb)
    clear hx hb HX HXB
    have hc0 : W.cell? ⟨w.heap.size, 0, none⟩ = some (.slice A x.f.length c) := HX1.out.at_ 0 _ rfl
    have hc1 : W.cell? ⟨w.heap.size, 1, none⟩ = some (.slice B x.r.length d) := HX1.out.at_ 1 _ rfl
    have hc2 : W.cell? ⟨w.heap.size, 2, none⟩ = some (.int .i64 x.n) := HX1.out.at_ 2 _ rfl
    go_wp2_with fail
    refine (H1.out _ HT1.out).mono ?_
    rintro _ w2 ⟨rfl, b2⟩
    have HX2 := Go.Lib.hid (HX1.out.below b2)
    have HB2 := Go.Lib.hid (upB HB1.out b2)
    have HT2 := Go.Lib.hid (HT1.out.below b2)
    clear b2
    go_wp2_with fail
    go_ret2
    exact Gives2.of HV.out HB2.out
  case pos =>
  by_cases hg : gearB x f r = true
  case neg =>
    have HV := Go.Lib.hid (show cadR x f r s = (0, 2) by unfold cadR; rw [if_pos ht, if_neg (by rw [Bool.not_eq_true] at hg; rw [hg]; simp)])
    rw [show code9 x f r = 2 by unfold code9; rw [if_pos ht, if_neg hg]] at H1
    clear ht hg H2 HIB
    unfold trainV at *
    go_enter Try.func36, Try.ntmps36
    go_upto_region 1 with fail
    refine wp_gen (R := fun W => Box W w.heap.size (trainC x A c B d) ∧ Below w.heap.size w W) ⟨HX.out, HXB.out⟩ ?_
    rintro W ⟨hx, hb⟩
    have HX1 := Go.Lib.hid hx
    have HB1 := Go.Lib.hid hb
    have HT1 := Go.Lib.hid (HT.out.below hb)
    clear hx hb HX HXB
    have hc0 : W.cell? ⟨w.heap.size, 0, none⟩ = some (.slice A x.f.length c) := HX1.out.at_ 0 _ rfl
    have hc1 : W.cell? ⟨w.heap.size, 1, none⟩ = some (.slice B x.r.length d) := HX1.out.at_ 1 _ rfl
    have hc2 : W.cell? ⟨w.heap.size, 2, none⟩ = some (.int .i64 x.n) := HX1.out.at_ 2 _ rfl
    go_wp2_with fail
    refine (H1.out _ HT1.out).mono ?_
    rintro _ w2 ⟨rfl, b2⟩
    have HX2 := Go.Lib.hid (HX1.out.below b2)
    have HB2 := Go.Lib.hid (upB HB1.out b2)
    have HT2 := Go.Lib.hid (HT1.out.below b2)
    clear b2
    go_wp2_with fail
    go_ret2
    exact Gives2.of HV.out HB2.out
  case pos =>
  rw [show code9 x f r = 0 by unfold code9; rw [if_pos ht, if_pos hg]] at H1
  by_cases hi : inB s 0 200000 = true
  case neg =>
    have HV := Go.Lib.hid (show cadR x f r s = (0, 2) by
      unfold cadR
      rw [if_pos ht, if_neg]
      rw [HIB.out] at hi
      rw [hg, Bool.true_and]
      exact hi)
    rw [Bool.not_eq_true] at hi
    rw [hi] at H2
    clear ht hg HIB hi
    unfold trainV at *
    go_enter Try.func36, Try.ntmps36
    go_upto_region 1 with fail
    refine wp_gen (R := fun W => Box W w.heap.size (trainC x A c B d) ∧ Below w.heap.size w W) ⟨HX.out, HXB.out⟩ ?_
    rintro W ⟨hx, hb⟩
    have HX1 := Go.Lib.hid hx
    have HB1 := Go.Lib.hid hb
    have HT1 := Go.Lib.hid (HT.out.below hb)
    clear hx hb HX HXB
    have hc0 : W.cell? ⟨w.heap.size, 0, none⟩ = some (.slice A x.f.length c) := HX1.out.at_ 0 _ rfl
    have hc1 : W.cell? ⟨w.heap.size, 1, none⟩ = some (.slice B x.r.length d) := HX1.out.at_ 1 _ rfl
    have hc2 : W.cell? ⟨w.heap.size, 2, none⟩ = some (.int .i64 x.n) := HX1.out.at_ 2 _ rfl
    go_wp2_with fail
    refine (H1.out _ HT1.out).mono ?_
    rintro _ w2 ⟨rfl, b2⟩
    have HX2 := Go.Lib.hid (HX1.out.below b2)
    have HB2 := Go.Lib.hid (upB HB1.out b2)
    have HT2 := Go.Lib.hid (HT1.out.below b2)
    clear b2
    go_wp2_with fail
    refine (H2.out _).mono ?_
    rintro _ _ ⟨rfl, rfl⟩
    go_wp2_with fail
    go_ret2
    exact Gives2.of HV.out HB2.out
  case pos =>
    have hib : 0 ≤ s ∧ s ≤ 200000 := by simpa [HIB.out] using hi
    rw [hi] at H2
    obtain ⟨g, rfl, rfl, hok, hgg⟩ := gear_nat hg
    have hTr := Go.Lib.hid (trainB_ok ht)
    have HV := Go.Lib.hid (show cadR x g.1 g.2 s = cadTo x g s 0 201 by
      unfold cadR
      rw [if_pos ht, if_pos (by rw [hg, ← HIB.out, hi]; rfl), hgg])
    have HD := Go.Lib.hid (fun ca w0 T0 h0 h1 => specSpeed x A c B d g ca w0 T0 hTr.out hok h0 h1)
    clear ht hg hok hgg HIB hi hib hTr
    unfold trainV at *
    go_enter Try.func36, Try.ntmps36
    go_upto_region 1 with fail
    refine wp_gen (R := fun W => Box W w.heap.size (trainC x A c B d) ∧ Below w.heap.size w W) ⟨HX.out, HXB.out⟩ ?_
    rintro W ⟨hx, hb⟩
    have HX1 := Go.Lib.hid hx
    have HB1 := Go.Lib.hid hb
    have HT1 := Go.Lib.hid (HT.out.below hb)
    clear hx hb HX HXB
    have hc0 : W.cell? ⟨w.heap.size, 0, none⟩ = some (.slice A x.f.length c) := HX1.out.at_ 0 _ rfl
    have hc1 : W.cell? ⟨w.heap.size, 1, none⟩ = some (.slice B x.r.length d) := HX1.out.at_ 1 _ rfl
    have hc2 : W.cell? ⟨w.heap.size, 2, none⟩ = some (.int .i64 x.n) := HX1.out.at_ 2 _ rfl
    go_wp2_with fail
    refine (H1.out _ HT1.out).mono ?_
    rintro _ w2 ⟨rfl, b2⟩
    have HX2 := Go.Lib.hid (HX1.out.below b2)
    have HB2 := Go.Lib.hid (upB HB1.out b2)
    have HT2 := Go.Lib.hid (HT1.out.below b2)
    clear b2
    clear hc0 hc1 hc2
    have HBW := Go.Lib.hid (Below.refl w2.heap.size w2)
    have hc0 : w2.cell? ⟨w.heap.size, 0, none⟩ = some (.slice A x.f.length c) := HX2.out.at_ 0 _ rfl
    have hc1 : w2.cell? ⟨w.heap.size, 1, none⟩ = some (.slice B x.r.length d) := HX2.out.at_ 1 _ rfl
    have hc2 : w2.cell? ⟨w.heap.size, 2, none⟩ = some (.int .i64 x.n) := HX2.out.at_ 2 _ rfl
    go_wp2_with fail
    refine (H2.out _).mono ?_
    rintro _ _ ⟨rfl, rfl⟩
    go_wp2_with fail
    clear hc0 hc1 hc2
    go_loopw [11] (fun u wr => ∃ k : Nat, k ≤ 201 ∧ u = .int .i64 k ∧ Below w2.heap.size w2 wr ∧ cadR x g.1 g.2 s = cadTo x g s k (201 - k)) (fun u _ => 201 - (intOf u).toNat)
    case atStart => exact ⟨0, by omega, rfl, HBW.out, HV.out⟩
    case round =>
      obtain ⟨k, hk, rfl, hbq, hv⟩ := hrel
      have HVK := Go.Lib.hid hv
      have HX3 := Go.Lib.hid (HX2.out.below hbq)
      have HB3 := Go.Lib.hid (upB HB2.out hbq)
      have HT3 := Go.Lib.hid (HT2.out.below hbq)
      have HBQ := Go.Lib.hid hbq
      clear hv hbq
      by_cases hlt : k < 201
      case neg =>
        obtain rfl : k = 201 := by omega
        have HV2 := Go.Lib.hid (show cadR x g.1 g.2 s = (0, 4) from HVK.out)
        go_wp2_with fail
        go_ret2
        exact Gives2.of HV2.out HB3.out
      case pos =>
        obtain ⟨m, hm⟩ : ∃ m, 201 - k = m + 1 := ⟨200 - k, by omega⟩
        have hm2 : 201 - (k + 1) = m := by omega
        have HM2 := Go.Lib.hid hm2
        rw [hm] at HVK
        have HDK := Go.Lib.hid (fun w0 T0 => HD.out (k : Int) w0 T0 (by omega) (by omega))
        have hc0 : wr.cell? ⟨w.heap.size, 0, none⟩ = some (.slice A x.f.length c) := HX3.out.at_ 0 _ rfl
        have hc1 : wr.cell? ⟨w.heap.size, 1, none⟩ = some (.slice B x.r.length d) := HX3.out.at_ 1 _ rfl
        have hc2 : wr.cell? ⟨w.heap.size, 2, none⟩ = some (.int .i64 x.n) := HX3.out.at_ 2 _ rfl
        have HMI := Go.Lib.hid (cadTo_miss (x := x) (g := g) (s := s) (c := k) (m := m))
        have HHI := Go.Lib.hid (cadTo_hit (x := x) (g := g) (s := s) (c := k) (m := m))
        clear hm hm2
        generalize speedI x g (k : Int) = sp at *
        by_cases hs : s ≤ sp
        case pos =>
          have HV2 := Go.Lib.hid (HVK.out.trans (HHI.out hs))
          go_wp2_with fail
          refine (HDK.out _ HT3.out).mono ?_
          rintro _ w4 ⟨rfl, b4⟩
          have HX4 := Go.Lib.hid (HX3.out.below b4)
          have HB4 := Go.Lib.hid (upB HB3.out b4)
          have HT4 := Go.Lib.hid (HT3.out.below b4)
          clear b4
          go_wp2_with fail
          go_ret2
          exact Gives2.of HV2.out HB4.out
        case neg =>
          have HV2 := Go.Lib.hid (HVK.out.trans (HMI.out hs))
          go_wp2_with fail
          refine (HDK.out _ HT3.out).mono ?_
          rintro _ w4 ⟨rfl, b4⟩
          have HBR := Go.Lib.hid (upB HBQ.out b4)
          clear b4
          go_wp2_with fail
          go_roundw
          case rel => exact ⟨k + 1, by omega, by go_num, HBR.out, by rw [HM2.out]; exact HV2.out⟩
          case measure => simp [intOf]; omega
set_option maxRecDepth 100000 in
set_option maxHeartbeats 4000000 in
theorem specRange (x : Trn) (A : Option Addr) (c : Nat) (B : Option Addr) (d : Nat) (w : World) (T : TrL x A c B d w) :
    Calls Try.prog 32 #[trainV x A c B d] w (Gives2 (rangeR x) w) := by
  have HT := Go.Lib.hid T
  have HX := Go.Lib.hid (boxT_box x A c B d w)
  have HXB := Go.Lib.hid (boxT_below x A c B d w)
  clear T
  have H1 := Go.Lib.hid (fun w0 T0 => specTrain x A c B d w0 T0)
  by_cases ht : trainB x = true
  case neg =>
    have HV := Go.Lib.hid (show rangeR x = (0, 1) by unfold rangeR; rw [if_neg ht])
    rw [Bool.not_eq_true] at ht
    rw [ht] at H1
    clear ht
    unfold trainV at *
    go_enter Try.func32, Try.ntmps32
    go_upto_region 1 with fail
    refine wp_gen (R := fun W => Box W w.heap.size (trainC x A c B d) ∧ Below w.heap.size w W) ⟨HX.out, HXB.out⟩ ?_
    rintro W ⟨hx, hb⟩
    have HX1 := Go.Lib.hid hx
    have HB1 := Go.Lib.hid hb
    have HT1 := Go.Lib.hid (HT.out.below hb)
    clear hx hb HX HXB
    have hc0 : W.cell? ⟨w.heap.size, 0, none⟩ = some (.slice A x.f.length c) := HX1.out.at_ 0 _ rfl
    have hc1 : W.cell? ⟨w.heap.size, 1, none⟩ = some (.slice B x.r.length d) := HX1.out.at_ 1 _ rfl
    have hc2 : W.cell? ⟨w.heap.size, 2, none⟩ = some (.int .i64 x.n) := HX1.out.at_ 2 _ rfl
    go_wp2_with fail
    refine (H1.out _ HT1.out).mono ?_
    rintro _ w2 ⟨rfl, b2⟩
    have HX2 := Go.Lib.hid (HX1.out.below b2)
    have HB2 := Go.Lib.hid (upB HB1.out b2)
    have HT2 := Go.Lib.hid (HT1.out.below b2)
    clear b2
    go_wp2_with fail
    go_ret2
    exact Gives2.of HV.out HB2.out
  case pos =>
    have HV0 := Go.Lib.hid (show rangeR x = (100 * fI x (x.f.length - 1) * rI x (x.r.length - 1) / (fI x 0 * rI x 0), 0) by unfold rangeR; rw [if_pos ht]; rfl)
    have HTr := Go.Lib.hid (trainB_ok ht)
    rw [ht] at H1
    clear ht
    unfold trainV at *
    go_enter Try.func32, Try.ntmps32
    go_upto_region 1 with fail
    refine wp_gen (R := fun W => Box W w.heap.size (trainC x A c B d) ∧ Below w.heap.size w W) ⟨HX.out, HXB.out⟩ ?_
    rintro W ⟨hx, hb⟩
    have HX1 := Go.Lib.hid hx
    have HB1 := Go.Lib.hid hb
    have HT1 := Go.Lib.hid (HT.out.below hb)
    clear hx hb HX HXB
    have hc0 : W.cell? ⟨w.heap.size, 0, none⟩ = some (.slice A x.f.length c) := HX1.out.at_ 0 _ rfl
    have hc1 : W.cell? ⟨w.heap.size, 1, none⟩ = some (.slice B x.r.length d) := HX1.out.at_ 1 _ rfl
    have hc2 : W.cell? ⟨w.heap.size, 2, none⟩ = some (.int .i64 x.n) := HX1.out.at_ 2 _ rfl
    go_wp2_with fail
    refine (H1.out _ HT1.out).mono ?_
    rintro _ w2 ⟨rfl, b2⟩
    have HX2 := Go.Lib.hid (HX1.out.below b2)
    have HB2 := Go.Lib.hid (upB HB1.out b2)
    have HT2 := Go.Lib.hid (HT1.out.below b2)
    clear b2
    clear hc0 hc1 hc2
    have hc0 : w2.cell? ⟨w.heap.size, 0, none⟩ = some (.slice A x.f.length c) := HX2.out.at_ 0 _ rfl
    have hc1 : w2.cell? ⟨w.heap.size, 1, none⟩ = some (.slice B x.r.length d) := HX2.out.at_ 1 _ rfl
    have hc2 : w2.cell? ⟨w.heap.size, 2, none⟩ = some (.int .i64 x.n) := HX2.out.at_ 2 _ rfl
    have hTr := HTr.out
    have hfn := hTr.f.few
    have hrn := hTr.r.few
    have hf1 := hTr.f.one
    have hr1 := hTr.r.one
    have f0 : 20 ≤ fI x 0 ∧ fI x 0 ≤ 60 := hTr.f.rng 0 (by omega)
    have r0 : 9 ≤ rI x 0 ∧ rI x 0 ≤ 52 := hTr.r.rng 0 (by omega)
    have fl : 20 ≤ fI x (x.f.length - 1) ∧ fI x (x.f.length - 1) ≤ 60 := hTr.f.rng (x.f.length - 1) (by omega)
    have rl : 9 ≤ rI x (x.r.length - 1) ∧ rI x (x.r.length - 1) ≤ 52 := hTr.r.rng (x.r.length - 1) (by omega)
    obtain ⟨fb, fo, rfl, -, fc⟩ := HT2.out.f.at_ (k := 0) (by omega)
    obtain ⟨rb, ro, rfl, -, rc⟩ := HT2.out.r.at_ (k := 0) (by omega)
    have hcf0 : w2.cell? ⟨fb, fo, none⟩ = some (.int .i64 (fI x 0)) := fc 0 (by omega)
    have hcr0 : w2.cell? ⟨rb, ro, none⟩ = some (.int .i64 (rI x 0)) := rc 0 (by omega)
    have hcfl : w2.cell? ⟨fb, fo + (x.f.length - 1), none⟩ = some (.int .i64 (fI x (x.f.length - 1))) := fc _ (by omega)
    have hcrl : w2.cell? ⟨rb, ro + (x.r.length - 1), none⟩ = some (.int .i64 (rI x (x.r.length - 1))) := rc _ (by omega)
    clear fc rc HX2 HT2 HX1 HT1 hTr
    generalize fI x 0 = f0v at *
    generalize rI x 0 = r0v at *
    generalize fI x (x.f.length - 1) = fv at *
    generalize rI x (x.r.length - 1) = rv at *
    have en1 : IntKind.i64.wrap ((x.f.length : Int) - 1) = ((x.f.length - 1 : Nat) : Int) := (IntWalk.i64_in _ (by omega)).trans (by omega)
    have en2 : IntKind.i64.wrap ((x.r.length : Int) - 1) = ((x.r.length - 1 : Nat) : Int) := (IntWalk.i64_in _ (by omega)).trans (by omega)
    have i1 : ((x.f.length - 1 : Nat) : Int) < x.f.length := by omega
    have i2 : ((x.r.length - 1 : Nat) : Int) < x.r.length := by omega
    have i3 : (0 : Int) < x.f.length := by omega
    have i4 : (0 : Int) < x.r.length := by omega
    have i5 : (0 : Int) ≤ ((x.f.length - 1 : Nat) : Int) := by omega
    have i6 : (0 : Int) ≤ ((x.r.length - 1 : Nat) : Int) := by omega
    generalize x.f.length - 1 = nf at *
    generalize x.r.length - 1 = nr at *
    have m1 := mul_bd (a := 100 * fv) (b := rv) (A := 6000) (B := 52) (by omega) (by omega) (by omega) (by omega)
    have m2 := mul_bd (a := f0v) (b := r0v) (A := 60) (B := 52) (by omega) (by omega) (by omega) (by omega)
    have m3 : 20 * 9 ≤ f0v * r0v := Int.mul_le_mul f0.1 r0.1 (by omega) (by omega)
    have ew1 : IntKind.i64.wrap (100 * fv) = 100 * fv := IntWalk.i64_in _ (by omega)
    have ew2 : IntKind.i64.wrap (100 * fv * rv) = 100 * fv * rv := IntWalk.i64_in _ (by omega)
    have ew3 : IntKind.i64.wrap (f0v * r0v) = f0v * r0v := IntWalk.i64_in _ (by omega)
    have hne : ¬ f0v * r0v = 0 := by omega
    have hne2 : (f0v * r0v == 0) = false := by simp only [beq_eq_false_iff_ne]; exact hne
    have ew5 : (100 * fv * rv).tdiv (f0v * r0v) = 100 * fv * rv / (f0v * r0v) := Int.tdiv_eq_ediv_of_nonneg (by omega)
    have hq0 : 0 ≤ 100 * fv * rv / (f0v * r0v) := Int.ediv_nonneg (by omega) (by omega)
    have hq1 : 100 * fv * rv / (f0v * r0v) ≤ 100 * fv * rv := Int.ediv_le_self _ (by omega)
    have ew6 : IntKind.i64.wrap (100 * fv * rv / (f0v * r0v)) = 100 * fv * rv / (f0v * r0v) := IntWalk.i64_in _ (by omega)
    have hne3 : ¬ f0v = 0 := by omega
    have hne4 : ¬ r0v = 0 := by omega
    clear m1 m2 m3 hq0 hq1 f0 r0 fl rl
    go_upto_region 3 with fail
    go_quiet (fail)
    go_wp2_with fail
    go_quiet (fail)
    go_wp2_with fail
    go_ret2
    exact Gives2.of HV0.out (below_drewN (below_drewN HB2.out _) _)
end Go.Proofs.Ytifblmcocikopaa
