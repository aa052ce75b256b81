/- The program: developments, speeds, cadences, the range. -/
import Derived.Test.YtifblmcocikopaaGearI3
namespace Go.Proofs.Ytifblmcocikopaa
open Go.RowKit
set_option linter.unusedSimpArgs false
set_option linter.unusedVariables false

theorem code9_or {x : Trn} {f r : Int} (h : ¬ (trainB x = true ∧ gearB x f r = true)) : (code9 x f r = 1 ∨ code9 x f r = 2) ∧ gearAtV x f r = gV 0 0 0 0 := by
  unfold code9 gearAtV
  by_cases ht : trainB x = true
  · have hg : ¬ gearB x f r = true := fun hg => h ⟨ht, hg⟩
    simp [ht, hg]
  · simp [ht]
theorem cadTo_at (x : Trn) (g : Gr) (s : Int) (k : Nat) (h : k < 201) : cadTo x g s (k : Int) (201 - k) = if s ≤ speedI x g (k : Int) then ((k : Int), 0) else cadTo x g s ((k + 1 : Nat) : Int) (201 - (k + 1)) := by
  rw [show 201 - k = (201 - (k + 1)) + 1 by omega]
  rfl
theorem code9_ok {x : Trn} {f r : Int} (ht : trainB x = true) (hg : gearB x f r = true) : code9 x f r = 0 ∧ gearAtV x f r = gV f r (fI x f.toNat) (rI x r.toNat) := by
  unfold code9 gearAtV
  simp [ht, hg]
set_option maxRecDepth 100000 in
set_option maxHeartbeats 4000000 in
theorem implDevOf (x : Trn) (A : Option Addr) (c : Nat) (B : Option Addr) (d : Nat) (f r : Int) (w : World) (T : TrL x A c B d w) :
    Calls Try.prog 22 #[trainV x A c B d, .int .i64 f, .int .i64 r] w (Gives2 (devR x f r) w) := by
  have HT := Go.Lib.hid T
  have HX := Go.Lib.hid (boxT_box x A c B d w)
  have HXB := Go.Lib.hid (boxT_below x A c B d w)
  clear T
  have HGA := Go.Lib.hid (fun w0 T0 => implGearAt x A c B d f r w0 T0)
  by_cases hok : trainB x = true ∧ gearB x f r = true
  case neg =>
    obtain ⟨hz, hv⟩ := code9_or hok
    have HV := Go.Lib.hid (show devR x f r = (0, code9 x f r) by
      unfold devR code9
      by_cases ht : trainB x = true
      · have hg : ¬ gearB x f r = true := fun hg => hok ⟨ht, hg⟩
        simp [ht, hg]
      · simp [ht])
    rw [hv] at HGA
    rw [HV.out]
    generalize code9 x f r = z at *
    have hz0 : ¬ z = 0 := by omega
    have hzb : (z != 0) = true := by simpa using hz0
    clear hz hok hv HV
    unfold gV at HGA
    unfold trainV at *
    go_enter Try.func22, Try.ntmps22
    go_upto_region 1 with fail
    refine wp_gen (R := fun W => Box W w.heap.size (trainC x A c B d) ∧ Below w.heap.size w W) ⟨HX.out, HXB.out⟩ ?_
    rintro W ⟨hx, hb⟩
    have HX1 := Go.Lib.hid hx
    have HB1 := Go.Lib.hid hb
    have HT1 := Go.Lib.hid (HT.out.below hb)
    clear hx hb HX HXB
    have hc0 : W.cell? ⟨w.heap.size, 0, none⟩ = some (.slice A x.f.length c) := HX1.out.at_ 0 _ rfl
    have hc1 : W.cell? ⟨w.heap.size, 1, none⟩ = some (.slice B x.r.length d) := HX1.out.at_ 1 _ rfl
    have hc2 : W.cell? ⟨w.heap.size, 2, none⟩ = some (.int .i64 x.n) := HX1.out.at_ 2 _ rfl
    go_wp2_with fail
    refine (HGA.out _ HT1.out).mono ?_
    rintro _ w2 ⟨rfl, b2⟩
    have HX2 := Go.Lib.hid ((HX1.out.below b2).alloc (.cells #[.int .i64 0, .int .i64 0, .int .i64 0, .int .i64 0] 66))
    have HB2 := Go.Lib.hid ((upB HB1.out b2).alloc (upB HB1.out b2).size (.cells #[.int .i64 0, .int .i64 0, .int .i64 0, .int .i64 0] 66))
    have HG2 := Go.Lib.hid (show Box (w2.alloc (.cells #[.int .i64 0, .int .i64 0, .int .i64 0, .int .i64 0] 66)) w2.heap.size (gC 0 0 0 0) from Box.new rfl rfl)
    clear b2 hc0 hc1 hc2 HX1 HB1
    go_upto_region 2 with fail
    refine wp_gen (R := fun W2 => Box W2 w.heap.size (trainC x A c B d) ∧ Box W2 w2.heap.size (gC 0 0 0 0) ∧ Below w.heap.size w W2) ⟨HX2.out, HG2.out, HB2.out⟩ ?_
    rintro W2 ⟨hx, hg, hb⟩
    have HX3 := Go.Lib.hid hx
    have HG3 := Go.Lib.hid hg
    have HB3 := Go.Lib.hid hb
    clear hx hg hb HX2 HG2 HB2
    go_wp2_with fail
    go_ret2
    exact ⟨rfl, HB3.out⟩
  case pos =>
    obtain ⟨ht, hg⟩ := hok
    obtain ⟨hz, hv⟩ := code9_ok ht hg
    rw [hz, hv] at HGA
    have HTR := Go.Lib.hid (trainB_ok ht)
    have HGO := Go.Lib.hid (gearB_ok hg).2.2
    have HV := Go.Lib.hid (show devR x f r = ((2 * (x.n * fI x f.toNat) + rI x r.toNat) / (2 * rI x r.toNat), 0) by unfold devR; rw [if_pos ht, if_pos hg]; rfl)
    rw [HV.out]
    have hfb : 20 ≤ fI x f.toNat ∧ fI x f.toNat ≤ 60 := HTR.out.fb HGO.out
    have hrb : 9 ≤ rI x r.toNat ∧ rI x r.toNat ≤ 52 := HTR.out.rb HGO.out
    have hn0 := HTR.out.n0
    have hn1 := HTR.out.n1
    have hm := mul_bd (show 0 ≤ x.n by omega) hn1 (show 0 ≤ fI x f.toNat by omega) hfb.2
    have HDV := Go.Lib.hid (fun w0 => implDevG f r (fI x f.toNat) (rI x r.toNat) x.n w0 (IntWalk.i64_in _ (by omega)) (by omega) (by omega) (by omega) (by omega))
    clear hz hv ht hg hfb hrb hn0 hn1 hm HV HTR HGO
    generalize fI x f.toNat = tf at *
    generalize rI x r.toNat = tr at *
    unfold gV at *
    unfold trainV at *
    go_enter Try.func22, Try.ntmps22
    go_upto_region 1 with fail
    refine wp_gen (R := fun W => Box W w.heap.size (trainC x A c B d) ∧ Below w.heap.size w W) ⟨HX.out, HXB.out⟩ ?_
    rintro W ⟨hx, hb⟩
    have HX1 := Go.Lib.hid hx
    have HB1 := Go.Lib.hid hb
    have HT1 := Go.Lib.hid (HT.out.below hb)
    clear hx hb HX HXB
    have hc0 : W.cell? ⟨w.heap.size, 0, none⟩ = some (.slice A x.f.length c) := HX1.out.at_ 0 _ rfl
    have hc1 : W.cell? ⟨w.heap.size, 1, none⟩ = some (.slice B x.r.length d) := HX1.out.at_ 1 _ rfl
    have hc2 : W.cell? ⟨w.heap.size, 2, none⟩ = some (.int .i64 x.n) := HX1.out.at_ 2 _ rfl
    go_wp2_with fail
    refine (HGA.out _ HT1.out).mono ?_
    rintro _ w2 ⟨rfl, b2⟩
    have HX2 := Go.Lib.hid ((HX1.out.below b2).alloc (.cells #[.int .i64 f, .int .i64 r, .int .i64 tf, .int .i64 tr] 66))
    have HB2 := Go.Lib.hid ((upB HB1.out b2).alloc (upB HB1.out b2).size (.cells #[.int .i64 f, .int .i64 r, .int .i64 tf, .int .i64 tr] 66))
    have HG2 := Go.Lib.hid (show Box (w2.alloc (.cells #[.int .i64 f, .int .i64 r, .int .i64 tf, .int .i64 tr] 66)) w2.heap.size (gC f r tf tr) from Box.new rfl rfl)
    clear b2 hc0 hc1 hc2 HX1 HB1
    go_upto_region 2 with fail
    refine wp_gen (R := fun W2 => Box W2 w.heap.size (trainC x A c B d) ∧ Box W2 w2.heap.size (gC f r tf tr) ∧ Below w.heap.size w W2) ⟨HX2.out, HG2.out, HB2.out⟩ ?_
    rintro W2 ⟨hx, hg, hb⟩
    have HX3 := Go.Lib.hid hx
    have HG3 := Go.Lib.hid hg
    have HB3 := Go.Lib.hid hb
    clear hx hg hb HX2 HG2 HB2
    have hc2 : W2.cell? ⟨w.heap.size, 2, none⟩ = some (.int .i64 x.n) := HX3.out.at_ 2 _ rfl
    have hg0 : W2.cell? ⟨w2.heap.size, 0, none⟩ = some (.int .i64 f) := HG3.out.at_ 0 _ rfl
    have hg1 : W2.cell? ⟨w2.heap.size, 1, none⟩ = some (.int .i64 r) := HG3.out.at_ 1 _ rfl
    have hg2 : W2.cell? ⟨w2.heap.size, 2, none⟩ = some (.int .i64 tf) := HG3.out.at_ 2 _ rfl
    have hg3 : W2.cell? ⟨w2.heap.size, 3, none⟩ = some (.int .i64 tr) := HG3.out.at_ 3 _ rfl
    go_wp2_with fail
    refine (HDV.out _).mono ?_
    rintro _ w4 ⟨rfl, b4⟩
    have HB4 := Go.Lib.hid (upB HB3.out b4)
    clear b4
    go_wp2_with fail
    go_ret2
    exact ⟨rfl, HB4.out⟩
set_option maxRecDepth 100000 in
set_option maxHeartbeats 4000000 in
theorem implSpeedAt (x : Trn) (A : Option Addr) (c : Nat) (B : Option Addr) (d : Nat) (f r ca : Int) (w : World) (T : TrL x A c B d w) :
    Calls Try.prog 38 #[trainV x A c B d, .int .i64 f, .int .i64 r, .int .i64 ca] w (Gives2 (speedR x f r ca) w) := by
  have HT := Go.Lib.hid T
  have HX := Go.Lib.hid (boxT_box x A c B d w)
  have HXB := Go.Lib.hid (boxT_below x A c B d w)
  clear T
  have HGA := Go.Lib.hid (fun w0 T0 => implGearAt x A c B d f r w0 T0)
  by_cases hok : trainB x = true ∧ gearB x f r = true
  case neg =>
    obtain ⟨hz, hv⟩ := code9_or hok
    have HV := Go.Lib.hid (show speedR x f r ca = (0, code9 x f r) by
      unfold speedR code9
      by_cases ht : trainB x = true
      · have hg : ¬ gearB x f r = true := fun hg => hok ⟨ht, hg⟩
        simp [ht, hg]
      · simp [ht])
    rw [hv] at HGA
    rw [HV.out]
    generalize code9 x f r = z at *
    have hz0 : ¬ z = 0 := by omega
    have hzb : (z != 0) = true := by simpa using hz0
    clear hz hok hv HV
    unfold gV at HGA
    unfold trainV at *
    go_enter Try.func38, Try.ntmps38
    go_upto_region 1 with fail
    refine wp_gen (R := fun W => Box W w.heap.size (trainC x A c B d) ∧ Below w.heap.size w W) ⟨HX.out, HXB.out⟩ ?_
    rintro W ⟨hx, hb⟩
    have HX1 := Go.Lib.hid hx
    have HB1 := Go.Lib.hid hb
    have HT1 := Go.Lib.hid (HT.out.below hb)
    clear hx hb HX HXB
    have hc0 : W.cell? ⟨w.heap.size, 0, none⟩ = some (.slice A x.f.length c) := HX1.out.at_ 0 _ rfl
    have hc1 : W.cell? ⟨w.heap.size, 1, none⟩ = some (.slice B x.r.length d) := HX1.out.at_ 1 _ rfl
    have hc2 : W.cell? ⟨w.heap.size, 2, none⟩ = some (.int .i64 x.n) := HX1.out.at_ 2 _ rfl
    go_wp2_with fail
    refine (HGA.out _ HT1.out).mono ?_
    rintro _ w2 ⟨rfl, b2⟩
    have HX2 := Go.Lib.hid ((HX1.out.below b2).alloc (.cells #[.int .i64 0, .int .i64 0, .int .i64 0, .int .i64 0] 66))
    have HB2 := Go.Lib.hid ((upB HB1.out b2).alloc (upB HB1.out b2).size (.cells #[.int .i64 0, .int .i64 0, .int .i64 0, .int .i64 0] 66))
    have HG2 := Go.Lib.hid (show Box (w2.alloc (.cells #[.int .i64 0, .int .i64 0, .int .i64 0, .int .i64 0] 66)) w2.heap.size (gC 0 0 0 0) from Box.new rfl rfl)
    clear b2 hc0 hc1 hc2 HX1 HB1
    go_upto_region 2 with fail
    refine wp_gen (R := fun W2 => Box W2 w.heap.size (trainC x A c B d) ∧ Box W2 w2.heap.size (gC 0 0 0 0) ∧ Below w.heap.size w W2) ⟨HX2.out, HG2.out, HB2.out⟩ ?_
    rintro W2 ⟨hx, hg, hb⟩
    have HX3 := Go.Lib.hid hx
    have HG3 := Go.Lib.hid hg
    have HB3 := Go.Lib.hid hb
    clear hx hg hb HX2 HG2 HB2
    go_wp2_with fail
    go_ret2
    exact ⟨rfl, HB3.out⟩
  case pos =>
    obtain ⟨ht, hg⟩ := hok
    obtain ⟨hz, hv⟩ := code9_ok ht hg
    rw [hz, hv] at HGA
    have HTR := Go.Lib.hid (trainB_ok ht)
    have HGO := Go.Lib.hid (gearB_ok hg).2.2
    by_cases hin : 0 ≤ ca ∧ ca ≤ 200
    case neg =>
      have HV := Go.Lib.hid (show speedR x f r ca = (0, 2) by
        unfold speedR
        have hd : (decide (0 ≤ ca) && decide (ca ≤ 200)) = false := by rw [← Bool.not_eq_true]; simpa using hin
        rw [if_pos ht, hd, Bool.and_false]
        rfl)
      rw [HV.out]
      have HIN := Go.Lib.hid (fun w0 => implInR ca 0 200 w0)
      rw [show inB ca 0 200 = false by rw [← Bool.not_eq_true, inB_iff]; exact hin] at HIN
      clear hz hv ht hg HV HTR HGO hin
      generalize fI x f.toNat = tf at *
      generalize rI x r.toNat = tr at *
      unfold gV at *
      unfold trainV at *
      go_enter Try.func38, Try.ntmps38
      go_upto_region 1 with fail
      refine wp_gen (R := fun W => Box W w.heap.size (trainC x A c B d) ∧ Below w.heap.size w W) ⟨HX.out, HXB.out⟩ ?_
      rintro W ⟨hx, hb⟩
      have HX1 := Go.Lib.hid hx
      have HB1 := Go.Lib.hid hb
      have HT1 := Go.Lib.hid (HT.out.below hb)
      clear hx hb HX HXB
      have hc0 : W.cell? ⟨w.heap.size, 0, none⟩ = some (.slice A x.f.length c) := HX1.out.at_ 0 _ rfl
      have hc1 : W.cell? ⟨w.heap.size, 1, none⟩ = some (.slice B x.r.length d) := HX1.out.at_ 1 _ rfl
      have hc2 : W.cell? ⟨w.heap.size, 2, none⟩ = some (.int .i64 x.n) := HX1.out.at_ 2 _ rfl
      go_wp2_with fail
      refine (HGA.out _ HT1.out).mono ?_
      rintro _ w2 ⟨rfl, b2⟩
      have HX2 := Go.Lib.hid ((HX1.out.below b2).alloc (.cells #[.int .i64 f, .int .i64 r, .int .i64 tf, .int .i64 tr] 66))
      have HB2 := Go.Lib.hid ((upB HB1.out b2).alloc (upB HB1.out b2).size (.cells #[.int .i64 f, .int .i64 r, .int .i64 tf, .int .i64 tr] 66))
      have HG2 := Go.Lib.hid (show Box (w2.alloc (.cells #[.int .i64 f, .int .i64 r, .int .i64 tf, .int .i64 tr] 66)) w2.heap.size (gC f r tf tr) from Box.new rfl rfl)
      clear b2 hc0 hc1 hc2 HX1 HB1
      go_upto_region 2 with fail
      refine wp_gen (R := fun W2 => Box W2 w.heap.size (trainC x A c B d) ∧ Box W2 w2.heap.size (gC f r tf tr) ∧ Below w.heap.size w W2) ⟨HX2.out, HG2.out, HB2.out⟩ ?_
      rintro W2 ⟨hx, hg, hb⟩
      have HX3 := Go.Lib.hid hx
      have HG3 := Go.Lib.hid hg
      have HB3 := Go.Lib.hid hb
      clear hx hg hb HX2 HG2 HB2
      go_wp2_with fail
      refine (HIN.out _).mono ?_
      rintro _ _ ⟨rfl, rfl⟩
      go_wp2_with fail
      go_ret2
      exact ⟨rfl, HB3.out⟩
    case pos =>
      have HV := Go.Lib.hid (show speedR x f r ca = (60 * ca * x.n * fI x f.toNat / (1000 * rI x r.toNat), 0) by
        unfold speedR
        have hd : (decide (0 ≤ ca) && decide (ca ≤ 200)) = true := by simpa using hin
        rw [if_pos ht, hd, hg, Bool.and_true, if_pos rfl]
        try rfl)
      rw [HV.out]
      have HIN := Go.Lib.hid (fun w0 => implInR ca 0 200 w0)
      rw [inB_iff.2 hin] at HIN
      obtain ⟨i0, i1⟩ := hin
      have hfb : 20 ≤ fI x f.toNat ∧ fI x f.toNat ≤ 60 := HTR.out.fb HGO.out
      have hrb : 9 ≤ rI x r.toNat ∧ rI x r.toNat ≤ 52 := HTR.out.rb HGO.out
      have hn0 := HTR.out.n0
      have hn1 := HTR.out.n1
      have hm := mul_bd (show 0 ≤ x.n by omega) hn1 (show 0 ≤ fI x f.toNat by omega) hfb.2
      have HSP := Go.Lib.hid (fun w0 => implSpeedG f r (fI x f.toNat) (rI x r.toNat) x.n ca w0 (by omega) hn1 (by omega) hfb.2 (by omega) hrb.2 i0 i1)
      clear hz hv ht hg hfb hrb hn0 hn1 hm HV HTR HGO
      generalize fI x f.toNat = tf at *
      generalize rI x r.toNat = tr at *
      unfold gV at *
      unfold trainV at *
      go_enter Try.func38, Try.ntmps38
      go_upto_region 1 with fail
      refine wp_gen (R := fun W => Box W w.heap.size (trainC x A c B d) ∧ Below w.heap.size w W) ⟨HX.out, HXB.out⟩ ?_
      rintro W ⟨hx, hb⟩
      have HX1 := Go.Lib.hid hx
      have HB1 := Go.Lib.hid hb
      have HT1 := Go.Lib.hid (HT.out.below hb)
      clear hx hb HX HXB
      have hc0 : W.cell? ⟨w.heap.size, 0, none⟩ = some (.slice A x.f.length c) := HX1.out.at_ 0 _ rfl
      have hc1 : W.cell? ⟨w.heap.size, 1, none⟩ = some (.slice B x.r.length d) := HX1.out.at_ 1 _ rfl
      have hc2 : W.cell? ⟨w.heap.size, 2, none⟩ = some (.int .i64 x.n) := HX1.out.at_ 2 _ rfl
      go_wp2_with fail
      refine (HGA.out _ HT1.out).mono ?_
      rintro _ w2 ⟨rfl, b2⟩
      have HX2 := Go.Lib.hid ((HX1.out.below b2).alloc (.cells #[.int .i64 f, .int .i64 r, .int .i64 tf, .int .i64 tr] 66))
      have HB2 := Go.Lib.hid ((upB HB1.out b2).alloc (upB HB1.out b2).size (.cells #[.int .i64 f, .int .i64 r, .int .i64 tf, .int .i64 tr] 66))
      have HG2 := Go.Lib.hid (show Box (w2.alloc (.cells #[.int .i64 f, .int .i64 r, .int .i64 tf, .int .i64 tr] 66)) w2.heap.size (gC f r tf tr) from Box.new rfl rfl)
      clear b2 hc0 hc1 hc2 HX1 HB1
      go_upto_region 2 with fail
      refine wp_gen (R := fun W2 => Box W2 w.heap.size (trainC x A c B d) ∧ Box W2 w2.heap.size (gC f r tf tr) ∧ Below w.heap.size w W2) ⟨HX2.out, HG2.out, HB2.out⟩ ?_
      rintro W2 ⟨hx, hg, hb⟩
      have HX3 := Go.Lib.hid hx
      have HG3 := Go.Lib.hid hg
      have HB3 := Go.Lib.hid hb
      clear hx hg hb HX2 HG2 HB2
      have hc2 : W2.cell? ⟨w.heap.size, 2, none⟩ = some (.int .i64 x.n) := HX3.out.at_ 2 _ rfl
      have hg0 : W2.cell? ⟨w2.heap.size, 0, none⟩ = some (.int .i64 f) := HG3.out.at_ 0 _ rfl
      have hg1 : W2.cell? ⟨w2.heap.size, 1, none⟩ = some (.int .i64 r) := HG3.out.at_ 1 _ rfl
      have hg2 : W2.cell? ⟨w2.heap.size, 2, none⟩ = some (.int .i64 tf) := HG3.out.at_ 2 _ rfl
      have hg3 : W2.cell? ⟨w2.heap.size, 3, none⟩ = some (.int .i64 tr) := HG3.out.at_ 3 _ rfl
      go_wp2_with fail
      refine (HIN.out _).mono ?_
      rintro _ _ ⟨rfl, rfl⟩
      go_wp2_with fail
      refine (HSP.out _).mono ?_
      rintro _ w4 ⟨rfl, b4⟩
      have HB4 := Go.Lib.hid (upB HB3.out b4)
      clear b4
      go_wp2_with fail
      go_ret2
      exact ⟨rfl, HB4.out⟩
set_option maxRecDepth 100000 in
set_option maxHeartbeats 4000000 in
theorem implCadFor (x : Trn) (A : Option Addr) (c : Nat) (B : Option Addr) (d : Nat) (f r s : Int) (w : World) (T : TrL x A c B d w) :
    Calls Try.prog 35 #[trainV x A c B d, .int .i64 f, .int .i64 r, .int .i64 s] w (Gives2 (cadR x f r s) w) := by
  have HT := Go.Lib.hid T
  have HX := Go.Lib.hid (boxT_box x A c B d w)
  have HXB := Go.Lib.hid (boxT_below x A c B d w)
  clear T
  have HGA := Go.Lib.hid (fun w0 T0 => implGearAt x A c B d f r w0 T0)
  by_cases hok : trainB x = true ∧ gearB x f r = true
  case neg =>
    obtain ⟨hz, hv⟩ := code9_or hok
    have HV := Go.Lib.hid (show cadR x f r s = (0, code9 x f r) by
      unfold cadR code9
      by_cases ht : trainB x = true
      · have hg : ¬ gearB x f r = true := fun hg => hok ⟨ht, hg⟩
        simp [ht, hg]
      · simp [ht])
    rw [hv] at HGA
    rw [HV.out]
    generalize code9 x f r = z at *
    have hz0 : ¬ z = 0 := by omega
    have hzb : (z != 0) = true := by simpa using hz0
    clear hz hok hv HV
    unfold gV at HGA
    unfold trainV at *
    go_enter Try.func35, Try.ntmps35
    go_upto_region 1 with fail
    refine wp_gen (R := fun W => Box W w.heap.size (trainC x A c B d) ∧ Below w.heap.size w W) ⟨HX.out, HXB.out⟩ ?_
    rintro W ⟨hx, hb⟩
    have HX1 := Go.Lib.hid hx
    have HB1 := Go.Lib.hid hb
    have HT1 := Go.Lib.hid (HT.out.below hb)
    clear hx hb HX HXB
    have hc0 : W.cell? ⟨w.heap.size, 0, none⟩ = some (.slice A x.f.length c) := HX1.out.at_ 0 _ rfl
    have hc1 : W.cell? ⟨w.heap.size, 1, none⟩ = some (.slice B x.r.length d) := HX1.out.at_ 1 _ rfl
    have hc2 : W.cell? ⟨w.heap.size, 2, none⟩ = some (.int .i64 x.n) := HX1.out.at_ 2 _ rfl
    go_wp2_with fail
    refine (HGA.out _ HT1.out).mono ?_
    rintro _ w2 ⟨rfl, b2⟩
    have HX2 := Go.Lib.hid ((HX1.out.below b2).alloc (.cells #[.int .i64 0, .int .i64 0, .int .i64 0, .int .i64 0] 66))
    have HB2 := Go.Lib.hid ((upB HB1.out b2).alloc (upB HB1.out b2).size (.cells #[.int .i64 0, .int .i64 0, .int .i64 0, .int .i64 0] 66))
    have HG2 := Go.Lib.hid (show Box (w2.alloc (.cells #[.int .i64 0, .int .i64 0, .int .i64 0, .int .i64 0] 66)) w2.heap.size (gC 0 0 0 0) from Box.new rfl rfl)
    clear b2 hc0 hc1 hc2 HX1 HB1
    go_upto_region 2 with fail
    refine wp_gen (R := fun W2 => Box W2 w.heap.size (trainC x A c B d) ∧ Box W2 w2.heap.size (gC 0 0 0 0) ∧ Below w.heap.size w W2) ⟨HX2.out, HG2.out, HB2.out⟩ ?_
    rintro W2 ⟨hx, hg, hb⟩
    have HX3 := Go.Lib.hid hx
    have HG3 := Go.Lib.hid hg
    have HB3 := Go.Lib.hid hb
    clear hx hg hb HX2 HG2 HB2
    go_wp2_with fail
    go_ret2
    exact ⟨rfl, HB3.out⟩
  case pos =>
    obtain ⟨ht, hg⟩ := hok
    obtain ⟨hz, hv⟩ := code9_ok ht hg
    rw [hz, hv] at HGA
    have HTR := Go.Lib.hid (trainB_ok ht)
    have HGO := Go.Lib.hid (gearB_ok hg).2.2
    by_cases hin : 0 ≤ s ∧ s ≤ 200000
    case neg =>
      have HV := Go.Lib.hid (show cadR x f r s = (0, 2) by
        unfold cadR
        have hd : (decide (0 ≤ s) && decide (s ≤ 200000)) = false := by rw [← Bool.not_eq_true]; simpa using hin
        rw [if_pos ht, hd, Bool.and_false]
        rfl)
      rw [HV.out]
      have HIN := Go.Lib.hid (fun w0 => implInR s 0 200000 w0)
      rw [show inB s 0 200000 = false by rw [← Bool.not_eq_true, inB_iff]; exact hin] at HIN
      clear hz hv ht hg HV HTR HGO hin
      generalize fI x f.toNat = tf at *
      generalize rI x r.toNat = tr at *
      unfold gV at *
      unfold trainV at *
      go_enter Try.func35, Try.ntmps35
      go_upto_region 1 with fail
      refine wp_gen (R := fun W => Box W w.heap.size (trainC x A c B d) ∧ Below w.heap.size w W) ⟨HX.out, HXB.out⟩ ?_
      rintro W ⟨hx, hb⟩
      have HX1 := Go.Lib.hid hx
      have HB1 := Go.Lib.hid hb
      have HT1 := Go.Lib.hid (HT.out.below hb)
      clear hx hb HX HXB
      have hc0 : W.cell? ⟨w.heap.size, 0, none⟩ = some (.slice A x.f.length c) := HX1.out.at_ 0 _ rfl
      have hc1 : W.cell? ⟨w.heap.size, 1, none⟩ = some (.slice B x.r.length d) := HX1.out.at_ 1 _ rfl
      have hc2 : W.cell? ⟨w.heap.size, 2, none⟩ = some (.int .i64 x.n) := HX1.out.at_ 2 _ rfl
      go_wp2_with fail
      refine (HGA.out _ HT1.out).mono ?_
      rintro _ w2 ⟨rfl, b2⟩
      have HX2 := Go.Lib.hid ((HX1.out.below b2).alloc (.cells #[.int .i64 f, .int .i64 r, .int .i64 tf, .int .i64 tr] 66))
      have HB2 := Go.Lib.hid ((upB HB1.out b2).alloc (upB HB1.out b2).size (.cells #[.int .i64 f, .int .i64 r, .int .i64 tf, .int .i64 tr] 66))
      have HG2 := Go.Lib.hid (show Box (w2.alloc (.cells #[.int .i64 f, .int .i64 r, .int .i64 tf, .int .i64 tr] 66)) w2.heap.size (gC f r tf tr) from Box.new rfl rfl)
      clear b2 hc0 hc1 hc2 HX1 HB1
      go_upto_region 2 with fail
      refine wp_gen (R := fun W2 => Box W2 w.heap.size (trainC x A c B d) ∧ Box W2 w2.heap.size (gC f r tf tr) ∧ Below w.heap.size w W2) ⟨HX2.out, HG2.out, HB2.out⟩ ?_
      rintro W2 ⟨hx, hg, hb⟩
      have HX3 := Go.Lib.hid hx
      have HG3 := Go.Lib.hid hg
      have HB3 := Go.Lib.hid hb
      clear hx hg hb HX2 HG2 HB2
      go_wp2_with fail
      refine (HIN.out _).mono ?_
      rintro _ _ ⟨rfl, rfl⟩
      go_wp2_with fail
      go_ret2
      exact ⟨rfl, HB3.out⟩
    case pos =>
      have HV := Go.Lib.hid (show cadR x f r s = cadTo x (f.toNat, r.toNat) s 0 201 by
        unfold cadR
        have hd : (decide (0 ≤ s) && decide (s ≤ 200000)) = true := by simpa using hin
        rw [if_pos ht, hd, hg, Bool.and_true, if_pos rfl]
        try rfl)
      rw [HV.out]
      have HIN := Go.Lib.hid (fun w0 => implInR s 0 200000 w0)
      rw [inB_iff.2 hin] at HIN
      obtain ⟨i0, i1⟩ := hin
      have hfb : 20 ≤ fI x f.toNat ∧ fI x f.toNat ≤ 60 := HTR.out.fb HGO.out
      have hrb : 9 ≤ rI x r.toNat ∧ rI x r.toNat ≤ 52 := HTR.out.rb HGO.out
      have hn0 := HTR.out.n0
      have hn1 := HTR.out.n1
      have hm := mul_bd (show 0 ≤ x.n by omega) hn1 (show 0 ≤ fI x f.toNat by omega) hfb.2
      have HSP := Go.Lib.hid (fun (ca : Int) (h0 : 0 ≤ ca) (h1 : ca ≤ 200) w0 => implSpeedG f r (fI x f.toNat) (rI x r.toNat) x.n ca w0 (by omega) hn1 (by omega) hfb.2 (by omega) hrb.2 h0 h1)
      have HC0 := Go.Lib.hid (fun (k : Nat) (h : k < 201) => cadTo_at x (f.toNat, r.toNat) s k h)
      have HC1 := Go.Lib.hid (show cadTo x (f.toNat, r.toNat) s ((201 : Nat) : Int) (201 - 201) = (0, 4) from rfl)
      have HSE := Go.Lib.hid (fun (ca : Int) => show speedI x (f.toNat, r.toNat) ca = 60 * ca * x.n * fI x f.toNat / (1000 * rI x r.toNat) from rfl)
      have HQ0 := Go.Lib.hid (show cadTo x (f.toNat, r.toNat) s 0 201 = cadTo x (f.toNat, r.toNat) s ((0 : Nat) : Int) (201 - 0) from rfl)
      generalize hgg : (f.toNat, r.toNat) = gg at *
      clear hz hv ht hg hfb hrb hn0 hn1 hm HV HTR HGO hgg
      generalize fI x f.toNat = tf at *
      generalize rI x r.toNat = tr at *
      unfold gV at *
      unfold trainV at *
      go_enter Try.func35, Try.ntmps35
      go_upto_region 1 with fail
      refine wp_gen (R := fun W => Box W w.heap.size (trainC x A c B d) ∧ Below w.heap.size w W) ⟨HX.out, HXB.out⟩ ?_
      rintro W ⟨hx, hb⟩
      have HX1 := Go.Lib.hid hx
      have HB1 := Go.Lib.hid hb
      have HT1 := Go.Lib.hid (HT.out.below hb)
      clear hx hb HX HXB
      have hc0 : W.cell? ⟨w.heap.size, 0, none⟩ = some (.slice A x.f.length c) := HX1.out.at_ 0 _ rfl
      have hc1 : W.cell? ⟨w.heap.size, 1, none⟩ = some (.slice B x.r.length d) := HX1.out.at_ 1 _ rfl
      have hc2 : W.cell? ⟨w.heap.size, 2, none⟩ = some (.int .i64 x.n) := HX1.out.at_ 2 _ rfl
      go_wp2_with fail
      refine (HGA.out _ HT1.out).mono ?_
      rintro _ w2 ⟨rfl, b2⟩
      have HX2 := Go.Lib.hid ((HX1.out.below b2).alloc (.cells #[.int .i64 f, .int .i64 r, .int .i64 tf, .int .i64 tr] 66))
      have HB2 := Go.Lib.hid ((upB HB1.out b2).alloc (upB HB1.out b2).size (.cells #[.int .i64 f, .int .i64 r, .int .i64 tf, .int .i64 tr] 66))
      have HG2 := Go.Lib.hid (show Box (w2.alloc (.cells #[.int .i64 f, .int .i64 r, .int .i64 tf, .int .i64 tr] 66)) w2.heap.size (gC f r tf tr) from Box.new rfl rfl)
      clear b2 hc0 hc1 hc2 HX1 HB1
      go_upto_region 2 with fail
      refine wp_gen (R := fun W2 => Box W2 w.heap.size (trainC x A c B d) ∧ Box W2 w2.heap.size (gC f r tf tr) ∧ Below w.heap.size w W2) ⟨HX2.out, HG2.out, HB2.out⟩ ?_
      rintro W2 ⟨hx, hg, hb⟩
      have HX3 := Go.Lib.hid hx
      have HG3 := Go.Lib.hid hg
      have HB3 := Go.Lib.hid hb
      clear hx hg hb HX2 HG2 HB2
      go_wp2_with fail
      refine (HIN.out _).mono ?_
      rintro _ _ ⟨rfl, rfl⟩
      have HBW := Go.Lib.hid (Below.refl W2.heap.size W2)
      go_wp2_with fail
      go_loopw [26] (fun u wr => ∃ k : Nat, k ≤ 201 ∧ u = .int .i64 k ∧ cadTo x gg s 0 201 = cadTo x gg s (k : Int) (201 - k) ∧ Below W2.heap.size W2 wr) (fun u _ => 201 - (intOf u).toNat)
      case atStart => exact ⟨0, by omega, rfl, HQ0.out, HBW.out⟩
      case round =>
        obtain ⟨k, hk, rfl, hq, hb⟩ := hrel
        have HQ := Go.Lib.hid hq
        have HBK := Go.Lib.hid hb
        have HXK := Go.Lib.hid (HX3.out.below hb)
        have HGK := Go.Lib.hid (HG3.out.below hb)
        clear hq hb HQ0 HBW
        have hc2 : wr.cell? ⟨w.heap.size, 2, none⟩ = some (.int .i64 x.n) := HXK.out.at_ 2 _ rfl
        have hg0 : wr.cell? ⟨w2.heap.size, 0, none⟩ = some (.int .i64 f) := HGK.out.at_ 0 _ rfl
        have hg1 : wr.cell? ⟨w2.heap.size, 1, none⟩ = some (.int .i64 r) := HGK.out.at_ 1 _ rfl
        have hg2 : wr.cell? ⟨w2.heap.size, 2, none⟩ = some (.int .i64 tf) := HGK.out.at_ 2 _ rfl
        have hg3 : wr.cell? ⟨w2.heap.size, 3, none⟩ = some (.int .i64 tr) := HGK.out.at_ 3 _ rfl
        by_cases hlt : k < 201
        case neg =>
          obtain rfl : k = 201 := by omega
          have HBE := Go.Lib.hid (upB HB3.out HBK.out)
          go_wp2_with fail
          go_ret2
          exact Gives2.of (HQ.out.trans HC1.out) HBE.out
        case pos =>
          have hkl : (k : Int) < 201 := by omega
          have HSK := Go.Lib.hid (HSP.out (k : Int) (by omega) (by omega))
          have HC := Go.Lib.hid (HC0.out k hlt)
          rw [← HSE.out] at HSK
          have HBE := Go.Lib.hid (fun w5 (b : Below wr.heap.size wr w5) => upB HB3.out (HBK.out.trans (b.mono HBK.out.size)))
          have HBF := Go.Lib.hid (fun w5 (b : Below wr.heap.size wr w5) => HBK.out.trans (b.mono HBK.out.size))
          generalize speedI x gg (k : Int) = sp at *
          go_wp2_with fail
          refine (HSK.out _).mono ?_
          rintro _ w5 ⟨rfl, b5⟩
          have HB5 := Go.Lib.hid (HBE.out _ b5)
          have HB6 := Go.Lib.hid (HBF.out _ b5)
          clear b5 hc2 hg0 hg1 hg2 hg3
          by_cases hle : s ≤ sp
          case pos =>
            rw [if_pos hle] at HC
            go_wp2_with fail
            go_ret2
            exact Gives2.of (HQ.out.trans HC.out) HB5.out
          case neg =>
            rw [if_neg hle] at HC
            go_wp2_with fail
            go_roundw
            case rel => exact ⟨k + 1, by omega, by go_num, by rw [HQ.out, HC.out], HB6.out⟩
            case measure => simp [intOf]; omega
end Go.Proofs.Ytifblmcocikopaa
