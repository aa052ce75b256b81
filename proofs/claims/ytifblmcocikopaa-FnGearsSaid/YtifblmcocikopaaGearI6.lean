/- The program: the nearest gear. -/
import Derived.Test.YtifblmcocikopaaGearI4
import Derived.Test.YtifblmcocikopaaPlainGear4
import Derived.Test.YtifblmcocikopaaGearFew
namespace Go.Proofs.Ytifblmcocikopaa
open Go.RowKit
set_option linter.unusedSimpArgs false
set_option linter.unusedVariables false

set_option maxRecDepth 100000 in
set_option maxHeartbeats 16000000 in
theorem implNearest9 (x : Trn) (A : Option Addr) (c : Nat) (B : Option Addr) (d : Nat) (dv : Int) (w : World) (T : TrL x A c B d w) :
    Calls Try.prog 17 #[trainV x A c B d, .int .i64 dv] w (IsV w (.tuple #[.int .i64 (nearR x dv).1, .int .i64 (nearR x dv).2.1, .int .i64 (nearR x dv).2.2])) := by
  have HT := Go.Lib.hid T
  have HX := Go.Lib.hid (boxT_box x A c B d w)
  have HXB := Go.Lib.hid (boxT_below x A c B d w)
  clear T
  have H1 := Go.Lib.hid (fun w0 T0 => implTrain x A c B d w0 T0)
  by_cases ht : trainB x = true
  case neg =>
    have HV := Go.Lib.hid (show nearR x dv = (0, 0, 1) by unfold nearR; rw [if_neg ht])
    rw [Bool.not_eq_true] at ht
    rw [ht] at H1
    clear ht
    unfold trainV at *
    go_enter Try.func17, Try.ntmps17
    go_upto_region 1 with fail
    refine wp_gen (R := fun W => Box W w.heap.size (trainC x A c B d) ∧ Below w.heap.size w W) ⟨HX.out, HXB.out⟩ ?_
    rintro W ⟨hx, hb⟩
    have HX1 := Go.Lib.hid hx
    have HB1 := Go.Lib.hid hb
    have HT1 := Go.Lib.hid (HT.out.below hb)
    clear hx hb HX HXB
    have hc0 : W.cell? ⟨w.heap.size, 0, none⟩ = some (.slice A x.f.length c) := HX1.out.at_ 0 _ rfl
    have hc1 : W.cell? ⟨w.heap.size, 1, none⟩ = some (.slice B x.r.length d) := HX1.out.at_ 1 _ rfl
    have hc2 : W.cell? ⟨w.heap.size, 2, none⟩ = some (.int .i64 x.n) := HX1.out.at_ 2 _ rfl
    go_wp2_with fail
    refine (H1.out _ HT1.out).mono ?_
    rintro _ w2 ⟨rfl, b2⟩
    have HX2 := Go.Lib.hid (HX1.out.below b2)
    have HB2 := Go.Lib.hid (upB HB1.out b2)
    have HT2 := Go.Lib.hid (HT1.out.below b2)
    clear b2 hc0 hc1 hc2 HX1 HB1 HT1
    go_wp2_with fail
    refine bodyPost_ret (results_tmp3 rfl _ _ _) rfl ?_
    exact ⟨by rw [HV.out]; rfl, HB2.out⟩
  case pos =>
    by_cases hin : 0 ≤ dv ∧ dv ≤ 20000
    case neg =>
      have HV := Go.Lib.hid (show nearR x dv = (0, 0, 2) by
        unfold nearR
        have hd : (decide (0 ≤ dv) && decide (dv ≤ 20000)) = false := by rw [← Bool.not_eq_true]; simpa using hin
        rw [if_pos ht, hd]
        rfl)
      have HIN := Go.Lib.hid (fun w0 => implInR dv 0 20000 w0)
      rw [show inB dv 0 20000 = false by rw [← Bool.not_eq_true, inB_iff]; exact hin] at HIN
      rw [ht] at H1
      clear ht hin
      unfold trainV at *
      go_enter Try.func17, Try.ntmps17
      go_upto_region 1 with fail
      refine wp_gen (R := fun W => Box W w.heap.size (trainC x A c B d) ∧ Below w.heap.size w W) ⟨HX.out, HXB.out⟩ ?_
      rintro W ⟨hx, hb⟩
      have HX1 := Go.Lib.hid hx
      have HB1 := Go.Lib.hid hb
      have HT1 := Go.Lib.hid (HT.out.below hb)
      clear hx hb HX HXB
      have hc0 : W.cell? ⟨w.heap.size, 0, none⟩ = some (.slice A x.f.length c) := HX1.out.at_ 0 _ rfl
      have hc1 : W.cell? ⟨w.heap.size, 1, none⟩ = some (.slice B x.r.length d) := HX1.out.at_ 1 _ rfl
      have hc2 : W.cell? ⟨w.heap.size, 2, none⟩ = some (.int .i64 x.n) := HX1.out.at_ 2 _ rfl
      go_wp2_with fail
      refine (H1.out _ HT1.out).mono ?_
      rintro _ w2 ⟨rfl, b2⟩
      have HX2 := Go.Lib.hid (HX1.out.below b2)
      have HB2 := Go.Lib.hid (upB HB1.out b2)
      have HT2 := Go.Lib.hid (HT1.out.below b2)
      clear b2 hc0 hc1 hc2 HX1 HB1 HT1
      go_wp2_with fail
      refine (HIN.out _).mono ?_
      rintro _ _ ⟨rfl, rfl⟩
      go_wp2_with fail
      refine bodyPost_ret (results_tmp3 rfl _ _ _) rfl ?_
      exact ⟨by rw [HV.out]; rfl, HB2.out⟩
    case pos =>
      have HV := Go.Lib.hid (show nearR x dv = (((nearI x dv).1 : Int), ((nearI x dv).2 : Int), 0) by
        unfold nearR
        have hd : (decide (0 ≤ dv) && decide (dv ≤ 20000)) = true := by simpa using hin
        rw [if_pos ht, hd]
        rfl)
      have HIN := Go.Lib.hid (fun w0 => implInR dv 0 20000 w0)
      rw [inB_iff.2 hin] at HIN
      obtain ⟨d0, d1⟩ := hin
      have HTR := Go.Lib.hid (trainB_ok ht)
      have HGI := Go.Lib.hid (fun w0 T0 => implGears x A c B d w0 T0 (trainB_ok ht))
      rw [ht] at H1
      have hn1 := ordI_one HTR.out
      have hn36 : (ordI x).length ≤ 36 := ordI_few HTR.out
      have HOK := Go.Lib.hid (fun i (hi : i < (ordI x).length) => ordI_ok (x := x) (mem_getD (gs := ordI x) (i := i) hi))
      have HNE := Go.Lib.hid (nearSt_end HTR.out d0 d1)
      have HNL := Go.Lib.hid (nearSt_l HTR.out d0 d1)
      have HNS := Go.Lib.hid (fun k => show nearSt x dv (ordI x) (k + 1) = if farI x dv ((ordI x).getD k (0, 0)) < (nearSt x dv (ordI x) k).l then nearOf x dv ((ordI x).getD k (0, 0)) else nearSt x dv (ordI x) k from rfl)
      have HN0 := Go.Lib.hid (show nearSt x dv (ordI x) 0 = ⟨20001, 0, 0, 0, 0⟩ from rfl)
      clear ht
      generalize ordI x = L at *
      unfold trainV at *
      go_enter Try.func17, Try.ntmps17
      go_upto_region 1 with fail
      refine wp_gen (R := fun W => Box W w.heap.size (trainC x A c B d) ∧ Below w.heap.size w W) ⟨HX.out, HXB.out⟩ ?_
      rintro W ⟨hx, hb⟩
      have HX1 := Go.Lib.hid hx
      have HB1 := Go.Lib.hid hb
      have HT1 := Go.Lib.hid (HT.out.below hb)
      clear hx hb HX HXB
      have hc0 : W.cell? ⟨w.heap.size, 0, none⟩ = some (.slice A x.f.length c) := HX1.out.at_ 0 _ rfl
      have hc1 : W.cell? ⟨w.heap.size, 1, none⟩ = some (.slice B x.r.length d) := HX1.out.at_ 1 _ rfl
      have hc2 : W.cell? ⟨w.heap.size, 2, none⟩ = some (.int .i64 x.n) := HX1.out.at_ 2 _ rfl
      go_wp2_with fail
      refine (H1.out _ HT1.out).mono ?_
      rintro _ w2 ⟨rfl, b2⟩
      have HX2 := Go.Lib.hid (HX1.out.below b2)
      have HB2 := Go.Lib.hid (upB HB1.out b2)
      have HT2 := Go.Lib.hid (HT1.out.below b2)
      clear b2 hc0 hc1 hc2 HX1 HB1 HT1
      have HXA := Go.Lib.hid (HX2.out.alloc (.cells #[.int .i64 0, .int .i64 0, .int .i64 0, .int .i64 0] 66))
      have HBA := Go.Lib.hid (HB2.out.alloc HB2.out.size (.cells #[.int .i64 0, .int .i64 0, .int .i64 0, .int .i64 0] 66))
      have HTA := Go.Lib.hid (HT2.out.below ((Below.refl w2.heap.size w2).alloc (Nat.le_refl _) (.cells #[.int .i64 0, .int .i64 0, .int .i64 0, .int .i64 0] 66)))
      have HQA := Go.Lib.hid (show Box (w2.alloc (.cells #[.int .i64 0, .int .i64 0, .int .i64 0, .int .i64 0] 66)) w2.heap.size (gC 0 0 0 0) from Box.new rfl rfl)
      have hqw : w.heap.size < w2.heap.size := HX2.out.lt
      clear HX2 HB2 HT2
      go_wp2_with fail
      refine (HIN.out _).mono ?_
      rintro _ _ ⟨rfl, rfl⟩
      go_upto_region 6 with fail
      refine wp_gen (R := fun V => Box V w.heap.size (trainC x A c B d) ∧ Box V w2.heap.size (gC 0 0 0 0) ∧ Below w.heap.size w V ∧ TrL x A c B d V) ⟨HXA.out, HQA.out, HBA.out, HTA.out⟩ ?_
      rintro V ⟨hx, hq, hb, hT⟩
      have HXA := Go.Lib.hid hx
      have HQA := Go.Lib.hid hq
      have HBA := Go.Lib.hid hb
      have HTA := Go.Lib.hid hT
      clear hx hq hb hT
      have hc0 : V.cell? ⟨w.heap.size, 0, none⟩ = some (.slice A x.f.length c) := HXA.out.at_ 0 _ rfl
      have hc1 : V.cell? ⟨w.heap.size, 1, none⟩ = some (.slice B x.r.length d) := HXA.out.at_ 1 _ rfl
      have hc2 : V.cell? ⟨w.heap.size, 2, none⟩ = some (.int .i64 x.n) := HXA.out.at_ 2 _ rfl
      generalize w2.heap.size = q at *
      go_wp2_with fail
      refine (HGI.out _ HTA.out).mono ?_
      rintro _ w3 ⟨g, cap, rfl, hbx, hge, b3⟩
      have HGB := Go.Lib.hid hbx
      have hqg : q < g := Nat.lt_of_lt_of_le HQA.out.lt hge
      have HB3 := Go.Lib.hid (upB HBA.out b3)
      have HX3 := Go.Lib.hid (HXA.out.below b3)
      have HQ3 := Go.Lib.hid (HQA.out.below b3)
      clear hbx hge b3 hc0 hc1 hc2 HXA HBA HQA HTA
      go_wp2_with fail
      go_loopw [8, 22] (fun v u wr => ∃ k : Nat, k ≤ L.length ∧ u = .int .i64 k ∧ v = .int .i64 (nearSt x dv L k).l ∧ Box wr q (gC (nearSt x dv L k).a (nearSt x dv L k).b (nearSt x dv L k).c (nearSt x dv L k).d) ∧ Keep q (q + 1) w3 wr) (fun _ u _ => L.length - (intOf u).toNat)
      case atStart => exact ⟨0, Nat.zero_le _, rfl, by rw [HN0.out], by rw [HN0.out]; exact HQ3.out, Keep.refl _ _ _⟩
      case round =>
        obtain ⟨k, hk, rfl, rfl, hq, hkp⟩ := hrel
        have HQ := Go.Lib.hid hq
        have HK := Go.Lib.hid hkp
        have HBW := Go.Lib.hid (HB3.out.trans (hkp.below (Nat.le_of_lt hqw) HB3.out.size))
        clear hq hkp
        by_cases hlt : k < L.length
        case neg =>
          obtain rfl : k = L.length := by omega
          rw [HNE.out.1, HNE.out.2] at HQ
          have hq0 : wr.cell? ⟨q, 0, none⟩ = some (.int .i64 (nearI x dv).1) := HQ.out.at_ 0 _ rfl
          have hq1 : wr.cell? ⟨q, 1, none⟩ = some (.int .i64 (nearI x dv).2) := HQ.out.at_ 1 _ rfl
          have HBE := Go.Lib.hid (fun m => below_drewN HBW.out m)
          go_upto_region 13 with fail
          go_quiet (fail)
          go_wp2_with fail
          refine bodyPost_ret (results_tmp3 rfl _ _ _) rfl ?_
          exact ⟨by rw [HV.out]; rfl, HBE.out _⟩
        case pos =>
          have hkl : (k : Int) < L.length := by omega
          have HO := Go.Lib.hid (HOK.out k hlt)
          have HSU := Go.Lib.hid (HNS.out k)
          have hls := HNL.out k (by omega)
          obtain ⟨p0, p1, p2, p3⟩ := gbox_at (HGB.out.keep HK.out (by omega)) hlt
          have HXK := Go.Lib.hid (HX3.out.keep HK.out (by omega))
          have pfb := HTR.out.fb HO.out
          have prb := HTR.out.rb HO.out
          have hn0 := HTR.out.n0
          have hn1' := HTR.out.n1
          have hdb := devI_bd HTR.out HO.out
          generalize nearSt x dv L k = N at *
          generalize L.getD k (0, 0) = p at *
          have HDI := Go.Lib.hid (show devI x p = (2 * (x.n * fI x p.1) + rI x p.2) / (2 * rI x p.2) from rfl)
          have hm := mul_bd (show 0 ≤ x.n by omega) hn1' (show 0 ≤ fI x p.1 by omega) pfb.2
          have HDV := Go.Lib.hid (fun w0 => implDevG p.1 p.2 (fI x p.1) (rI x p.2) x.n w0 (IntWalk.i64_in _ (by omega)) (by omega) (by omega) (by omega) (by omega))
          rw [← HDI.out] at HDV
          have HAB := Go.Lib.hid (fun w0 => implAbs (devI x p - dv) w0 (by omega) (by omega))
          have ew : IntKind.i64.wrap (devI x p - dv) = devI x p - dv := IntWalk.i64_in _ (by omega)
          have HFA := Go.Lib.hid (show farI x dv p = max (devI x p - dv) (-(devI x p - dv)) from rfl)
          rw [← HFA.out] at HAB
          have HOF := Go.Lib.hid (show nearOf x dv p = ⟨farI x dv p, p.1, p.2, fI x p.1, rI x p.2⟩ from rfl)
          clear pfb prb hn0 hn1' hdb hm HDI HFA HO hls
          generalize farI x dv p = fa at *
          generalize devI x p = de at *
          generalize fI x p.1 = pf at *
          generalize rI x p.2 = pr at *
          unfold gV at HDV
          have HXL := Go.Lib.hid (HXK.out.alloc (.cells #[.int .i64 (p.1 : Nat), .int .i64 (p.2 : Nat), .int .i64 pf, .int .i64 pr] 66))
          have HQL := Go.Lib.hid (HQ.out.alloc (.cells #[.int .i64 (p.1 : Nat), .int .i64 (p.2 : Nat), .int .i64 pf, .int .i64 pr] 66))
          have HKL := Go.Lib.hid (HK.out.trans (Keep.of_below ((Below.refl wr.heap.size wr).alloc (Nat.le_refl _) (.cells #[.int .i64 (p.1 : Nat), .int .i64 (p.2 : Nat), .int .i64 pf, .int .i64 pr] 66)) (Nat.le_refl _) q (q + 1)))
          have HGL := Go.Lib.hid (gbox p.1 p.2 pf pr wr)
          have hqs : q < wr.heap.size := HQ.out.lt
          go_upto_region 9 with fail
          refine wp_gen (R := fun V4 => Box V4 w.heap.size (trainC x A c B d) ∧ Box V4 q (gC N.a N.b N.c N.d) ∧ Keep q (q + 1) w3 V4 ∧ Box V4 wr.heap.size (gC p.1 p.2 pf pr)) ⟨HXL.out, HQL.out, HKL.out, HGL.out⟩ ?_
          rintro V4 ⟨hx, hq, hkp, hg⟩
          have HXL := Go.Lib.hid hx
          have HQL := Go.Lib.hid hq
          have HKL := Go.Lib.hid hkp
          have HGL := Go.Lib.hid hg
          have hc2 : V4.cell? ⟨w.heap.size, 2, none⟩ = some (.int .i64 x.n) := HXL.out.at_ 2 _ rfl
          obtain ⟨g0, g1, g2, g3⟩ := cells4 hg
          clear hx hq hkp hg p0 p1 p2 p3 HXK HQ HK HBW
          generalize wr.heap.size = t at *
          go_wp2_with fail
          refine (HDV.out _).mono ?_
          rintro _ w4 ⟨rfl, b4⟩
          have HQ4 := Go.Lib.hid (HQL.out.below b4)
          have HK4 := Go.Lib.hid (HKL.out.trans (Keep.of_below b4 (Nat.le_refl _) q (q + 1)))
          have HG4 := Go.Lib.hid (HGL.out.below b4)
          clear b4 hc2 g0 g1 g2 g3 HXL HQL HKL HGL
          go_wp2_with fail
          refine (HAB.out _).mono ?_
          rintro _ _ ⟨rfl, rfl⟩
          by_cases hless : fa < N.l
          case pos =>
            rw [if_pos hless, HOF.out] at HSU
            obtain ⟨g0, g1, g2, g3⟩ := cells4 HG4.out
            obtain ⟨m0, m1, m2, m3⟩ := cells4 HQ4.out
            have f0 := HQ4.out.fr 0
            have f1 := HQ4.out.fr 1
            have f2 := HQ4.out.fr 2
            have f3 := HQ4.out.fr 3
            have HQ5 := Go.Lib.hid (put4_box (a2 := p.1) (b2 := p.2) (c2 := pf) (d2 := pr) HQ4.out)
            have HK5 := Go.Lib.hid (HK4.out.trans (put4_keep w4 q 0 p.1 p.2 pf pr))
            go_wp2_with fail
            go_roundw
            case rel => exact ⟨k + 1, by omega, by go_num, by rw [HSU.out], by rw [HSU.out]; exact HQ5.out, HK5.out⟩
            case measure => simp [intOf]; omega
          case neg =>
            rw [if_neg hless] at HSU
            go_wp2_with fail
            go_roundw
            case rel => exact ⟨k + 1, by omega, by go_num, by rw [HSU.out], by rw [HSU.out]; exact HQ4.out, HK4.out⟩
            case measure => simp [intOf]; omega
end Go.Proofs.Ytifblmcocikopaa
