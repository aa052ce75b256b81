/- The turns for a mean, in both. -/
import Derived.Test.YtpcaakmcjdginabTenI2
import Derived.Test.YtpcaakmcjdginabTenS2
namespace Go.Proofs.Ytpcaakmcjdginab
open Go.RowKit
set_option linter.unusedSimpArgs false
set_option linter.unusedVariables false

theorem upI_bd {n d : Int} (hd : 0 < d) (h0 : -10000 ≤ n) (h1 : n ≤ 10000) : -10000 ≤ upI n d ∧ upI n d ≤ 10000 := by
  have q0 : -10000 ≤ (-n) / d := (Int.le_ediv_iff_mul_le hd).2 (by rw [Int.neg_mul]; have := Int.mul_le_mul_of_nonneg_left (show (1 : Int) ≤ d by omega) (show (0 : Int) ≤ 10000 by omega); omega)
  have q1 : (-n) / d ≤ 10000 := by
    have : (-n) / d < 10001 := (Int.ediv_lt_iff_lt_mul hd).2 (by have := Int.mul_le_mul_of_nonneg_left (show (1 : Int) ≤ d by omega) (show (0 : Int) ≤ 10001 by omega); omega)
    omega
  unfold upI
  omega
set_option maxRecDepth 100000 in
set_option maxHeartbeats 4000000 in
theorem specCeil (n d : Int) (w : World) (hd : 0 < d) (hd2 : d ≤ 10000) (h0 : -10000 ≤ n) (h1 : n ≤ 10000) : Calls Try.prog 62 #[.int .i64 n, .int .i64 d] w (Just (.int .i64 (upI n d)) w) := by
  have HD := Go.Lib.hid (specFloor (-n) d w (by omega) (by omega) (by omega) (by omega))
  have HV := Go.Lib.hid (show upI n d = -((-n) / d) from rfl)
  have hu := upI_bd hd h0 h1
  have q0 : -10000 ≤ (-n) / d ∧ (-n) / d ≤ 10000 := by unfold upI at hu; omega
  obtain ⟨q0, q1⟩ := q0
  clear hu
  generalize (-n) / d = q at *
  go_enter Try.func62, Try.ntmps62
  go_wp2_with fail
  refine (HD.out).mono ?_
  rintro _ _ ⟨rfl, rfl⟩
  go_wp2_with fail
  go_ret
  exact ⟨by rw [HV.out]; rfl, rfl⟩
set_option maxRecDepth 100000 in
set_option maxHeartbeats 4000000 in
theorem implFor (A : Option Addr) (c : Nat) (zs : List Int) (B : Option Addr) (d : Nat) (s : List Int) (mean : Int) (w : World) (L : Ls zs A c w) (L2 : Ls s B d w) :
    Calls Try.prog 23 #[.slice A zs.length c, .slice B s.length d, .int .i64 mean] w (Gives2 (forR zs s mean) w) := by
  have HTE := Go.Lib.hid (fun w0 L0 => implTen A c zs w0 L0)
  have HSF := Go.Lib.hid (fun w0 L0 => implStiff B d s w0 L0)
  have HIN := Go.Lib.hid (fun w0 => implIsT mean w0)
  have HL := Go.Lib.hid L
  have HS := Go.Lib.hid L2
  have HB := Go.Lib.hid (Below.refl w.heap.size w)
  clear L L2
  by_cases ht : tenB zs = true
  case neg =>
    have HV := Go.Lib.hid (show forR zs s mean = (0, 1) by simp [forR, ht])
    rw [Bool.not_eq_true] at ht
    rw [ht] at HTE
    go_enter Try.func23, Try.ntmps23
    go_wp2_with fail
    refine (HTE.out _ HL.out).mono ?_
    rintro _ _ ⟨rfl, rfl⟩
    go_wp2_with fail
    go_ret2
    exact Gives2.of HV.out HB.out
  case pos =>
  have HT := Go.Lib.hid (tenB_iff.1 ht)
  rw [ht] at HTE
  by_cases hs : stiffB s = true
  case neg =>
    have HV := Go.Lib.hid (show forR zs s mean = (0, 1) by simp [forR, hs])
    rw [Bool.not_eq_true] at hs
    rw [hs] at HSF
    clear ht hs
    go_enter Try.func23, Try.ntmps23
    go_wp2_with fail
    refine (HTE.out _ HL.out).mono ?_
    rintro _ _ ⟨rfl, rfl⟩
    go_wp2_with fail
    refine (HSF.out _ HS.out).mono ?_
    rintro _ _ ⟨rfl, rfl⟩
    go_wp2_with fail
    go_ret2
    exact Gives2.of HV.out HB.out
  case pos =>
  have HSS := Go.Lib.hid (stiffB_iff.1 hs)
  rw [hs] at HSF
  by_cases hin : 0 ≤ mean ∧ mean ≤ 3000
  case neg =>
    have HV := Go.Lib.hid (show forR zs s mean = (0, 2) by simp [forR, ht, hs]; omega)
    have e : inB mean 0 3000 = false := by rw [← Bool.not_eq_true, inB_iff]; exact hin
    rw [e] at HIN
    clear e hin ht hs
    go_enter Try.func23, Try.ntmps23
    go_wp2_with fail
    refine (HTE.out _ HL.out).mono ?_
    rintro _ _ ⟨rfl, rfl⟩
    go_wp2_with fail
    refine (HSF.out _ HS.out).mono ?_
    rintro _ _ ⟨rfl, rfl⟩
    go_wp2_with fail
    refine (HIN.out _).mono ?_
    rintro _ _ ⟨rfl, rfl⟩
    go_wp2_with fail
    go_ret2
    exact Gives2.of HV.out HB.out
  case pos =>
  have HV := Go.Lib.hid (show forR zs s mean = (forI (gainI s) (meanI zs) mean, 0) by simp [forR, ht, hs, hin])
  rw [inB_iff.2 hin] at HIN
  obtain ⟨p0, p1⟩ := hin
  clear ht hs
  obtain ⟨g0, g1⟩ := HSS.out.gain_bd
  obtain ⟨m0, m1⟩ := meanI_bd HT.out
  have HM := Go.Lib.hid (fun w0 L0 => implMeanI A c zs w0 L0 HT.out)
  have HG := Go.Lib.hid (fun w0 L0 => implPer B d s w0 L0 HSS.out.lo HSS.out.rng HSS.out.hi)
  generalize gainI s = g at *
  generalize meanI zs = m at *
  by_cases hm : mean - m < 0
  case pos =>
    have HU := Go.Lib.hid (fun w0 => implUp (-(mean - m)) g w0 (by omega) (by omega) (by omega) (by omega))
    have e : forI g m mean = -upI (-(mean - m)) g := by unfold forI; rw [if_neg (by omega), show -(mean - m) = m - mean by omega]
    rw [e] at HV
    have hu := upI_bd (n := -(mean - m)) (d := g) (by omega) (by omega) (by omega)
    clear e
    generalize upI (-(mean - m)) g = u at *
    obtain ⟨u0, u1⟩ := hu
    go_enter Try.func23, Try.ntmps23
    go_wp2_with fail
    refine (HTE.out _ HL.out).mono ?_
    rintro _ _ ⟨rfl, rfl⟩
    go_wp2_with fail
    refine (HSF.out _ HS.out).mono ?_
    rintro _ _ ⟨rfl, rfl⟩
    go_wp2_with fail
    refine (HIN.out _).mono ?_
    rintro _ _ ⟨rfl, rfl⟩
    go_wp2_with fail
    refine (HM.out _ HL.out).mono ?_
    rintro _ _ ⟨rfl, rfl⟩
    go_wp2_with fail
    refine (HG.out _ HS.out).mono ?_
    rintro _ _ ⟨rfl, rfl⟩
    go_wp2_with fail
    refine (HU.out _).mono ?_
    rintro _ _ ⟨rfl, rfl⟩
    go_wp2_with fail
    go_ret2
    exact Gives2.of HV.out HB.out
  case neg =>
    have HU := Go.Lib.hid (fun w0 => implUp (mean - m) g w0 (by omega) (by omega) (by omega) (by omega))
    have e : forI g m mean = upI (mean - m) g := by unfold forI; rw [if_pos (by omega)]
    rw [e] at HV
    clear e
    generalize upI (mean - m) g = u at *
    go_enter Try.func23, Try.ntmps23
    go_wp2_with fail
    refine (HTE.out _ HL.out).mono ?_
    rintro _ _ ⟨rfl, rfl⟩
    go_wp2_with fail
    refine (HSF.out _ HS.out).mono ?_
    rintro _ _ ⟨rfl, rfl⟩
    go_wp2_with fail
    refine (HIN.out _).mono ?_
    rintro _ _ ⟨rfl, rfl⟩
    go_wp2_with fail
    refine (HM.out _ HL.out).mono ?_
    rintro _ _ ⟨rfl, rfl⟩
    go_wp2_with fail
    refine (HG.out _ HS.out).mono ?_
    rintro _ _ ⟨rfl, rfl⟩
    go_wp2_with fail
    refine (HU.out _).mono ?_
    rintro _ _ ⟨rfl, rfl⟩
    go_wp2_with fail
    go_ret2
    exact Gives2.of HV.out HB.out
set_option maxRecDepth 100000 in
set_option maxHeartbeats 4000000 in
theorem specFor (A : Option Addr) (c : Nat) (zs : List Int) (B : Option Addr) (d : Nat) (s : List Int) (mean : Int) (w : World) (L : Ls zs A c w) (L2 : Ls s B d w) :
    Calls Try.prog 24 #[.slice A zs.length c, .slice B s.length d, .int .i64 mean] w (Gives2 (forR zs s mean) w) := by
  have HTE := Go.Lib.hid (fun w0 L0 => specTen A c zs w0 L0)
  have HSF := Go.Lib.hid (fun w0 L0 => specStiff B d s w0 L0)
  have HIN := Go.Lib.hid (fun w0 => inN2 mean 0 3000 w0)
  have HL := Go.Lib.hid L
  have HS := Go.Lib.hid L2
  have HB := Go.Lib.hid (Below.refl w.heap.size w)
  clear L L2
  by_cases ht : tenB zs = true
  case neg =>
    have HV := Go.Lib.hid (show forR zs s mean = (0, 1) by simp [forR, ht])
    rw [Bool.not_eq_true] at ht
    rw [ht] at HTE
    go_enter Try.func24, Try.ntmps24
    go_wp2_with fail
    refine (HTE.out _ HL.out).mono ?_
    rintro _ _ ⟨rfl, rfl⟩
    go_wp2_with fail
    go_ret2
    exact Gives2.of HV.out HB.out
  case pos =>
  have HT := Go.Lib.hid (tenB_iff.1 ht)
  rw [ht] at HTE
  by_cases hs : stiffB s = true
  case neg =>
    have HV := Go.Lib.hid (show forR zs s mean = (0, 1) by simp [forR, hs])
    rw [Bool.not_eq_true] at hs
    rw [hs] at HSF
    clear ht hs
    go_enter Try.func24, Try.ntmps24
    go_wp2_with fail
    refine (HTE.out _ HL.out).mono ?_
    rintro _ _ ⟨rfl, rfl⟩
    go_wp2_with fail
    refine (HSF.out _ HS.out).mono ?_
    rintro _ w1 ⟨rfl, b1⟩
    have HB := Go.Lib.hid (upB HB.out b1)
    have HL := Go.Lib.hid (HL.out.below b1)
    have HS := Go.Lib.hid (HS.out.below b1)
    clear b1
    go_wp2_with fail
    go_ret2
    exact Gives2.of HV.out HB.out
  case pos =>
  have HSS := Go.Lib.hid (stiffB_iff.1 hs)
  rw [hs] at HSF
  by_cases hin : 0 ≤ mean ∧ mean ≤ 3000
  case neg =>
    have HV := Go.Lib.hid (show forR zs s mean = (0, 2) by simp [forR, ht, hs]; omega)
    have e : inB mean 0 3000 = false := by rw [← Bool.not_eq_true, inB_iff]; exact hin
    rw [e] at HIN
    clear e hin ht hs
    go_enter Try.func24, Try.ntmps24
    go_wp2_with fail
    refine (HTE.out _ HL.out).mono ?_
    rintro _ _ ⟨rfl, rfl⟩
    go_wp2_with fail
    refine (HSF.out _ HS.out).mono ?_
    rintro _ w1 ⟨rfl, b1⟩
    have HB := Go.Lib.hid (upB HB.out b1)
    have HL := Go.Lib.hid (HL.out.below b1)
    have HS := Go.Lib.hid (HS.out.below b1)
    clear b1
    go_wp2_with fail
    refine (HIN.out _).mono ?_
    rintro _ _ ⟨rfl, rfl⟩
    go_wp2_with fail
    go_ret2
    exact Gives2.of HV.out HB.out
  case pos =>
  have HV := Go.Lib.hid (show forR zs s mean = (forI (gainI s) (meanI zs) mean, 0) by simp [forR, ht, hs, hin])
  rw [inB_iff.2 hin] at HIN
  obtain ⟨p0, p1⟩ := hin
  clear ht hs
  obtain ⟨g0, g1⟩ := HSS.out.gain_bd
  obtain ⟨m0, m1⟩ := meanI_bd HT.out
  have HM := Go.Lib.hid (fun w0 L0 => specMeanI A c zs w0 L0 HT.out)
  have HG := Go.Lib.hid (fun w0 L0 => specGain B d s w0 L0 HSS.out.lo HSS.out.rng HSS.out.hi)
  generalize gainI s = g at *
  generalize meanI zs = m at *
  by_cases hm : m ≤ mean
  case neg =>
    have HU := Go.Lib.hid (fun w0 => specCeil (m - mean) g w0 (by omega) (by omega) (by omega) (by omega))
    have e : forI g m mean = -upI (m - mean) g := by unfold forI; rw [if_neg (by omega)]
    rw [e] at HV
    have hu := upI_bd (n := m - mean) (d := g) (by omega) (by omega) (by omega)
    clear e
    generalize upI (m - mean) g = u at *
    obtain ⟨u0, u1⟩ := hu
    go_enter Try.func24, Try.ntmps24
    go_wp2_with fail
    refine (HTE.out _ HL.out).mono ?_
    rintro _ _ ⟨rfl, rfl⟩
    go_wp2_with fail
    refine (HSF.out _ HS.out).mono ?_
    rintro _ w1 ⟨rfl, b1⟩
    have HB := Go.Lib.hid (upB HB.out b1)
    have HL := Go.Lib.hid (HL.out.below b1)
    have HS := Go.Lib.hid (HS.out.below b1)
    clear b1
    go_wp2_with fail
    refine (HIN.out _).mono ?_
    rintro _ _ ⟨rfl, rfl⟩
    go_wp2_with fail
    refine (HG.out _ HS.out).mono ?_
    rintro _ w2 ⟨rfl, b2⟩
    have HB := Go.Lib.hid (upB HB.out b2)
    have HL := Go.Lib.hid (HL.out.below b2)
    have HS := Go.Lib.hid (HS.out.below b2)
    clear b2
    go_wp2_with fail
    refine (HM.out _ HL.out).mono ?_
    rintro _ _ ⟨rfl, rfl⟩
    go_wp2_with fail
    refine (HU.out _).mono ?_
    rintro _ _ ⟨rfl, rfl⟩
    go_wp2_with fail
    go_ret2
    exact Gives2.of HV.out HB.out
  case pos =>
    have HU := Go.Lib.hid (fun w0 => specCeil (mean - m) g w0 (by omega) (by omega) (by omega) (by omega))
    have e : forI g m mean = upI (mean - m) g := by unfold forI; rw [if_pos (by omega)]
    rw [e] at HV
    clear e
    generalize upI (mean - m) g = u at *
    go_enter Try.func24, Try.ntmps24
    go_wp2_with fail
    refine (HTE.out _ HL.out).mono ?_
    rintro _ _ ⟨rfl, rfl⟩
    go_wp2_with fail
    refine (HSF.out _ HS.out).mono ?_
    rintro _ w1 ⟨rfl, b1⟩
    have HB := Go.Lib.hid (upB HB.out b1)
    have HL := Go.Lib.hid (HL.out.below b1)
    have HS := Go.Lib.hid (HS.out.below b1)
    clear b1
    go_wp2_with fail
    refine (HIN.out _).mono ?_
    rintro _ _ ⟨rfl, rfl⟩
    go_wp2_with fail
    refine (HG.out _ HS.out).mono ?_
    rintro _ w2 ⟨rfl, b2⟩
    have HB := Go.Lib.hid (upB HB.out b2)
    have HL := Go.Lib.hid (HL.out.below b2)
    have HS := Go.Lib.hid (HS.out.below b2)
    clear b2
    go_wp2_with fail
    refine (HM.out _ HL.out).mono ?_
    rintro _ _ ⟨rfl, rfl⟩
    go_wp2_with fail
    refine (HU.out _).mono ?_
    rintro _ _ ⟨rfl, rfl⟩
    go_wp2_with fail
    go_ret2
    exact Gives2.of HV.out HB.out
end Go.Proofs.Ytpcaakmcjdginab
