/- The program: needs, links, cuts. -/
import Derived.Test.YtilepehlmjohbaaPlainChainI
import Derived.Test.YtilepehlmjohbaaChainS1
import Derived.Test.YtilepehlmjohbaaMgSlacks2
import Derived.Lib.MinMax
namespace Go.Proofs.Ytilepehlmjohbaa
open Go.RowKit
set_option linter.unusedSimpArgs false
set_option linter.unusedVariables false

set_option maxRecDepth 100000 in
set_option maxHeartbeats 4000000 in
theorem implCeil (n d X : Int) (w : World) (hd : 0 < d) (hd2 : d ≤ 1000000000000) (h0 : 0 ≤ n) (h1 : n ≤ X * d) (hX : X ≤ 1000000000) (hn : n ≤ 1000000000000000) : Calls Try.prog 47 #[.int .i64 n, .int .i64 d] w (Just (.int .i64 (ceilI n d)) w) := by
  have HD := Go.Lib.hid (implDown (-n) d w (by omega) (by omega) (by omega) (by omega))
  have HV := Go.Lib.hid (show ceilI n d = -((-n) / d) from rfl)
  have hu := ceilI_bd hd h0 h1
  have e1 : IntKind.i64.wrap (-n) = -n := IntWalk.i64_in _ (by omega)
  have e2 : IntKind.i64.wrap (-((-n) / d)) = -((-n) / d) := IntWalk.i64_in _ (by unfold ceilI at hu; omega)
  clear hu hd hd2 h0 h1 hX hn
  generalize (-n) / d = q at *
  go_enter Try.func47, Try.ntmps47
  go_wp2_with fail
  refine (HD.out).mono ?_
  rintro _ _ ⟨rfl, rfl⟩
  go_wp2_with fail
  go_ret
  exact ⟨by rw [HV.out]; rfl, rfl⟩
set_option maxRecDepth 100000 in
set_option maxHeartbeats 4000000 in
theorem implNeedN (s f r : Int) (w : World) (h : Legs s f r) : Calls Try.prog 52 #[.int .i64 s, .int .i64 f, .int .i64 r] w (Just (.int .i64 (needI s f r)) w) := by
  have h1 := h.f0
  have h2 := h.f1
  have h3 := h.r0
  have h4 := h.r1
  have h5 := h.s0
  have h6 := h.s1
  have hq := sq_bd h
  have hnb := needI_bd h
  have HC1 := Go.Lib.hid (implCeil (2000 * s) 127 100000 w (by decide) (by decide) (by omega) (by omega) (by decide) (by omega))
  have HC2 := Go.Lib.hid (implCeil ((f - r) * (f - r) * 127 * 1000000000) (39478418 * s) 3000 w (by omega) (by omega) (by omega) (by omega) (by decide) (by omega))
  have b1 := ceilI_bd (n := 2000 * s) (d := 127) (X := 100000) (by decide) (by omega) (by omega)
  have e1 : IntKind.i64.wrap (2000 * s) = 2000 * s := IntWalk.i64_in _ (by omega)
  have e2 : IntKind.i64.wrap (f + r) = f + r := IntWalk.i64_in _ (by omega)
  have e3 : IntKind.i64.wrap (500 * (f + r)) = 500 * (f + r) := IntWalk.i64_in _ (by omega)
  have e4 : IntKind.i64.wrap (f - r) = f - r := IntWalk.i64_in _ (by omega)
  have e5 : IntKind.i64.wrap ((f - r) * (f - r)) = (f - r) * (f - r) := IntWalk.i64_in _ (by omega)
  have e6 : IntKind.i64.wrap ((f - r) * (f - r) * 127) = (f - r) * (f - r) * 127 := IntWalk.i64_in _ (by omega)
  have e7 : IntKind.i64.wrap ((f - r) * (f - r) * 127 * 1000000000) = (f - r) * (f - r) * 127 * 1000000000 := IntWalk.i64_in _ (by omega)
  have e8 : IntKind.i64.wrap (39478418 * s) = 39478418 * s := IntWalk.i64_in _ (by omega)
  have e9 : IntKind.i64.wrap (ceilI (2000 * s) 127 + 500 * (f + r)) = ceilI (2000 * s) 127 + 500 * (f + r) := IntWalk.i64_in _ (by omega)
  have HV := Go.Lib.hid (show ceilI (2000 * s) 127 + 500 * (f + r) + ceilI ((f - r) * (f - r) * 127 * 1000000000) (39478418 * s) = needI s f r from rfl)
  have e10 : IntKind.i64.wrap (ceilI (2000 * s) 127 + 500 * (f + r) + ceilI ((f - r) * (f - r) * 127 * 1000000000) (39478418 * s)) = ceilI (2000 * s) 127 + 500 * (f + r) + ceilI ((f - r) * (f - r) * 127 * 1000000000) (39478418 * s) := IntWalk.i64_in _ (by rw [HV.out]; omega)
  clear h1 h2 h3 h4 h5 h6 hq hnb b1 h
  generalize ceilI (2000 * s) 127 = ca at *
  generalize ceilI ((f - r) * (f - r) * 127 * 1000000000) (39478418 * s) = cb at *
  go_enter Try.func52, Try.ntmps52
  go_wp2_with fail
  refine (HC1.out).mono ?_
  rintro _ _ ⟨rfl, rfl⟩
  go_wp2_with fail
  refine (HC2.out).mono ?_
  rintro _ _ ⟨rfl, rfl⟩
  go_wp2_with fail
  go_ret
  exact ⟨by rw [← HV.out]; rfl, rfl⟩
set_option maxRecDepth 100000 in
set_option maxHeartbeats 4000000 in
theorem implStay (s : Int) (w : World) : Calls Try.prog 50 #[.int .i64 s] w (Just (.bool (stayB s)) w) := by
  have HI := Go.Lib.hid (implInR s 3000 6000 w)
  go_enter Try.func50, Try.ntmps50
  go_wp2_with fail
  refine (HI.out).mono ?_
  rintro _ _ ⟨rfl, rfl⟩
  go_wp2_with fail
  go_ret
  exact ⟨rfl, rfl⟩
set_option maxRecDepth 100000 in
set_option maxHeartbeats 4000000 in
theorem implLinks (l : Int) (w : World) : Calls Try.prog 55 #[.int .i64 l] w (Just (.bool (linksB l)) w) := by
  have HI := Go.Lib.hid (implInR l 40 200 w)
  have HV := Go.Lib.hid (show linksB l = (inB l 40 200 && decide (l % 2 = 0)) from rfl)
  by_cases hi : inB l 40 200 = true
  case neg =>
    rw [Bool.not_eq_true] at hi
    rw [hi] at HI HV
    clear hi
    go_enter Try.func55, Try.ntmps55
    go_wp2_with fail
    refine (HI.out).mono ?_
    rintro _ _ ⟨rfl, rfl⟩
    go_wp2_with fail
    go_ret
    exact ⟨by rw [HV.out]; rfl, rfl⟩
  case pos =>
    have h0 := inB_iff.1 hi
    rw [hi] at HI HV
    have et : l.tmod 2 = l % 2 := tmod2 (by omega)
    have ew : IntKind.i64.wrap (l % 2) = l % 2 := IntWalk.i64_in _ (by omega)
    clear hi h0
    go_enter Try.func55, Try.ntmps55
    go_wp2_with fail
    refine (HI.out).mono ?_
    rintro _ _ ⟨rfl, rfl⟩
    go_wp2_with fail
    go_ret
    exact ⟨by rw [HV.out, Bool.true_and]; first | rfl | simp, rfl⟩
set_option maxRecDepth 100000 in
set_option maxHeartbeats 4000000 in
theorem implRings (f r : Int) (w : World) : Calls Try.prog 51 #[.int .i64 f, .int .i64 r] w (Just (.bool (ringsB f r)) w) := by
  have HA := Go.Lib.hid (implInR f 20 60 w)
  have HB := Go.Lib.hid (implInR r 9 52 w)
  have HV := Go.Lib.hid (show ringsB f r = (inB f 20 60 && inB r 9 52) from rfl)
  generalize inB f 20 60 = a at *
  generalize inB r 9 52 = b at *
  cases a
  case false =>
    go_enter Try.func51, Try.ntmps51
    go_wp2_with fail
    refine (HA.out).mono ?_
    rintro _ _ ⟨rfl, rfl⟩
    go_wp2_with fail
    go_ret
    exact ⟨by rw [HV.out]; rfl, rfl⟩
  case true =>
    go_enter Try.func51, Try.ntmps51
    go_wp2_with fail
    refine (HA.out).mono ?_
    rintro _ _ ⟨rfl, rfl⟩
    go_wp2_with fail
    refine (HB.out).mono ?_
    rintro _ _ ⟨rfl, rfl⟩
    go_wp2_with fail
    go_ret
    exact ⟨by rw [HV.out]; rfl, rfl⟩
set_option maxRecDepth 100000 in
set_option maxHeartbeats 4000000 in
theorem implNeedOf (s f r : Int) (w : World) : Calls Try.prog 17 #[.int .i64 s, .int .i64 f, .int .i64 r] w (Gives2 (needR s f r) w) := by
  have HA := Go.Lib.hid (implStay s w)
  have HB := Go.Lib.hid (implRings f r w)
  by_cases ha : stayB s = true
  case neg =>
    have HV := Go.Lib.hid (show needR s f r = (0, 2) by unfold needR; rw [if_neg (by simp [ha])])
    rw [Bool.not_eq_true] at ha
    rw [ha] at HA
    clear ha
    go_enter Try.func17, Try.ntmps17
    go_wp2_with fail
    refine (HA.out).mono ?_
    rintro _ _ ⟨rfl, rfl⟩
    go_wp2_with fail
    go_ret2
    exact Gives2.of HV.out (Below.refl _ _)
  case pos =>
    by_cases hb : ringsB f r = true
    case neg =>
      have HV := Go.Lib.hid (show needR s f r = (0, 2) by unfold needR; rw [if_neg (by simp [hb])])
      rw [Bool.not_eq_true] at hb
      rw [hb] at HB
      rw [ha] at HA
      clear ha hb
      go_enter Try.func17, Try.ntmps17
      go_wp2_with fail
      refine (HA.out).mono ?_
      rintro _ _ ⟨rfl, rfl⟩
      go_wp2_with fail
      refine (HB.out).mono ?_
      rintro _ _ ⟨rfl, rfl⟩
      go_wp2_with fail
      go_ret2
      exact Gives2.of HV.out (Below.refl _ _)
    case pos =>
      have hl : (stayB s && ringsB f r) = true := by rw [ha, hb]; rfl
      have HV := Go.Lib.hid (show needR s f r = (needI s f r, 0) by unfold needR; rw [if_pos hl])
      have HN := Go.Lib.hid (implNeedN s f r w (legs_iff.1 hl))
      rw [hb] at HB
      rw [ha] at HA
      clear ha hb hl
      go_enter Try.func17, Try.ntmps17
      go_wp2_with fail
      refine (HA.out).mono ?_
      rintro _ _ ⟨rfl, rfl⟩
      go_wp2_with fail
      refine (HB.out).mono ?_
      rintro _ _ ⟨rfl, rfl⟩
      go_wp2_with fail
      refine (HN.out).mono ?_
      rintro _ _ ⟨rfl, rfl⟩
      go_wp2_with fail
      go_ret2
      exact Gives2.of HV.out (Below.refl _ _)

set_option maxRecDepth 100000 in
set_option maxHeartbeats 4000000 in
theorem implLinksFor (s f r : Int) (w : World) : Calls Try.prog 15 #[.int .i64 s, .int .i64 f, .int .i64 r] w (Gives2 (linksR s f r) w) := by
  have HN := Go.Lib.hid (implNeedOf s f r w)
  by_cases h : (stayB s && ringsB f r) = true
  case neg =>
    have HV := Go.Lib.hid (show linksR s f r = (0, 2) by unfold linksR; rw [if_neg h])
    rw [show needR s f r = (0, 2) by unfold needR; rw [if_neg h]] at HN
    clear h
    go_enter Try.func15, Try.ntmps15
    go_wp2_with fail
    refine (HN.out).mono ?_
    rintro _ w1 ⟨rfl, hb1⟩
    have HB1 := Go.Lib.hid hb1
    clear hb1
    go_wp2_with fail
    go_ret2
    exact Gives2.of HV.out HB1.out
  case pos =>
    have HF := Go.Lib.hid (linksR_fast h)
    have hbd := needI_bd (legs_iff.1 h)
    rw [show needR s f r = (needI s f r, 0) by unfold needR; rw [if_pos h]] at HN
    clear h
    generalize needI s f r = nd at *
    have HC := Go.Lib.hid (fun w0 => implCeil nd 2000 100 w0 (by decide) (by decide) hbd.1 (by omega) (by decide) (by omega))
    have hcb := ceilI_bd (n := nd) (d := 2000) (X := 100) (by decide) hbd.1 (by omega)
    generalize ceilI nd 2000 = q at *
    have e1 : IntKind.i64.wrap (2 * q) = 2 * q := IntWalk.i64_in _ (by omega)
    have HM := Go.Lib.hid (show 40 ≤ max 40 (2 * q) ∧ max 40 (2 * q) ≤ 300 by omega)
    clear hbd hcb
    by_cases hq : 200 < max 40 (2 * q)
    case pos =>
      rw [if_pos hq] at HF
      go_enter Try.func15, Try.ntmps15
      go_wp2_with fail
      refine (HN.out).mono ?_
      rintro _ w1 ⟨rfl, hb1⟩
      have HB1 := Go.Lib.hid hb1
      clear hb1
      go_wp2_with fail
      refine (HC.out _).mono ?_
      rintro _ _ ⟨rfl, rfl⟩
      go_wp2_with fail
      go_ret2
      exact Gives2.of HF.out HB1.out
    case neg =>
      rw [if_neg hq] at HF
      go_enter Try.func15, Try.ntmps15
      go_wp2_with fail
      refine (HN.out).mono ?_
      rintro _ w1 ⟨rfl, hb1⟩
      have HB1 := Go.Lib.hid hb1
      clear hb1
      go_wp2_with fail
      refine (HC.out _).mono ?_
      rintro _ _ ⟨rfl, rfl⟩
      go_wp2_with fail
      go_ret2
      exact Gives2.of HF.out HB1.out

theorem linksB_bd {l : Int} (h : linksB l = true) : 40 ≤ l ∧ l ≤ 200 := by
  unfold linksB at h
  rw [Bool.and_eq_true, inB_iff] at h
  exact h.1
set_option maxRecDepth 100000 in
set_option maxHeartbeats 4000000 in
theorem implCut (l m : Int) (w : World) : Calls Try.prog 23 #[.int .i64 l, .int .i64 m] w (Gives2 (cutR l m) w) := by
  have HA := Go.Lib.hid (implLinks l w)
  have HB := Go.Lib.hid (implLinks m w)
  by_cases ha : linksB l = true
  case neg =>
    have HV := Go.Lib.hid (show cutR l m = (0, 2) by unfold cutR; rw [if_neg (by simp [ha])])
    rw [Bool.not_eq_true] at ha
    rw [ha] at HA
    clear ha
    go_enter Try.func23, Try.ntmps23
    go_wp2_with fail
    refine (HA.out).mono ?_
    rintro _ _ ⟨rfl, rfl⟩
    go_wp2_with fail
    go_ret2
    exact Gives2.of HV.out (Below.refl _ _)
  case pos =>
    by_cases hb : linksB m = true
    case neg =>
      have HV := Go.Lib.hid (show cutR l m = (0, 2) by unfold cutR; rw [if_neg (by simp [hb])])
      rw [Bool.not_eq_true] at hb
      rw [hb] at HB
      rw [ha] at HA
      clear ha hb
      go_enter Try.func23, Try.ntmps23
      go_wp2_with fail
      refine (HA.out).mono ?_
      rintro _ _ ⟨rfl, rfl⟩
      go_wp2_with fail
      refine (HB.out).mono ?_
      rintro _ _ ⟨rfl, rfl⟩
      go_wp2_with fail
      go_ret2
      exact Gives2.of HV.out (Below.refl _ _)
    case pos =>
      have h1 := linksB_bd ha
      have h2 := linksB_bd hb
      have HV := Go.Lib.hid (show cutR l m = if l < m then (0, 5) else (l - m, 0) by unfold cutR; rw [if_pos (by rw [ha, hb]; rfl)])
      rw [hb] at HB
      rw [ha] at HA
      clear ha hb
      by_cases hlt : l < m
      case pos =>
        rw [if_pos hlt] at HV
        go_enter Try.func23, Try.ntmps23
        go_wp2_with fail
        refine (HA.out).mono ?_
        rintro _ _ ⟨rfl, rfl⟩
        go_wp2_with fail
        refine (HB.out).mono ?_
        rintro _ _ ⟨rfl, rfl⟩
        go_wp2_with fail
        go_ret2
        exact Gives2.of HV.out (Below.refl _ _)
      case neg =>
        rw [if_neg hlt] at HV
        have e1 : IntKind.i64.wrap (l - m) = l - m := IntWalk.i64_in _ (by omega)
        go_enter Try.func23, Try.ntmps23
        go_wp2_with fail
        refine (HA.out).mono ?_
        rintro _ _ ⟨rfl, rfl⟩
        go_wp2_with fail
        refine (HB.out).mono ?_
        rintro _ _ ⟨rfl, rfl⟩
        go_wp2_with fail
        go_ret2
        exact Gives2.of HV.out (Below.refl _ _)

end Go.Proofs.Ytilepehlmjohbaa
