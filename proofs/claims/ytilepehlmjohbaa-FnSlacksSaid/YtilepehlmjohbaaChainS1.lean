/- The model: needs, links, stays. -/
import Derived.Test.YtilepehlmjohbaaMgSlacks3
import Derived.Test.YtilepehlmjohbaaMgSlacks2
namespace Go.Proofs.Ytilepehlmjohbaa
open Go.RowKit
set_option linter.unusedSimpArgs false
set_option linter.unusedVariables false

set_option maxRecDepth 100000 in
set_option maxHeartbeats 4000000 in
theorem specCeil10 (n d X : Int) (w : World) (hd : 0 < d) (hd2 : d ≤ 1000000000000) (h0 : 0 ≤ n) (h1 : n ≤ X * d) (hX : X ≤ 1000000000) (hn : n ≤ 1000000000000000) : Calls Try.prog 82 #[.int .i64 n, .int .i64 d] w (Just (.int .i64 (ceilI n d)) w) := by
  have HD := Go.Lib.hid (specFloor (-n) d w (by omega) (by omega) (by omega) (by omega))
  have HV := Go.Lib.hid (show ceilI n d = -((-n) / d) from rfl)
  have hu := ceilI_bd hd h0 h1
  have e1 : IntKind.i64.wrap (-n) = -n := IntWalk.i64_in _ (by omega)
  have e2 : IntKind.i64.wrap (-((-n) / d)) = -((-n) / d) := IntWalk.i64_in _ (by unfold ceilI at hu; omega)
  clear hu hd hd2 h0 h1 hX hn
  generalize (-n) / d = q at *
  go_enter Try.func82, Try.ntmps82
  go_wp2_with fail
  refine HD.out.mono ?_
  rintro _ _ ⟨rfl, rfl⟩
  go_wp2_with fail
  go_ret
  exact ⟨by rw [HV.out]; rfl, rfl⟩
set_option maxRecDepth 100000 in
set_option maxHeartbeats 4000000 in
theorem specNeed (s f r : Int) (w : World) (h : Legs s f r) : Calls Try.prog 49 #[.int .i64 s, .int .i64 f, .int .i64 r] w (Just (.int .i64 (needI s f r)) w) := by
  have h1 := h.f0
  have h2 := h.f1
  have h3 := h.r0
  have h4 := h.r1
  have h5 := h.s0
  have h6 := h.s1
  have hq := sq_bd h
  have hnb := needI_bd h
  have HC1 := Go.Lib.hid (specCeil10 (2000 * s) 127 100000 w (by decide) (by decide) (by omega) (by omega) (by decide) (by omega))
  have HC2 := Go.Lib.hid (specCeil10 ((f - r) * (f - r) * 127 * 1000000000) (39478418 * s) 3000 w (by omega) (by omega) (by omega) (by omega) (by decide) (by omega))
  have b1 := ceilI_bd (n := 2000 * s) (d := 127) (X := 100000) (by decide) (by omega) (by omega)
  have e1 : IntKind.i64.wrap (2000 * s) = 2000 * s := IntWalk.i64_in _ (by omega)
  have e2 : IntKind.i64.wrap (f + r) = f + r := IntWalk.i64_in _ (by omega)
  have e3 : IntKind.i64.wrap (500 * (f + r)) = 500 * (f + r) := IntWalk.i64_in _ (by omega)
  have e4 : IntKind.i64.wrap (f - r) = f - r := IntWalk.i64_in _ (by omega)
  have e5 : IntKind.i64.wrap ((f - r) * (f - r)) = (f - r) * (f - r) := IntWalk.i64_in _ (by omega)
  have e6 : IntKind.i64.wrap ((f - r) * (f - r) * 127) = (f - r) * (f - r) * 127 := IntWalk.i64_in _ (by omega)
  have e7 : IntKind.i64.wrap ((f - r) * (f - r) * 127 * 1000000000) = (f - r) * (f - r) * 127 * 1000000000 := IntWalk.i64_in _ (by omega)
  have e8 : IntKind.i64.wrap (39478418 * s) = 39478418 * s := IntWalk.i64_in _ (by omega)
  have e9 : IntKind.i64.wrap (ceilI (2000 * s) 127 + 500 * (f + r)) = ceilI (2000 * s) 127 + 500 * (f + r) := IntWalk.i64_in _ (by omega)
  have HV := Go.Lib.hid (show ceilI (2000 * s) 127 + 500 * (f + r) + ceilI ((f - r) * (f - r) * 127 * 1000000000) (39478418 * s) = needI s f r from rfl)
  have e10 : IntKind.i64.wrap (ceilI (2000 * s) 127 + 500 * (f + r) + ceilI ((f - r) * (f - r) * 127 * 1000000000) (39478418 * s)) = ceilI (2000 * s) 127 + 500 * (f + r) + ceilI ((f - r) * (f - r) * 127 * 1000000000) (39478418 * s) := IntWalk.i64_in _ (by rw [HV.out]; omega)
  clear h1 h2 h3 h4 h5 h6 hq hnb b1 h
  generalize ceilI (2000 * s) 127 = ca at *
  generalize ceilI ((f - r) * (f - r) * 127 * 1000000000) (39478418 * s) = cb at *
  go_enter Try.func49, Try.ntmps49
  go_wp2_with fail
  refine HC1.out.mono ?_
  rintro _ _ ⟨rfl, rfl⟩
  go_wp2_with fail
  refine HC2.out.mono ?_
  rintro _ _ ⟨rfl, rfl⟩
  go_wp2_with fail
  go_ret
  exact ⟨by rw [← HV.out]; rfl, rfl⟩
set_option maxRecDepth 100000 in
set_option maxHeartbeats 4000000 in
theorem specStay (s : Int) (w : World) : Calls Try.prog 80 #[.int .i64 s] w (Just (.bool (stayB s)) w) := by
  have HI := Go.Lib.hid (inN2 s 3000 6000 w)
  go_enter Try.func80, Try.ntmps80
  go_wp2_with fail
  refine (HI.out).mono ?_
  rintro _ _ ⟨rfl, rfl⟩
  go_wp2_with fail
  go_ret
  exact ⟨rfl, rfl⟩
theorem tmod2 {l : Int} (h : 0 ≤ l) : l.tmod 2 = l % 2 := Int.tmod_eq_emod_of_nonneg h
set_option maxRecDepth 100000 in
set_option maxHeartbeats 4000000 in
theorem specLinks (l : Int) (w : World) : Calls Try.prog 61 #[.int .i64 l] w (Just (.bool (linksB l)) w) := by
  have HI := Go.Lib.hid (inN2 l 40 200 w)
  have HV := Go.Lib.hid (show linksB l = (inB l 40 200 && decide (l % 2 = 0)) from rfl)
  by_cases hi : inB l 40 200 = true
  case neg =>
    rw [Bool.not_eq_true] at hi
    rw [hi] at HI HV
    clear hi
    go_enter Try.func61, Try.ntmps61
    go_wp2_with fail
    refine (HI.out).mono ?_
    rintro _ _ ⟨rfl, rfl⟩
    go_wp2_with fail
    go_ret
    exact ⟨by rw [HV.out]; rfl, rfl⟩
  case pos =>
    have h0 := inB_iff.1 hi
    rw [hi] at HI HV
    have et : l.tmod 2 = l % 2 := tmod2 (by omega)
    have ew : IntKind.i64.wrap (l % 2) = l % 2 := IntWalk.i64_in _ (by omega)
    clear hi h0
    go_enter Try.func61, Try.ntmps61
    go_wp2_with fail
    refine (HI.out).mono ?_
    rintro _ _ ⟨rfl, rfl⟩
    go_wp2_with fail
    go_ret
    exact ⟨by rw [HV.out, Bool.true_and]; first | rfl | simp, rfl⟩
def code10 (s f r : Int) : Int := if stayB s && ringsB f r then 0 else 2
set_option maxRecDepth 100000 in
set_option maxHeartbeats 4000000 in
theorem specCode10 (s f r : Int) (w : World) : Calls Try.prog 48 #[.int .i64 s, .int .i64 f, .int .i64 r] w (Just (.int .i64 (code10 s f r)) w) := by
  have HA := Go.Lib.hid (specStay s w)
  have HB := Go.Lib.hid (inN2 f 20 60 w)
  have HC := Go.Lib.hid (inN2 r 9 52 w)
  have HV := Go.Lib.hid (show code10 s f r = if stayB s && (inB f 20 60 && inB r 9 52) then 0 else 2 from rfl)
  generalize stayB s = a at *
  generalize inB f 20 60 = b at *
  generalize inB r 9 52 = c at *
  cases a
  case false =>
    go_enter Try.func48, Try.ntmps48
    go_wp2_with fail
    refine (HA.out).mono ?_
    rintro _ _ ⟨rfl, rfl⟩
    go_wp2_with fail
    go_ret
    exact ⟨by rw [HV.out]; rfl, rfl⟩
  case true =>
    cases b
    case false =>
      go_enter Try.func48, Try.ntmps48
      go_wp2_with fail
      refine (HA.out).mono ?_
      rintro _ _ ⟨rfl, rfl⟩
      go_wp2_with fail
      refine (HB.out).mono ?_
      rintro _ _ ⟨rfl, rfl⟩
      go_wp2_with fail
      go_ret
      exact ⟨by rw [HV.out]; rfl, rfl⟩
    case true =>
      cases c
      case false =>
        go_enter Try.func48, Try.ntmps48
        go_wp2_with fail
        refine (HA.out).mono ?_
        rintro _ _ ⟨rfl, rfl⟩
        go_wp2_with fail
        refine (HB.out).mono ?_
        rintro _ _ ⟨rfl, rfl⟩
        go_wp2_with fail
        refine (HC.out).mono ?_
        rintro _ _ ⟨rfl, rfl⟩
        go_wp2_with fail
        go_ret
        exact ⟨by rw [HV.out]; rfl, rfl⟩
      case true =>
        go_enter Try.func48, Try.ntmps48
        go_wp2_with fail
        refine (HA.out).mono ?_
        rintro _ _ ⟨rfl, rfl⟩
        go_wp2_with fail
        refine (HB.out).mono ?_
        rintro _ _ ⟨rfl, rfl⟩
        go_wp2_with fail
        refine (HC.out).mono ?_
        rintro _ _ ⟨rfl, rfl⟩
        go_wp2_with fail
        go_ret
        exact ⟨by rw [HV.out]; rfl, rfl⟩
theorem code10_no {s f r : Int} (h : ¬ (stayB s && ringsB f r) = true) : code10 s f r = 2 := by unfold code10; rw [if_neg h]
theorem code10_ok {s f r : Int} (h : (stayB s && ringsB f r) = true) : code10 s f r = 0 := by unfold code10; rw [if_pos h]
set_option maxRecDepth 100000 in
set_option maxHeartbeats 4000000 in
theorem specNeedOf (s f r : Int) (w : World) : Calls Try.prog 18 #[.int .i64 s, .int .i64 f, .int .i64 r] w (Gives2 (needR s f r) w) := by
  have HC := Go.Lib.hid (specCode10 s f r w)
  by_cases h : (stayB s && ringsB f r) = true
  case neg =>
    have HV := Go.Lib.hid (show needR s f r = (0, 2) by unfold needR; rw [if_neg h])
    rw [code10_no h] at HC
    clear h
    go_enter Try.func18, Try.ntmps18
    go_wp2_with fail
    refine (HC.out).mono ?_
    rintro _ _ ⟨rfl, rfl⟩
    go_wp2_with fail
    go_ret2
    exact Gives2.of HV.out (Below.refl _ _)
  case pos =>
    have HV := Go.Lib.hid (show needR s f r = (needI s f r, 0) by unfold needR; rw [if_pos h])
    have HN := Go.Lib.hid (specNeed s f r w (legs_iff.1 h))
    rw [code10_ok h] at HC
    clear h
    go_enter Try.func18, Try.ntmps18
    go_wp2_with fail
    refine (HC.out).mono ?_
    rintro _ _ ⟨rfl, rfl⟩
    go_wp2_with fail
    refine (HN.out).mono ?_
    rintro _ _ ⟨rfl, rfl⟩
    go_wp2_with fail
    go_ret2
    exact Gives2.of HV.out (Below.refl _ _)
theorem lnTo_at (need : Int) (k : Nat) (h : k < 81) : lnTo need (40 + 2 * (k : Int)) (81 - k) = if need ≤ 1000 * (40 + 2 * (k : Int)) then (40 + 2 * (k : Int), 0) else lnTo need (40 + 2 * ((k + 1 : Nat) : Int)) (81 - (k + 1)) := by
  rw [show 81 - k = (81 - (k + 1)) + 1 by omega]
  show (if _ then _ else _) = _
  rw [show 40 + 2 * (k : Int) + 2 = 40 + 2 * ((k + 1 : Nat) : Int) by omega]
theorem styTo_at (links f r : Int) (k : Nat) (h : k < 3001) : styTo links f r (6000 - (k : Int)) (3001 - k) = if needI (6000 - (k : Int)) f r ≤ 1000 * links then (6000 - (k : Int), 0) else styTo links f r (6000 - ((k + 1 : Nat) : Int)) (3001 - (k + 1)) := by
  rw [show 3001 - k = (3001 - (k + 1)) + 1 by omega]
  show (if _ then _ else _) = _
  rw [show 6000 - (k : Int) - 1 = 6000 - ((k + 1 : Nat) : Int) by omega]
set_option maxRecDepth 100000 in
set_option maxHeartbeats 4000000 in
theorem specLinksFor (s f r : Int) (w : World) : Calls Try.prog 16 #[.int .i64 s, .int .i64 f, .int .i64 r] w (Gives2 (linksR s f r) w) := by
  have HC := Go.Lib.hid (specCode10 s f r w)
  by_cases h : (stayB s && ringsB f r) = true
  case neg =>
    have HV := Go.Lib.hid (show linksR s f r = (0, 2) by unfold linksR; rw [if_neg h])
    rw [code10_no h] at HC
    clear h
    go_enter Try.func16, Try.ntmps16
    go_wp2_with fail
    refine (HC.out).mono ?_
    rintro _ _ ⟨rfl, rfl⟩
    go_wp2_with fail
    go_ret2
    exact Gives2.of HV.out (Below.refl _ _)
  case pos =>
    have HV := Go.Lib.hid (show linksR s f r = lnTo (needI s f r) (40 + 2 * ((0 : Nat) : Int)) (81 - 0) by unfold linksR; rw [if_pos h]; rfl)
    have HN := Go.Lib.hid (specNeed s f r w (legs_iff.1 h))
    have HS := Go.Lib.hid (fun (k : Nat) (hk : k < 81) => lnTo_at (needI s f r) k hk)
    have HE := Go.Lib.hid (show lnTo (needI s f r) (40 + 2 * ((81 : Nat) : Int)) (81 - 81) = (0, 4) from rfl)
    rw [code10_ok h] at HC
    clear h
    generalize needI s f r = nd at *
    go_enter Try.func16, Try.ntmps16
    go_wp2_with fail
    refine (HC.out).mono ?_
    rintro _ _ ⟨rfl, rfl⟩
    go_wp2_with fail
    go_loopw [9] (fun u wr => ∃ k : Nat, k ≤ 81 ∧ u = .int .i64 (40 + 2 * (k : Int)) ∧ linksR s f r = lnTo nd (40 + 2 * (k : Int)) (81 - k) ∧ wr = w) (fun u _ => 202 - (intOf u).toNat)
    case atStart => exact ⟨0, by omega, rfl, HV.out, rfl⟩
    case round =>
      obtain ⟨k, hk, rfl, hq, rfl⟩ := hrel
      have HQ := Go.Lib.hid hq
      clear hq HV
      by_cases hlt : k < 81
      case neg =>
        obtain rfl : k = 81 := by omega
        go_wp2_with fail
        go_ret2
        exact Gives2.of (HQ.out.trans HE.out) (Below.refl _ _)
      case pos =>
        have hkl : (40 + 2 * (k : Int)) ≤ 200 := by omega
        have HK := Go.Lib.hid (HS.out k hlt)
        have e1 : IntKind.i64.wrap (1000 * (40 + 2 * (k : Int))) = 1000 * (40 + 2 * (k : Int)) := IntWalk.i64_in _ (by omega)
        have e2 : IntKind.i64.wrap (40 + 2 * (k : Int) + 2) = 40 + 2 * ((k + 1 : Nat) : Int) := (IntWalk.i64_in _ (by omega)).trans (by omega)
        by_cases hle : nd ≤ 1000 * (40 + 2 * (k : Int))
        case pos =>
          rw [if_pos hle] at HK
          go_wp2_with fail
          refine (HN.out).mono ?_
          rintro _ _ ⟨rfl, rfl⟩
          go_wp2_with fail
          go_ret2
          exact Gives2.of (HQ.out.trans HK.out) (Below.refl _ _)
        case neg =>
          rw [if_neg hle] at HK
          go_wp2_with fail
          refine (HN.out).mono ?_
          rintro _ _ ⟨rfl, rfl⟩
          go_wp2_with fail
          go_roundw
          case rel => exact ⟨k + 1, by omega, by first | rfl | (rw [e2]), by rw [HQ.out, HK.out], by first | rfl | trivial⟩
          case measure => simp [intOf]; omega
set_option maxRecDepth 100000 in
set_option maxHeartbeats 4000000 in
theorem specStayFor (l f r : Int) (w : World) : Calls Try.prog 21 #[.int .i64 l, .int .i64 f, .int .i64 r] w (Gives2 (stayR l f r) w) := by
  have HC := Go.Lib.hid (specCode10 3000 f r w)
  have HL := Go.Lib.hid (specLinks l w)
  have H3 := Go.Lib.hid (show (stayB 3000 && ringsB f r) = ringsB f r from rfl)
  by_cases hl : linksB l = true
  case neg =>
    have HV := Go.Lib.hid (show stayR l f r = (0, 2) by unfold stayR; rw [Bool.not_eq_true] at hl; rw [hl]; rfl)
    rw [Bool.not_eq_true] at hl
    rw [hl] at HL
    generalize code10 3000 f r = z at *
    clear hl
    go_enter Try.func21, Try.ntmps21
    go_wp2_with fail
    refine (HC.out).mono ?_
    rintro _ _ ⟨rfl, rfl⟩
    go_wp2_with fail
    refine (HL.out).mono ?_
    rintro _ _ ⟨rfl, rfl⟩
    go_wp2_with fail
    go_ret2
    exact Gives2.of HV.out (Below.refl _ _)
  case pos =>
    by_cases h : ringsB f r = true
    case neg =>
      have HV := Go.Lib.hid (show stayR l f r = (0, 2) by unfold stayR; rw [Bool.not_eq_true] at h; rw [h, Bool.and_false]; rfl)
      rw [code10_no (by rw [H3.out]; exact h)] at HC
      rw [hl] at HL
      clear h hl
      go_enter Try.func21, Try.ntmps21
      go_wp2_with fail
      refine (HC.out).mono ?_
      rintro _ _ ⟨rfl, rfl⟩
      go_wp2_with fail
      refine (HL.out).mono ?_
      rintro _ _ ⟨rfl, rfl⟩
      go_wp2_with fail
      go_ret2
      exact Gives2.of HV.out (Below.refl _ _)
    case pos =>
      have HV := Go.Lib.hid (show stayR l f r = styTo l f r (6000 - ((0 : Nat) : Int)) (3001 - 0) by unfold stayR; rw [hl, h]; rfl)
      have HN := Go.Lib.hid (fun (k : Nat) (hk : k < 3001) => specNeed (6000 - (k : Int)) f r w (by
        have hh := h
        unfold ringsB at hh
        simp only [Bool.and_eq_true, inB_iff] at hh
        exact ⟨by omega, by omega, hh.1.1, hh.1.2, hh.2.1, hh.2.2⟩))
      have HS := Go.Lib.hid (fun (k : Nat) (hk : k < 3001) => styTo_at l f r k hk)
      have HE := Go.Lib.hid (show styTo l f r (6000 - ((3001 : Nat) : Int)) (3001 - 3001) = (0, 4) from rfl)
      rw [code10_ok (by rw [H3.out]; exact h)] at HC
      have hl2 : 40 ≤ l ∧ l ≤ 200 := by
        unfold linksB at hl
        simp only [Bool.and_eq_true, inB_iff] at hl
        exact hl.1
      have el : IntKind.i64.wrap (1000 * l) = 1000 * l := IntWalk.i64_in _ (by omega)
      rw [hl] at HL
      clear h hl hl2
      go_enter Try.func21, Try.ntmps21
      go_wp2_with fail
      refine (HC.out).mono ?_
      rintro _ _ ⟨rfl, rfl⟩
      go_wp2_with fail
      refine (HL.out).mono ?_
      rintro _ _ ⟨rfl, rfl⟩
      go_wp2_with fail
      go_loopw [9] (fun u wr => ∃ k : Nat, k ≤ 3001 ∧ u = .int .i64 (6000 - (k : Int)) ∧ stayR l f r = styTo l f r (6000 - (k : Int)) (3001 - k) ∧ wr = w) (fun u _ => (intOf u).toNat)
      case atStart => exact ⟨0, by omega, rfl, HV.out, rfl⟩
      case round =>
        obtain ⟨k, hk, rfl, hq, rfl⟩ := hrel
        have HQ := Go.Lib.hid hq
        clear hq HV
        by_cases hlt : k < 3001
        case neg =>
          obtain rfl : k = 3001 := by omega
          go_wp2_with fail
          go_ret2
          exact Gives2.of (HQ.out.trans HE.out) (Below.refl _ _)
        case pos =>
          have hkl : 3000 ≤ (6000 - (k : Int)) := by omega
          have HK := Go.Lib.hid (HS.out k hlt)
          have HNK := Go.Lib.hid (HN.out k hlt)
          have e2 : IntKind.i64.wrap (6000 - (k : Int) - 1) = 6000 - ((k + 1 : Nat) : Int) := (IntWalk.i64_in _ (by omega)).trans (by omega)
          generalize needI (6000 - (k : Int)) f r = nd at *
          by_cases hle : nd ≤ 1000 * l
          case pos =>
            rw [if_pos hle] at HK
            go_wp2_with fail
            refine (HNK.out).mono ?_
            rintro _ _ ⟨rfl, rfl⟩
            go_wp2_with fail
            go_ret2
            exact Gives2.of (HQ.out.trans HK.out) (Below.refl _ _)
          case neg =>
            rw [if_neg hle] at HK
            go_wp2_with fail
            refine (HNK.out).mono ?_
            rintro _ _ ⟨rfl, rfl⟩
            go_wp2_with fail
            go_roundw
            case rel => exact ⟨k + 1, by omega, by first | rfl | (rw [e2]), by rw [HQ.out, HK.out], by first | rfl | trivial⟩
            case measure => simp [intOf]; omega
set_option maxRecDepth 100000 in
set_option maxHeartbeats 4000000 in
theorem specCut (l m : Int) (w : World) : Calls Try.prog 24 #[.int .i64 l, .int .i64 m] w (Gives2 (cutR l m) w) := by
  have HA := Go.Lib.hid (specLinks l w)
  have HB := Go.Lib.hid (specLinks m w)
  have HV := Go.Lib.hid (show cutR l m = if linksB l && linksB m then if l < m then (0, 5) else (l - m, 0) else (0, 2) from rfl)
  by_cases hl : linksB l = true
  case neg =>
    rw [Bool.not_eq_true] at hl
    rw [hl] at HA HV
    clear hl
    go_enter Try.func24, Try.ntmps24
    go_wp2_with fail
    refine (HA.out).mono ?_
    rintro _ _ ⟨rfl, rfl⟩
    go_wp2_with fail
    go_ret2
    exact Gives2.of HV.out (Below.refl _ _)
  case pos =>
    by_cases hm : linksB m = true
    case neg =>
      rw [Bool.not_eq_true] at hm
      rw [hl] at HA HV
      rw [hm] at HB HV
      clear hl hm
      go_enter Try.func24, Try.ntmps24
      go_wp2_with fail
      refine (HA.out).mono ?_
      rintro _ _ ⟨rfl, rfl⟩
      go_wp2_with fail
      refine (HB.out).mono ?_
      rintro _ _ ⟨rfl, rfl⟩
      go_wp2_with fail
      go_ret2
      exact Gives2.of HV.out (Below.refl _ _)
    case pos =>
      have h1 := hl
      have h2 := hm
      unfold linksB at h1 h2
      simp only [Bool.and_eq_true, inB_iff] at h1 h2
      have e1 : IntKind.i64.wrap (l - m) = l - m := IntWalk.i64_in _ (by omega)
      rw [hl] at HA HV
      rw [hm] at HB HV
      clear hl hm h1 h2
      by_cases hlt : l < m
      case pos =>
        rw [Bool.and_self, if_pos rfl, if_pos hlt] at HV
        go_enter Try.func24, Try.ntmps24
        go_wp2_with fail
        refine (HA.out).mono ?_
        rintro _ _ ⟨rfl, rfl⟩
        go_wp2_with fail
        refine (HB.out).mono ?_
        rintro _ _ ⟨rfl, rfl⟩
        go_wp2_with fail
        go_ret2
        exact Gives2.of HV.out (Below.refl _ _)
      case neg =>
        rw [Bool.and_self, if_pos rfl, if_neg hlt] at HV
        go_enter Try.func24, Try.ntmps24
        go_wp2_with fail
        refine (HA.out).mono ?_
        rintro _ _ ⟨rfl, rfl⟩
        go_wp2_with fail
        refine (HB.out).mono ?_
        rintro _ _ ⟨rfl, rfl⟩
        go_wp2_with fail
        go_ret2
        exact Gives2.of HV.out (Below.refl _ _)
end Go.Proofs.Ytilepehlmjohbaa
