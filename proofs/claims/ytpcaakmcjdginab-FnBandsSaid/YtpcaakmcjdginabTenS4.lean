/- The model: TurnAll, TurnNipple. -/
import Derived.Test.YtpcaakmcjdginabTenS3
import Derived.Test.YtpcaakmcjdginabOne
namespace Go.Proofs.Ytpcaakmcjdginab
open Go.RowKit
set_option linter.unusedSimpArgs false
set_option linter.unusedVariables false

theorem code_bad {zs s ts : List Int} (h : ¬ codeT zs s ts = 0) : ∃ z : Int, z ≠ 0 ∧ codeT zs s ts = z ∧ turnAllR zs s ts = ([], z) := by
  unfold codeT at *
  unfold turnAllR
  by_cases h1 : (tenB zs && stiffB s) = true
  · rw [if_pos h1] at h ⊢
    by_cases h2 : (rngB (-100) 100 ts && decide (ts.length = zs.length)) = true
    · rw [if_pos h2] at h; exact absurd rfl h
    · rw [if_neg h2, if_pos h1, if_neg (by rw [Bool.and_comm]; exact h2)]
      exact ⟨2, by omega, rfl, rfl⟩
  · rw [if_neg h1, if_neg h1]
    exact ⟨1, by omega, rfl, rfl⟩
theorem code_good {zs s ts : List Int} (h : codeT zs s ts = 0) : Ten zs ∧ Stiff s ∧ rngB (-100) 100 ts = true ∧ ts.length = zs.length := by
  unfold codeT at h
  by_cases h1 : (tenB zs && stiffB s) = true
  · rw [if_pos h1] at h
    by_cases h2 : (rngB (-100) 100 ts && decide (ts.length = zs.length)) = true
    · rw [Bool.and_eq_true] at h1 h2
      exact ⟨tenB_iff.1 h1.1, stiffB_iff.1 h1.2, h2.1, by simpa using h2.2⟩
    · rw [if_neg h2] at h; omega
  · rw [if_neg h1] at h; omega
set_option maxRecDepth 100000 in
set_option maxHeartbeats 4000000 in
theorem specCode (A : Option Addr) (c : Nat) (zs : List Int) (B : Option Addr) (b : Nat) (s : List Int) (C : Option Addr) (e : Nat) (ts : List Int) (w : World) (L : Ls zs A c w) (L2 : Ls s B b w) (L3 : Ls ts C e w) (n : Nat) (hnn : zs.length = n) :
    Calls Try.prog 49 #[.slice A n c, .slice B s.length b, .slice C ts.length e] w (IsV w (.int .i64 (codeT zs s ts))) := by
  have HTE := Go.Lib.hid (fun w0 L0 => specTen A c zs w0 L0)
  have HSF := Go.Lib.hid (fun w0 L0 => specStiff B b s w0 L0)
  have HL := Go.Lib.hid L
  have HS := Go.Lib.hid L2
  have HTS := Go.Lib.hid L3
  have hn := L3.few
  have hnz : n ≤ 1048576 := hnn ▸ L.few
  have HB := Go.Lib.hid (Below.refl w.heap.size w)
  rw [hnn] at HTE
  clear L L2 L3
  by_cases ht : tenB zs = true
  case neg =>
    have HV := Go.Lib.hid (show codeT zs s ts = 1 by simp [codeT, ht])
    rw [Bool.not_eq_true] at ht
    rw [ht] at HTE
    clear ht hnn
    go_enter Try.func49, Try.ntmps49
    go_wp2_with fail
    refine (HTE.out _ HL.out).mono ?_
    rintro _ _ ⟨rfl, rfl⟩
    go_wp2_with fail
    go_ret
    exact ⟨by rw [HV.out]; rfl, HB.out⟩
  case pos =>
  rw [ht] at HTE
  by_cases hs : stiffB s = true
  case neg =>
    have HV := Go.Lib.hid (show codeT zs s ts = 1 by simp [codeT, hs])
    rw [Bool.not_eq_true] at hs
    rw [hs] at HSF
    clear ht hs hnn
    go_enter Try.func49, Try.ntmps49
    go_wp2_with fail
    refine (HTE.out _ HL.out).mono ?_
    rintro _ _ ⟨rfl, rfl⟩
    go_wp2_with fail
    refine (HSF.out _ HS.out).mono ?_
    rintro _ w1 ⟨rfl, b1⟩
    have HB := Go.Lib.hid (upB HB.out b1)
    have HL := Go.Lib.hid (HL.out.below b1)
    have HS := Go.Lib.hid (HS.out.below b1)
    clear b1
    go_wp2_with fail
    go_ret
    exact ⟨by rw [HV.out]; rfl, HB.out⟩
  case pos =>
  rw [hs] at HSF
  have HMISS := Go.Lib.hid (fun (h : rngB (-100) 100 ts = false) => show codeT zs s ts = 2 by simp [codeT, ht, hs, h])
  have HLEN := Go.Lib.hid (fun (h : ¬ ts.length = n) => show codeT zs s ts = 2 by simp [codeT, ht, hs, hnn, h])
  have HGOOD := Go.Lib.hid (fun (h : rngB (-100) 100 ts = true) (h2 : ts.length = n) => show codeT zs s ts = 0 by simp [codeT, ht, hs, h, h2, hnn])
  clear ht hs hnn
  go_enter Try.func49, Try.ntmps49
  go_wp2_with fail
  refine (HTE.out _ HL.out).mono ?_
  rintro _ _ ⟨rfl, rfl⟩
  go_wp2_with fail
  refine (HSF.out _ HS.out).mono ?_
  rintro _ w1 ⟨rfl, b1⟩
  have HB := Go.Lib.hid (upB HB.out b1)
  have HL := Go.Lib.hid (HL.out.below b1)
  have HS := Go.Lib.hid (HS.out.below b1)
  have HTS := Go.Lib.hid (HTS.out.below b1)
  clear b1
  go_wp2_with fail
  go_loopw [7] (fun i wr => ∃ k : Nat, k ≤ ts.length ∧ i = .int .i64 k ∧ wr = w1 ∧ rngB (-100) 100 ts = rngB (-100) 100 (ts.drop k)) (fun i _ => ts.length - (intOf i).toNat)
  case atStart => exact ⟨0, Nat.zero_le _, rfl, rfl, rfl⟩
  case round =>
    obtain ⟨k, hk, rfl, rfl, he⟩ := hrel
    have HE := Go.Lib.hid he
    clear he
    by_cases hlt : k < ts.length
    case pos =>
      obtain ⟨b, o, rfl, -, hc⟩ := HTS.out.at_ hlt
      have hcell := hc k hlt
      have HI := Go.Lib.hid (inN2 (ts.getD k 0) (-100) 100 wr)
      by_cases hin : -100 ≤ ts.getD k 0 ∧ ts.getD k 0 ≤ 100
      case pos =>
        have HS := Go.Lib.hid (rngB_step hlt hin HE.out)
        rw [inB_iff.2 hin] at HI
        clear hc hin HE
        generalize ts.getD k 0 = y at *
        go_wp2_with fail
        refine HI.out.mono ?_
        rintro _ _ ⟨rfl, rfl⟩
        go_wp2_with fail
        go_roundw
        case rel => exact ⟨k + 1, by omega, by go_num, by first | rfl | trivial, HS.out⟩
        case measure => simp [intOf]; omega
      case neg =>
        have HM := Go.Lib.hid (rngB_miss hlt hin)
        have e : inB (ts.getD k 0) (-100) 100 = false := by rw [← Bool.not_eq_true, inB_iff]; exact hin
        rw [e] at HI
        clear hc hin HE e
        generalize ts.getD k 0 = y at *
        go_wp2_with fail
        refine HI.out.mono ?_
        rintro _ _ ⟨rfl, rfl⟩
        go_wp2_with fail
        have HV := Go.Lib.hid (HMISS.out HM.out)
        go_ret
        exact ⟨by rw [HV.out]; rfl, HB.out⟩
    case neg =>
      have HR := Go.Lib.hid (rngB_end (by omega) HE.out)
      clear HE
      obtain rfl : k = ts.length := by omega
      by_cases hq : ts.length = n
      case pos =>
        have HV := Go.Lib.hid (HGOOD.out HR.out hq)
        have hqb : ((ts.length : Int) != (n : Int)) = false := by simp [hq]
        clear hq
        go_wp2_with fail
        go_ret
        exact ⟨by rw [HV.out]; rfl, HB.out⟩
      case neg =>
        have HV := Go.Lib.hid (HLEN.out hq)
        have hqb : ((ts.length : Int) != (n : Int)) = true := by simp; omega
        go_wp2_with fail
        go_ret
        exact ⟨by rw [HV.out]; rfl, HB.out⟩
set_option maxRecDepth 100000 in
set_option maxHeartbeats 4000000 in
theorem specTurnAll (A : Option Addr) (c : Nat) (zs : List Int) (B : Option Addr) (b : Nat) (s : List Int) (C : Option Addr) (e : Nat) (ts : List Int) (w : World) (L : Ls zs A c w) (L2 : Ls s B b w) (L3 : Ls ts C e w) :
    Calls Try.prog 13 #[.slice A zs.length c, .slice B s.length b, .slice C ts.length e] w (GivesLN (turnAllR zs s ts) w) := by
  have HC := Go.Lib.hid (specCode A c zs B b s C e ts w L L2 L3 zs.length rfl)
  have HL := Go.Lib.hid L
  have HS := Go.Lib.hid L2
  have HTS := Go.Lib.hid L3
  have HB := Go.Lib.hid (Below.refl w.heap.size w)
  clear L L2 L3
  by_cases h0 : codeT zs s ts = 0
  case neg =>
    have hr : ∃ z : Int, z ≠ 0 ∧ codeT zs s ts = z ∧ turnAllR zs s ts = ([], z) := code_bad h0
    obtain ⟨z, hz, hcz, hr⟩ := hr
    have HV := Go.Lib.hid hr
    rw [hcz] at HC
    have hzb : (z != 0) = true := by simpa using hz
    clear hr hcz h0 hz
    go_enter Try.func13, Try.ntmps13
    go_wp2_with fail
    refine (HC.out).mono ?_
    rintro _ w1 ⟨rfl, b1⟩
    have HB := Go.Lib.hid (upB HB.out b1)
    clear b1
    go_wp2_with fail
    go_ret2
    exact GivesLN.nil HV.out HB.out
  case pos =>
  obtain ⟨ht, hs, hr, hl⟩ := code_good h0
  rw [h0] at HC
  have HTU := Go.Lib.hid (fun w0 L0 L1 L2 => specTurnL A c zs B b s C e ts w0 L0 L1 L2 zs.length rfl ht hs hr hl)
  have h4 := ht.lo
  have h48 := ht.hi
  have hal := allTo_len zs.length zs ts s zs.length
  have HR := Go.Lib.hid (show turnAllR zs s ts = if tenB (allTo zs.length zs ts s zs.length) then (allTo zs.length zs ts s zs.length, 0) else ([], 3) by simp [turnAllR, tenB_iff.2 ht, stiffB_iff.2 hs, hr, hl])
  clear h0 ht hs hr hl
  generalize allTo zs.length zs ts s zs.length = us at *
  have HAL := Go.Lib.hid hal
  clear hal
  have HTE := Go.Lib.hid (fun (D : Option Addr) (d : Nat) w0 L0 => specTen D d us w0 L0)
  rw [HAL.out] at HTE
  by_cases hu : tenB us = true
  case neg =>
    rw [if_neg hu] at HR
    rw [Bool.not_eq_true] at hu
    rw [hu] at HTE
    clear hu
    go_enter Try.func13, Try.ntmps13
    go_wp2_with fail
    refine (HC.out).mono ?_
    rintro _ w1 ⟨rfl, b1⟩
    have HB := Go.Lib.hid (upB HB.out b1)
    have HL := Go.Lib.hid (HL.out.below b1)
    have HS := Go.Lib.hid (HS.out.below b1)
    have HTS := Go.Lib.hid (HTS.out.below b1)
    clear b1
    go_wp2_with fail
    refine (HTU.out _ HL.out HS.out HTS.out).mono ?_
    rintro _ w2 ⟨g, cap, rfl, ht⟩
    have hus : Ls us (some ⟨g, 0, none⟩) cap w2 := ⟨by rw [HAL.out]; exact ht.ow.rd.here, by rw [HAL.out]; exact ht.ow.le, by rw [HAL.out]; omega⟩
    have HT2 := Go.Lib.hid (HTE.out _ _ w2 hus)
    have HB := Go.Lib.hid (upB HB.out ht.b)
    clear ht hus
    go_wp2_with fail
    refine (HT2.out).mono ?_
    rintro _ _ ⟨rfl, rfl⟩
    go_wp2_with fail
    go_ret2
    exact GivesLN.nil HR.out HB.out
  case pos =>
    rw [if_pos hu] at HR
    rw [hu] at HTE
    clear hu
    go_enter Try.func13, Try.ntmps13
    go_wp2_with fail
    refine (HC.out).mono ?_
    rintro _ w1 ⟨rfl, b1⟩
    have HB := Go.Lib.hid (upB HB.out b1)
    have HL := Go.Lib.hid (HL.out.below b1)
    have HS := Go.Lib.hid (HS.out.below b1)
    have HTS := Go.Lib.hid (HTS.out.below b1)
    clear b1
    go_wp2_with fail
    refine (HTU.out _ HL.out HS.out HTS.out).mono ?_
    rintro _ w2 ⟨g, cap, rfl, ht⟩
    have hus : Ls us (some ⟨g, 0, none⟩) cap w2 := ⟨by rw [HAL.out]; exact ht.ow.rd.here, by rw [HAL.out]; exact ht.ow.le, by rw [HAL.out]; omega⟩
    have HT2 := Go.Lib.hid (HTE.out _ _ w2 hus)
    have HO := Go.Lib.hid (ht.ow.lower HB.out.size)
    have HB := Go.Lib.hid (upB HB.out ht.b)
    clear ht hus
    go_wp2_with fail
    refine (HT2.out).mono ?_
    rintro _ _ ⟨rfl, rfl⟩
    go_wp2_with fail
    go_ret2
    exact GivesLN.own HR.out HAL.out HO.out HB.out
end Go.Proofs.Ytpcaakmcjdginab
