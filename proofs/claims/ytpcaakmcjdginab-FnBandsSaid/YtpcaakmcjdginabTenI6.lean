/- The program: TurnAll, TurnNipple. -/
import Derived.Test.YtpcaakmcjdginabTenI5
namespace Go.Proofs.Ytpcaakmcjdginab
open Go.RowKit
set_option linter.unusedSimpArgs false
set_option linter.unusedVariables false

set_option maxRecDepth 100000 in
set_option maxHeartbeats 8000000 in
theorem implTurnAll (A : Option Addr) (c : Nat) (zs : List Int) (B : Option Addr) (b : Nat) (s : List Int) (C : Option Addr) (e : Nat) (ts : List Int) (w : World) (L : Ls zs A c w) (L2 : Ls s B b w) (L3 : Ls ts C e w) (n : Nat) (hnn : zs.length = n) :
    Calls Try.prog 12 #[.slice A n c, .slice B s.length b, .slice C ts.length e] w (GivesLN (turnAllR zs s ts) w) := by
  have HTE := Go.Lib.hid (implTen A c zs w L)
  have HSF := Go.Lib.hid (implStiff B b s w L2)
  have HL := Go.Lib.hid L
  have HS := Go.Lib.hid L2
  have HTS := Go.Lib.hid L3
  have hn := L3.few
  rw [hnn] at HTE
  have hnz : n ≤ 1048576 := hnn ▸ L.few
  clear L L2 L3
  by_cases ht : tenB zs = true
  case neg =>
    have HV := Go.Lib.hid (show turnAllR zs s ts = ([], 1) by simp [turnAllR, ht])
    rw [Bool.not_eq_true] at ht
    rw [ht] at HTE
    clear ht hnn
    go_enter Try.func12, Try.ntmps12
    go_wp2_with fail
    refine (HTE.out).mono ?_
    rintro _ _ ⟨rfl, rfl⟩
    go_wp2_with fail
    go_ret2
    exact GivesLN.nil HV.out (Below.refl _ _)
  case pos =>
  have HT := Go.Lib.hid (tenB_iff.1 ht)
  rw [ht] at HTE
  by_cases hs : stiffB s = true
  case neg =>
    have HV := Go.Lib.hid (show turnAllR zs s ts = ([], 1) by simp [turnAllR, hs])
    rw [Bool.not_eq_true] at hs
    rw [hs] at HSF
    clear ht hs hnn
    go_enter Try.func12, Try.ntmps12
    go_wp2_with fail
    refine (HTE.out).mono ?_
    rintro _ _ ⟨rfl, rfl⟩
    go_wp2_with fail
    refine (HSF.out).mono ?_
    rintro _ _ ⟨rfl, rfl⟩
    go_wp2_with fail
    go_ret2
    exact GivesLN.nil HV.out (Below.refl _ _)
  case pos =>
  have HSS := Go.Lib.hid (stiffB_iff.1 hs)
  rw [hs] at HSF
  by_cases hq : ts.length = n
  case neg =>
    have HV := Go.Lib.hid (show turnAllR zs s ts = ([], 2) by simp [turnAllR, ht, hs, hnn, hq])
    have hqb : ((ts.length : Int) != (n : Int)) = true := by simp; omega
    clear ht hs hnn
    go_enter Try.func12, Try.ntmps12
    go_wp2_with fail
    refine (HTE.out).mono ?_
    rintro _ _ ⟨rfl, rfl⟩
    go_wp2_with fail
    refine (HSF.out).mono ?_
    rintro _ _ ⟨rfl, rfl⟩
    go_wp2_with fail
    go_ret2
    exact GivesLN.nil HV.out (Below.refl _ _)
  case pos =>
  have hqb : ((ts.length : Int) != (n : Int)) = false := by simp [hq]
  have h4 := HT.out.lo
  have h48 := HT.out.hi
  rw [hnn] at h4 h48
  have HMISS := Go.Lib.hid (fun (h : rngB (-100) 100 ts = false) => show turnAllR zs s ts = ([], 2) by simp [turnAllR, ht, hs, h])
  have HGOOD := Go.Lib.hid (fun (h : rngB (-100) 100 ts = true) => show turnAllR zs s ts = tensR (allTo n zs ts s n) by simp [turnAllR, tensR, ht, hs, h, hq, hnn])
  have HRG := Go.Lib.hid (fun w0 (L0 : Ls zs A c w0) => implRing A c n zs w0 L0 hnn h4 h48)
  have HBD := Go.Lib.hid (fun (k : Nat) (hk : k ≤ n) (hr : rngB (-100) 100 ts = true) => Bd.allTo (n := n) HT.out.bd hr HSS.out k (by omega))
  have hq2 : n ≤ ts.length ∧ ts.length ≤ n := by omega
  obtain ⟨hq3, hq4⟩ := hq2
  clear ht hs hnn hq
  go_enter Try.func12, Try.ntmps12
  go_wp2_with fail
  refine (HTE.out).mono ?_
  rintro _ _ ⟨rfl, rfl⟩
  go_wp2_with fail
  refine (HSF.out).mono ?_
  rintro _ _ ⟨rfl, rfl⟩
  go_wp2_with fail
  go_loopw [29] (fun i wr => ∃ k : Nat, k ≤ ts.length ∧ i = .int .i64 k ∧ wr = w ∧ rngB (-100) 100 ts = rngB (-100) 100 (ts.drop k)) (fun i _ => ts.length - (intOf i).toNat)
  case atStart => exact ⟨0, Nat.zero_le _, rfl, rfl, rfl⟩
  case round =>
    obtain ⟨k, hk, rfl, rfl, he⟩ := hrel
    have HE := Go.Lib.hid he
    clear he
    by_cases hlt : k < ts.length
    case pos =>
      obtain ⟨b, o, rfl, -, hc⟩ := HTS.out.at_ hlt
      have hcell := hc k hlt
      have HI := Go.Lib.hid (implAreQ (ts.getD k 0) wr)
      by_cases hin : -100 ≤ ts.getD k 0 ∧ ts.getD k 0 ≤ 100
      case pos =>
        have HS := Go.Lib.hid (rngB_step hlt hin HE.out)
        rw [inB_iff.2 hin] at HI
        clear hc hin HE
        generalize ts.getD k 0 = y at *
        go_wp2_with fail
        refine HI.out.mono ?_
        rintro _ _ ⟨rfl, rfl⟩
        go_wp2_with fail
        go_roundw
        case rel => exact ⟨k + 1, by omega, by go_num, by first | rfl | trivial, HS.out⟩
        case measure => simp [intOf]; omega
      case neg =>
        have HM := Go.Lib.hid (rngB_miss hlt hin)
        have e : inB (ts.getD k 0) (-100) 100 = false := by rw [← Bool.not_eq_true, inB_iff]; exact hin
        rw [e] at HI
        clear hc hin HE e
        generalize ts.getD k 0 = y at *
        go_wp2_with fail
        refine HI.out.mono ?_
        rintro _ _ ⟨rfl, rfl⟩
        go_wp2_with fail
        have HV := Go.Lib.hid (HMISS.out HM.out)
        go_ret2
        exact GivesLN.nil HV.out (Below.refl _ _)
    case neg =>
      have HR := Go.Lib.hid (rngB_end (by omega) HE.out)
      clear HE
      obtain ⟨wq, rfl⟩ : ∃ wq : World, wq = wr := ⟨_, rfl⟩
      obtain rfl : k = ts.length := by omega
      have HV := Go.Lib.hid (HGOOD.out HR.out)
      go_wp2_with fail
      refine (HRG.out _ HL.out).mono ?_
      rintro _ w1 ⟨g, rfl, hg, hrng, hb1⟩
      have HB1 := Go.Lib.hid hb1
      have HRN := Go.Lib.hid hrng
      have HGW := Go.Lib.hid hg
      clear hrng hb1 hg
      go_wp2_with fail
      go_loopw [11, 42] (fun r i wr => ∃ k : Nat, k ≤ n ∧ i = .int .i64 k ∧ r = .pointer (some ⟨g, (if k = n then 0 else k) * 3, none⟩) ∧ Rng wr g n (allTo n zs ts s k) ∧ Below wq.heap.size wq wr) (fun _ i _ => n - (intOf i).toNat)
      case atStart => exact ⟨0, Nat.zero_le _, rfl, by rw [if_neg (by omega)], HRN.out, HB1.out⟩
      case round =>
        obtain ⟨k, hk, rfl, rfl, hr, hb⟩ := hrel
        have HRK := Go.Lib.hid hr
        have HBK := Go.Lib.hid hb
        clear HRN HB1
        by_cases hlt : k < n
        case neg =>
          obtain rfl : k = n := by omega
          have HTS2 := Go.Lib.hid (implTensions g k _ wr hr (by omega) (by omega))
          rw [← HV.out] at HTS2
          clear hr hb
          go_wp2_with fail
          refine HTS2.out.mono ?_
          rintro _ w2 hgv
          obtain ⟨D, d, rfl, ho, hbb⟩ := GivesLN.up hgv HBK.out
          have HF := Go.Lib.hid (And.intro ho hbb)
          clear hgv ho hbb
          go_wp2_with fail
          go_ret2
          exact ⟨D, d, rfl, HF.out.1, HF.out.2⟩
        case pos =>
          rw [if_neg (by omega)]
          obtain ⟨tb, to, rfl, -, htc⟩ := (HTS.out.below hb).at_ (k := k) (by omega)
          have hct := htc k (by omega)
          have hq := rngB_at HR.out (k := k) (by omega)
          have HSR := Go.Lib.hid (show Rd wr 0 g B s.length (ints s) from ((HS.out.rd.below hb (Nat.le_refl _)).mono (Nat.le_refl _) HGW.out))
          have HAN := Go.Lib.hid (show allTo n zs ts s (k + 1) = turn1 n (allTo n zs ts s k) k (ts.getD k 0) s from rfl)
          have hbd := HBD.out k (by omega) HR.out
          have HTN := Go.Lib.hid (fun q0 q1 => implTurn g n k (allTo n zs ts s k) B b s (ts.getD k 0) (3000 + 160000 * k) wr hr HSR.out HS.out.le hlt h4 h48 HSS.out q0 q1 (by omega) (by omega) hbd)
          have HNP := Go.Lib.hid (nextP_eq hlt)
          clear htc hr hb hbd
          generalize ts.getD k 0 = q at *
          obtain ⟨q0, q1⟩ := hq
          have HT3 := Go.Lib.hid (HTN.out q0 q1)
          rw [← HAN.out] at HT3
          go_wp2_with fail
          refine HT3.out.mono ?_
          rintro _ w2 ⟨⟨v, rfl⟩, hr2, hk2⟩
          have hnx := hr2.next hlt
          rw [HNP.out] at hnx
          have HR2 := Go.Lib.hid hr2
          have HB2 := Go.Lib.hid (HBK.out.trans (hk2.below HGW.out HBK.out.size))
          clear hr2 hk2 HRK HBK HTN HT3
          go_wp2_with fail
          go_roundw
          case rel => exact ⟨k + 1, by omega, by go_num, rfl, HR2.out, HB2.out⟩
          case measure => simp [intOf]; omega
end Go.Proofs.Ytpcaakmcjdginab
