/- The program: AfterPlan, WorstPlace, IsTrue, DishAfter, UndoPlan. -/
import Derived.Test.YtpcaakmcjdginaaTruI2
namespace Go.Proofs.Ytpcaakmcjdginaa
open Go.RowKit
set_option linter.unusedSimpArgs false
set_option linter.unusedVariables false

theorem Devd.tur {w wr w' : World} {n g cap : Nat} {xs ys : List Int} (h : Devd wr w.heap.size wr.heap.size n g cap xs w') (t : Tur w n g cap ys wr) (hn : 0 < n) : Tur w n g cap xs w' :=
  ⟨h.ow.raise h.kp.size, t.b.trans (h.kp.below (t.lo hn).1 t.b.size)⟩
theorem Ls.near {zs : List Int} {B : Option Addr} {c : Nat} {w wr : World} {g : Nat} (h : Ls zs B c w) (b : Below w.heap.size w wr) (hg : w.heap.size ≤ g) : Rd wr 0 g B zs.length (ints zs) := (h.rd.below b (Nat.le_refl _)).mono (Nat.le_refl _) hg
theorem Tur.ls {w wr : World} {n g cap : Nat} {xs : List Int} (h : Tur w n g cap xs wr) (hf : n ≤ 1048576) : Ls xs (some ⟨g, 0, none⟩) cap wr := by
  have hl := h.len
  subst hl
  exact ⟨h.ow.rd.here, h.ow.le, hf⟩
set_option maxRecDepth 100000 in
set_option maxHeartbeats 8000000 in
theorem implAfterPlan (A : Option Addr) (c : Nat) (zs : List Int) (B : Option Addr) (b : Nat) (s : List Int) (C : Option Addr) (e : Nat) (ts : List Int) (w : World) (L : Ls zs A c w) (L2 : Ls s B b w) (L3 : Ls ts C e w) (n : Nat) (hnn : zs.length = n) :
    Calls Try.prog 20 #[.slice A n c, .slice B s.length b, .slice C ts.length e] w (GivesLN (afterR zs s ts) w) := by
  have HD1 := Go.Lib.hid (implDev A c zs w L)
  have HE1 := Go.Lib.hid (implEff B b s w L2)
  have HP := Go.Lib.hid (implWithin C e ts 100 w L3 (by omega) (by omega))
  rw [hnn] at HD1
  have hnz : n ≤ 1048576 := hnn ▸ L.few
  have htz : ts.length ≤ 1048576 := L3.few
  by_cases hd : devB zs = true
  case neg =>
    have HV0 := Go.Lib.hid (show afterR zs s ts = ([], 1) by unfold afterR; rw [if_neg (by simp [hd])])
    rw [Bool.not_eq_true] at hd
    rw [hd] at HD1
    have HV := Go.Lib.hid (show afterR zs s ts = ([], 1) by exact HV0.out)
    clear hd hnn L L2 L3
    go_enter Try.func20, Try.ntmps20
    go_wp2_with fail
    refine (HD1.out).mono ?_
    rintro _ _ ⟨rfl, rfl⟩
    go_wp2_with fail
    go_ret2
    exact GivesLN.nil HV.out (Below.refl _ _)
  case pos =>
  by_cases hs : effB s = true
  case neg =>
    have HV0 := Go.Lib.hid (show afterR zs s ts = ([], 1) by unfold afterR; rw [if_neg (by simp [hs])])
    rw [Bool.not_eq_true] at hs
    rw [hs] at HE1
    rw [hd] at HD1
    have HV := Go.Lib.hid (show afterR zs s ts = ([], 1) by exact HV0.out)
    clear hd hs hnn L L2 L3
    go_enter Try.func20, Try.ntmps20
    go_wp2_with fail
    refine (HD1.out).mono ?_
    rintro _ _ ⟨rfl, rfl⟩
    go_wp2_with fail
    refine (HE1.out).mono ?_
    rintro _ _ ⟨rfl, rfl⟩
    go_wp2_with fail
    go_ret2
    exact GivesLN.nil HV.out (Below.refl _ _)
  case pos =>
  have h1 : (devB zs && effB s) = true := by rw [hd, hs]; rfl
  rw [hd] at HD1
  rw [hs] at HE1
  by_cases hq : ts.length = n
  case neg =>
    have hqb : ((ts.length : Int) != (n : Int)) = true := by simp; omega
    have HV := Go.Lib.hid (show afterR zs s ts = ([], 2) by unfold afterR; rw [if_pos h1, if_neg (by simp [hnn, hq])])
    clear h1 hd hs hnn hq L L2 L3
    go_enter Try.func20, Try.ntmps20
    go_wp2_with fail
    refine (HD1.out).mono ?_
    rintro _ _ ⟨rfl, rfl⟩
    go_wp2_with fail
    refine (HE1.out).mono ?_
    rintro _ _ ⟨rfl, rfl⟩
    go_wp2_with fail
    go_ret2
    exact GivesLN.nil HV.out (Below.refl _ _)
  case pos =>
  have hqb : ((ts.length : Int) != (n : Int)) = false := by simp [hq]
  by_cases hr : rngB (-100) 100 ts = true
  case neg =>
    have HV0 := Go.Lib.hid (show afterR zs s ts = ([], 2) by unfold afterR; rw [if_pos h1, if_neg (by simp [hr])])
    rw [Bool.not_eq_true] at hr
    rw [hr] at HP
    have HV := Go.Lib.hid (show afterR zs s ts = ([], 2) by exact HV0.out)
    clear h1 hd hs hnn hq hr L L2 L3
    go_enter Try.func20, Try.ntmps20
    go_wp2_with fail
    refine (HD1.out).mono ?_
    rintro _ _ ⟨rfl, rfl⟩
    go_wp2_with fail
    refine (HE1.out).mono ?_
    rintro _ _ ⟨rfl, rfl⟩
    go_wp2_with fail
    refine (HP.out).mono ?_
    rintro _ _ ⟨rfl, rfl⟩
    go_wp2_with fail
    go_ret2
    exact GivesLN.nil HV.out (Below.refl _ _)
  case pos =>
  have HRR := Go.Lib.hid (show afterR zs s ts = if devB (afterI zs s ts) then (afterI zs s ts, 0) else ([], 3) by unfold afterR; rw [if_pos h1, if_pos (by simp [hr, hnn, hq])])
  rw [hr] at HP
  have hD := devB_iff.1 hd
  have HST := Go.Lib.hid (effB_iff.1 hs)
  have h4 : 4 ≤ n := hnn ▸ hD.lo
  have h10 : n ≤ 10 := hnn ▸ hD.hi
  have HR := Go.Lib.hid hr
  have HCL := Go.Lib.hid (implClone A c zs w L (by omega))
  rw [hnn] at HCL
  have HS := Go.Lib.hid L2
  have HTS := Go.Lib.hid L3
  have HAF := Go.Lib.hid (show allTo n zs (sgT ts) s n = afterI zs s ts by unfold afterI; rw [hnn])
  have HBD := Go.Lib.hid (fun k hk => bdAllTo2 (n := n) hD.bd (sgT_bd hr) HST.out.rng HST.out.hi k hk)
  rw [sgT_len] at HBD
  have HGT := Go.Lib.hid (fun k (hk : k < ts.length) => sgT_get hk)
  have HAL := Go.Lib.hid (show (afterI zs s ts).length = n from (afterI_len zs s ts).trans hnn)
  have HTE := Go.Lib.hid (fun (D : Option Addr) (d : Nat) w0 L0 => implDev D d (afterI zs s ts) w0 L0)
  rw [HAL.out] at HTE
  have hq2 : n ≤ ts.length ∧ ts.length ≤ n := by omega
  obtain ⟨hq3, hq4⟩ := hq2
  clear L L2 L3 h1 hq hr hnn hD hd hs
  by_cases hu : devB (afterI zs s ts) = true
  case neg =>
    have HV := Go.Lib.hid (show afterR zs s ts = ([], 3) by rw [HRR.out, if_neg hu])
    rw [Bool.not_eq_true] at hu
    rw [hu] at HTE
    clear hu HRR
    go_enter Try.func20, Try.ntmps20
    go_wp2_with fail
    refine (HD1.out).mono ?_
    rintro _ _ ⟨rfl, rfl⟩
    go_wp2_with fail
    refine (HE1.out).mono ?_
    rintro _ _ ⟨rfl, rfl⟩
    go_wp2_with fail
    refine (HP.out).mono ?_
    rintro _ _ ⟨rfl, rfl⟩
    go_wp2_with fail
    refine HCL.out.mono ?_
    rintro _ w1 ⟨g, cap, rfl, htu⟩
    have HT0 := Go.Lib.hid htu
    clear htu HCL
    go_wp2_with fail
    go_loopw [33] (fun u wr => ∃ k : Nat, k ≤ n ∧ u = .int .i64 k ∧ Tur w n g cap (allTo n zs (sgT ts) s k) wr) (fun u _ => n - (intOf u).toNat)
    case atStart => exact ⟨0, Nat.zero_le _, rfl, HT0.out⟩
    case round =>
      obtain ⟨k, hk, rfl, htu⟩ := hrel
      have HTI := Go.Lib.hid htu
      clear HT0
      by_cases hlt : k < n
      case neg =>
        obtain rfl : k = n := by omega
        have HT2 := Go.Lib.hid (HTE.out (some ⟨g, 0, none⟩) cap wr)
        rw [HAF.out] at htu
        have HTI := Go.Lib.hid htu
        have HT3 := Go.Lib.hid (HT2.out (htu.ls (by omega)))
        clear htu
        go_wp2_with fail
        refine (HT3.out).mono ?_
        rintro _ _ ⟨rfl, rfl⟩
        go_wp2_with fail
        go_ret2
        exact GivesLN.nil HV.out HTI.out.b
      case pos =>
        have hil : k < ts.length := by omega
        obtain ⟨tb, tof, rfl, -, htc⟩ := (HTS.out.below htu.b).at_ hil
        have hct := htc k hil
        have htb := rngB_at HR.out hil
        have hbd := HBD.out k (by omega)
        have HNX := Go.Lib.hid (show allTo n zs (sgT ts) s (k + 1) = turn1 n (allTo n zs (sgT ts) s k) k ((sgT ts).getD k 0) s from rfl)
        rw [HGT.out k hil] at HNX
        have hlo := htu.lo (by omega)
        have HDV := Go.Lib.hid (fun r0 r1 => implDeviate g n cap (allTo n zs (sgT ts) s k) B b s k (ts.getD k 0) wr w.heap.size wr.heap.size htu.ow (HS.out.near htu.b hlo.1) HS.out.le hlt h4 h10 HST.out r0 r1 (500 + 12000 * k) hbd (by omega) (by omega))
        have hkl : (k : Int) < n := by omega
        clear htu htc hbd hlo
        generalize ts.getD k 0 = q at *
        obtain ⟨q0, q1⟩ := htb
        have HDV2 := Go.Lib.hid (HDV.out q0 q1)
        rw [← HNX.out] at HDV2
        clear HDV
        go_wp2_with fail
        refine HDV2.out.mono ?_
        rintro _ w2 ⟨⟨v, rfl⟩, hdv⟩
        have HTN := Go.Lib.hid (hdv.tur HTI.out (by omega))
        clear hdv
        go_wp2_with fail
        go_roundw
        case rel => exact ⟨k + 1, by omega, by go_num, HTN.out⟩
        case measure => simp [intOf]; omega
  case pos =>
    have HV := Go.Lib.hid (show afterR zs s ts = (afterI zs s ts, 0) by rw [HRR.out, if_pos hu])
    rw [hu] at HTE
    clear hu HRR
    go_enter Try.func20, Try.ntmps20
    go_wp2_with fail
    refine (HD1.out).mono ?_
    rintro _ _ ⟨rfl, rfl⟩
    go_wp2_with fail
    refine (HE1.out).mono ?_
    rintro _ _ ⟨rfl, rfl⟩
    go_wp2_with fail
    refine (HP.out).mono ?_
    rintro _ _ ⟨rfl, rfl⟩
    go_wp2_with fail
    refine HCL.out.mono ?_
    rintro _ w1 ⟨g, cap, rfl, htu⟩
    have HT0 := Go.Lib.hid htu
    clear htu HCL
    go_wp2_with fail
    go_loopw [33] (fun u wr => ∃ k : Nat, k ≤ n ∧ u = .int .i64 k ∧ Tur w n g cap (allTo n zs (sgT ts) s k) wr) (fun u _ => n - (intOf u).toNat)
    case atStart => exact ⟨0, Nat.zero_le _, rfl, HT0.out⟩
    case round =>
      obtain ⟨k, hk, rfl, htu⟩ := hrel
      have HTI := Go.Lib.hid htu
      clear HT0
      by_cases hlt : k < n
      case neg =>
        obtain rfl : k = n := by omega
        have HT2 := Go.Lib.hid (HTE.out (some ⟨g, 0, none⟩) cap wr)
        rw [HAF.out] at htu
        have HTI := Go.Lib.hid htu
        have HT3 := Go.Lib.hid (HT2.out (htu.ls (by omega)))
        clear htu
        go_wp2_with fail
        refine (HT3.out).mono ?_
        rintro _ _ ⟨rfl, rfl⟩
        go_wp2_with fail
        go_ret2
        exact GivesLN.own HV.out HAL.out HTI.out.ow HTI.out.b
      case pos =>
        have hil : k < ts.length := by omega
        obtain ⟨tb, tof, rfl, -, htc⟩ := (HTS.out.below htu.b).at_ hil
        have hct := htc k hil
        have htb := rngB_at HR.out hil
        have hbd := HBD.out k (by omega)
        have HNX := Go.Lib.hid (show allTo n zs (sgT ts) s (k + 1) = turn1 n (allTo n zs (sgT ts) s k) k ((sgT ts).getD k 0) s from rfl)
        rw [HGT.out k hil] at HNX
        have hlo := htu.lo (by omega)
        have HDV := Go.Lib.hid (fun r0 r1 => implDeviate g n cap (allTo n zs (sgT ts) s k) B b s k (ts.getD k 0) wr w.heap.size wr.heap.size htu.ow (HS.out.near htu.b hlo.1) HS.out.le hlt h4 h10 HST.out r0 r1 (500 + 12000 * k) hbd (by omega) (by omega))
        have hkl : (k : Int) < n := by omega
        clear htu htc hbd hlo
        generalize ts.getD k 0 = q at *
        obtain ⟨q0, q1⟩ := htb
        have HDV2 := Go.Lib.hid (HDV.out q0 q1)
        rw [← HNX.out] at HDV2
        clear HDV
        go_wp2_with fail
        refine HDV2.out.mono ?_
        rintro _ w2 ⟨⟨v, rfl⟩, hdv⟩
        have HTN := Go.Lib.hid (hdv.tur HTI.out (by omega))
        clear hdv
        go_wp2_with fail
        go_roundw
        case rel => exact ⟨k + 1, by omega, by go_num, HTN.out⟩
        case measure => simp [intOf]; omega
set_option maxRecDepth 100000 in
set_option maxHeartbeats 4000000 in
theorem implIsTrue (A : Option Addr) (c : Nat) (zs : List Int) (t : Int) (w : World) (L : Ls zs A c w) :
    Calls Try.prog 28 #[.slice A zs.length c, .int .i64 t] w (IsV w (.tuple #[.bool (trueR zs t).1, .int .i64 (trueR zs t).2])) := by
  have HL := Go.Lib.hid L
  have HC := Go.Lib.hid (implDev A c zs w L)
  have HI := Go.Lib.hid (implInR t 0 500 w)
  clear L
  by_cases h1 : devB zs = true
  case neg =>
    have HV := Go.Lib.hid (show trueR zs t = (false, 1) by unfold trueR; rw [if_neg h1])
    rw [Bool.not_eq_true] at h1
    rw [h1] at HC
    clear h1
    go_enter Try.func28, Try.ntmps28
    go_wp2_with fail
    refine (HC.out).mono ?_
    rintro _ _ ⟨rfl, rfl⟩
    go_wp2_with fail
    go_ret2
    exact ⟨by rw [HV.out]; rfl, Below.refl _ _⟩
  case pos =>
  rw [h1] at HC
  by_cases h2 : inB t 0 500 = true
  case neg =>
    have HV := Go.Lib.hid (show trueR zs t = (false, 2) by unfold trueR; rw [if_pos h1, if_neg (show ¬ (decide (0 ≤ t) && decide (t ≤ 500)) = true from h2)])
    rw [Bool.not_eq_true] at h2
    rw [h2] at HI
    clear h1 h2
    go_enter Try.func28, Try.ntmps28
    go_wp2_with fail
    refine (HC.out).mono ?_
    rintro _ _ ⟨rfl, rfl⟩
    go_wp2_with fail
    refine (HI.out).mono ?_
    rintro _ _ ⟨rfl, rfl⟩
    go_wp2_with fail
    go_ret2
    exact ⟨by rw [HV.out]; rfl, Below.refl _ _⟩
  case pos =>
    have hb := inB_iff.1 h2
    have HV := Go.Lib.hid (show trueR zs t = (rngB (-t) t zs, 0) by unfold trueR; rw [if_pos h1, if_pos (show (decide (0 ≤ t) && decide (t ≤ 500)) = true from h2), trueB_within])
    rw [h2] at HI
    have HT := Go.Lib.hid (implWithin A c zs t w HL.out (by omega) (by omega))
    clear h1 h2
    generalize rngB (-t) t zs = tb at *
    go_enter Try.func28, Try.ntmps28
    go_wp2_with fail
    refine (HC.out).mono ?_
    rintro _ _ ⟨rfl, rfl⟩
    go_wp2_with fail
    refine (HI.out).mono ?_
    rintro _ _ ⟨rfl, rfl⟩
    go_wp2_with fail
    refine (HT.out).mono ?_
    rintro _ _ ⟨rfl, rfl⟩
    go_wp2_with fail
    go_ret2
    exact ⟨by rw [HV.out]; rfl, Below.refl _ _⟩
set_option maxRecDepth 100000 in
set_option maxHeartbeats 4000000 in
theorem implDish (A : Option Addr) (c : Nat) (zs : List Int) (w : World) (L : Ls zs A c w) :
    Calls Try.prog 37 #[.slice A zs.length c] w (Gives2 (dishR zs) w) := by
  have HT := Go.Lib.hid (implDev A c zs w L)
  have HL := Go.Lib.hid L
  clear L
  by_cases ht : devB zs = true
  case neg =>
    have HV := Go.Lib.hid (show dishR zs = (0, 1) by unfold dishR; rw [if_neg ht])
    rw [Bool.not_eq_true] at ht
    rw [ht] at HT
    clear ht
    go_enter Try.func37, Try.ntmps37
    go_wp2_with fail
    refine (HT.out).mono ?_
    rintro _ _ ⟨rfl, rfl⟩
    go_wp2_with fail
    go_ret2
    exact Gives2.of HV.out (Below.refl _ _)
  case pos =>
    have HV := Go.Lib.hid (show dishR zs = (meanI zs, 0) by unfold dishR; rw [if_pos ht])
    have hD := devB_iff.1 ht
    have h4 := hD.lo
    have HS := Go.Lib.hid (implMeanG A c zs w HL.out (rngB_iff.2 fun z hz => by have := rngB_iff.1 hD.rng z hz; omega) (by omega))
    rw [ht] at HT
    clear ht hD
    generalize meanI zs = m at *
    go_enter Try.func37, Try.ntmps37
    go_wp2_with fail
    refine (HT.out).mono ?_
    rintro _ _ ⟨rfl, rfl⟩
    go_wp2_with fail
    refine (HS.out).mono ?_
    rintro _ _ ⟨rfl, rfl⟩
    go_wp2_with fail
    go_ret2
    exact Gives2.of HV.out (Below.refl _ _)
set_option maxRecDepth 100000 in
set_option maxHeartbeats 4000000 in
theorem implWorst (A : Option Addr) (c : Nat) (zs : List Int) (w : World) (L : Ls zs A c w) :
    Calls Try.prog 35 #[.slice A zs.length c] w (Gives2 (worstR zs) w) := by
  have HT := Go.Lib.hid (implDev A c zs w L)
  have HL := Go.Lib.hid L
  clear L
  by_cases ht : devB zs = true
  case neg =>
    have HV := Go.Lib.hid (show worstR zs = (0, 1) by unfold worstR; rw [if_neg ht])
    rw [Bool.not_eq_true] at ht
    rw [ht] at HT
    clear ht
    go_enter Try.func35, Try.ntmps35
    go_wp2_with fail
    refine (HT.out).mono ?_
    rintro _ _ ⟨rfl, rfl⟩
    go_wp2_with fail
    go_ret2
    exact Gives2.of HV.out (Below.refl _ _)
  case pos =>
  have HV := Go.Lib.hid (show worstR zs = (((worstTo zs zs.length : Nat) : Int), 0) by unfold worstR; rw [if_pos ht])
  have hD := devB_iff.1 ht
  have h10 := hD.hi
  have h4 := hD.lo
  have HD := Go.Lib.hid hD.bd
  have HWL := Go.Lib.hid (fun k hk => worstTo_lt (zs := zs) (by omega) k hk)
  have HA := Go.Lib.hid (fun x w0 h0 h1 => implAbs x w0 h0 h1)
  rw [ht] at HT
  clear ht hD
  go_enter Try.func35, Try.ntmps35
  go_wp2_with fail
  refine (HT.out).mono ?_
  rintro _ _ ⟨rfl, rfl⟩
  go_wp2_with fail
  go_loopw [4, 12] (fun b i wr => ∃ k : Nat, k ≤ zs.length ∧ i = .int .i64 k ∧ b = .int .i64 (worstTo zs k) ∧ Eqw w wr) (fun _ i _ => zs.length - (intOf i).toNat)
  case atStart => exact ⟨0, Nat.zero_le _, rfl, rfl, Eqw.refl _⟩
  case round =>
    obtain ⟨k, hk, rfl, rfl, hw⟩ := hrel
    have HW := Go.Lib.hid hw
    by_cases hlt : k < zs.length
    case neg =>
      obtain rfl : k = zs.length := by omega
      have hwl := HWL.out zs.length (Nat.le_refl _)
      have ew : IntKind.i64.wrap ((worstTo zs zs.length : Nat) : Int) = ((worstTo zs zs.length : Nat) : Int) := IntWalk.i64_in _ (by omega)
      generalize worstTo zs zs.length = m at *
      clear hw
      go_wp2_with fail
      go_ret2
      exact Gives2.of HV.out HW.out.below
    case pos =>
      have hbl := HWL.out k (by omega)
      obtain ⟨ob, oo, rfl, -, hc⟩ := (HL.out.eqw hw).at_ hlt
      have hcell := hc k hlt
      have hcell2 := hc (worstTo zs k) hbl
      have hx := HD.out k
      have hy := HD.out (worstTo zs k)
      have HN := Go.Lib.hid (show worstTo zs (k + 1) = if absAt zs (worstTo zs k) < absAt zs k then k else worstTo zs k from rfl)
      unfold absAt at HN
      have hkl : (k : Int) < zs.length := by omega
      clear hc hw
      generalize worstTo zs k = m at *
      have hml : (m : Int) < zs.length := by omega
      have hm0 : (0 : Int) ≤ m := by omega
      generalize zs.getD k 0 = x at *
      generalize zs.getD m 0 = y at *
      have x0 : -1000000000000000000 ≤ x := by omega
      have x1 : x ≤ 1000000000000000000 := by omega
      have y0 : -1000000000000000000 ≤ y := by omega
      have y1 : y ≤ 1000000000000000000 := by omega
      clear hx hy
      by_cases hgt : max y (-y) < max x (-x)
      case pos =>
        rw [if_pos hgt] at HN
        go_upto_region 7 with fail
        go_region_held3 (fun w' => w'.cell? ⟨ob, oo + m, none⟩ = some (.int .i64 y) ∧ Eqw w w') (first | exact ⟨by assumption, HW.out.drewN 1⟩ | assumption) ((go_at_call 66; refine (HA.out _ _ (by assumption) (by assumption)).mono ?_; rintro _ _ ⟨rfl, rfl⟩))
        all_goals (go_wp2_with fail; go_roundw; (case rel => exact ⟨k + 1, by omega, by go_num, by rw [HN.out], HW.out.drewN 1⟩); (case measure => simp [intOf]; omega))
      case neg =>
        rw [if_neg hgt] at HN
        go_upto_region 7 with fail
        go_region_held3 (fun w' => w'.cell? ⟨ob, oo + m, none⟩ = some (.int .i64 y) ∧ Eqw w w') (first | exact ⟨by assumption, HW.out.drewN 1⟩ | assumption) ((go_at_call 66; refine (HA.out _ _ (by assumption) (by assumption)).mono ?_; rintro _ _ ⟨rfl, rfl⟩))
        all_goals (go_wp2_with fail; go_roundw; (case rel => exact ⟨k + 1, by omega, by go_num, by rw [HN.out], HW.out.drewN 1⟩); (case measure => simp [intOf]; omega))
theorem negI_snoc2 {ts : List Int} {k : Nat} (hk : k < ts.length) : negI (ts.take (k + 1)) = negI (ts.take k) ++ [-(ts.getD k 0)] := by
  rw [take_succ hk]
  simp [negI]
set_option maxRecDepth 100000 in
set_option maxHeartbeats 4000000 in
theorem implUndo (A : Option Addr) (c : Nat) (ts : List Int) (w : World) (L : Ls ts A c w) :
    Calls Try.prog 23 #[.slice A ts.length c] w (GivesLN (undoR ts) w) := by
  have HP := Go.Lib.hid (implWithin A c ts 100 w L (by omega) (by omega))
  have HL := Go.Lib.hid L
  have hfew := L.few
  clear L
  by_cases h10 : ts.length ≤ 10
  case neg =>
    have HV := Go.Lib.hid (show undoR ts = ([], 2) by unfold undoR; rw [if_neg (by simp [h10])])
    go_enter Try.func23, Try.ntmps23
    go_wp2_with fail
    go_ret2
    exact GivesLN.nil HV.out (Below.refl _ _)
  case pos =>
  by_cases hr : rngB (-100) 100 ts = true
  case neg =>
    have HV := Go.Lib.hid (show undoR ts = ([], 2) by unfold undoR; rw [if_neg (by simp [hr])])
    rw [Bool.not_eq_true] at hr
    rw [hr] at HP
    clear hr
    go_enter Try.func23, Try.ntmps23
    go_wp2_with fail
    refine (HP.out).mono ?_
    rintro _ _ ⟨rfl, rfl⟩
    go_wp2_with fail
    go_ret2
    exact GivesLN.nil HV.out (Below.refl _ _)
  case pos =>
  have HV := Go.Lib.hid (show undoR ts = (negI ts, 0) by unfold undoR; rw [if_pos (by simp [hr, h10])])
  have HR := Go.Lib.hid hr
  rw [hr] at HP
  clear hr
  obtain ⟨i0, hi, hz0, hz1, hz2⟩ := info_parts infoI64
  have HG := Go.Lib.hid (show Gat w [] (.slice none 0 0) w from Gat.nil (Below.refl _ _))
  go_enter Try.func23, Try.ntmps23
  go_wp2_with fail
  refine (HP.out).mono ?_
  rintro _ _ ⟨rfl, rfl⟩
  go_wp2_with fail
  go_loopw [4, 17] (fun o i wr => ∃ k : Nat, k ≤ ts.length ∧ i = .int .i64 k ∧ Gat w (negI (ts.take k)) o wr) (fun _ i _ => ts.length - (intOf i).toNat)
  case atStart => exact ⟨0, Nat.zero_le _, rfl, HG.out⟩
  case round =>
    obtain ⟨k, hk, rfl, hgat⟩ := hrel
    clear HG
    have HGT := Go.Lib.hid hgat
    by_cases hlt : k < ts.length
    case neg =>
      obtain rfl : k = ts.length := by omega
      rw [List.take_length] at hgat
      have HF := Go.Lib.hid (hgat.done HV.out)
      clear hgat
      go_wp2_with fail
      go_ret2
      exact HF.out
    case pos =>
      obtain ⟨ob, oo, rfl, -, hc⟩ := (HL.out.below hgat.b).at_ hlt
      have hcell := hc k hlt
      have hrow := hgat.row
      have hbs := hgat.b.size
      have hxk := rngB_at HR.out hlt
      have HSN := Go.Lib.hid (negI_snoc2 hlt)
      have hnl2 : (negI (ts.take k)).length ≤ 10 := by rw [negI_len, List.length_take]; omega
      clear hgat hc
      generalize negI (ts.take k) = ms at *
      generalize ts.getD k 0 = q at *
      obtain ⟨x0, x1⟩ := hxk
      go_wp2_with (at_builtin; refine wpList_append_own_at _ rfl _ _ 24 rfl w.heap.size 2 i0 (.int .i64 0) 1 8 Try.underlying24 hi hz0 hz1 hz2 rfl (by decide) _ _ _ rfl (hrow.alloc _) ⟨wr.heap.size, 0, none⟩ 1 1 [.int .i64 (-q)] rfl rfl (cell_one_new _ _ _) (by simp [Value.oneCell']) (by unfold maxLen; omega) (by omega) (by simp; omega) ?_; intro v' w3 hown' hgrow hnil hat; clear hnil hat; have HGN := Go.Lib.hid (HGT.out.step (z := -q) hown' hgrow); clear hown' hgrow hrow)
      go_roundw
      case rel => exact ⟨k + 1, by omega, by go_num, by rw [HSN.out]; exact HGN.out⟩
      case measure => simp [intOf]; omega
end Go.Proofs.Ytpcaakmcjdginaa
