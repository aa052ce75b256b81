/- The model: AfterPlan, WorstPlace, IsTrue, DishAfter, UndoPlan. -/
import Derived.Test.YtpcaakmcjdginaaTruS2
namespace Go.Proofs.Ytpcaakmcjdginaa
open Go.RowKit
set_option linter.unusedSimpArgs false
set_option linter.unusedVariables false

set_option maxRecDepth 100000 in
set_option maxHeartbeats 4000000 in
theorem specAfterPlan (A : Option Addr) (c : Nat) (zs : List Int) (B : Option Addr) (b : Nat) (s : List Int) (C : Option Addr) (e : Nat) (ts : List Int) (w : World) (L : Ls zs A c w) (L2 : Ls s B b w) (L3 : Ls ts C e w) (n : Nat) (hnn : zs.length = n) :
    Calls Try.prog 21 #[.slice A n c, .slice B s.length b, .slice C ts.length e] w (GivesLN (afterR zs s ts) w) := by
  have HC := Go.Lib.hid (specCode8 A c zs B b s 0 w L L2)
  have HP := Go.Lib.hid (specPlanOk C e ts w L3)
  rw [hnn] at HC
  have hnz : n ≤ 1048576 := hnn ▸ L.few
  have htz : ts.length ≤ 1048576 := L3.few
  by_cases h1 : (devB zs && effB s) = true
  case neg =>
    rw [show code8 zs s 0 = 1 by unfold code8; rw [if_neg h1]] at HC
    have HV := Go.Lib.hid (show afterR zs s ts = ([], 1) by unfold afterR; rw [if_neg h1])
    clear h1 hnn L L2 L3
    go_enter Try.func21, Try.ntmps21
    go_wp2_with fail
    refine (HC.out).mono ?_
    rintro _ _ ⟨rfl, rfl⟩
    go_wp2_with fail
    go_ret2
    exact GivesLN.nil HV.out (Below.refl _ _)
  case pos =>
  rw [show code8 zs s 0 = 0 by unfold code8; rw [if_pos h1]; rfl] at HC
  by_cases hq : ts.length = n
  case neg =>
    have hqb : ((ts.length : Int) != (n : Int)) = true := by simp; omega
    have HV := Go.Lib.hid (show afterR zs s ts = ([], 2) by unfold afterR; rw [if_pos h1, if_neg (by simp [hnn, hq])])
    clear h1 hnn hq L L2 L3
    go_enter Try.func21, Try.ntmps21
    go_wp2_with fail
    refine (HC.out).mono ?_
    rintro _ _ ⟨rfl, rfl⟩
    go_wp2_with fail
    go_ret2
    exact GivesLN.nil HV.out (Below.refl _ _)
  case pos =>
  have hqb : ((ts.length : Int) != (n : Int)) = false := by simp [hq]
  by_cases hr : rngB (-100) 100 ts = true
  case neg =>
    have HV0 := Go.Lib.hid (show afterR zs s ts = ([], 2) by unfold afterR; rw [if_pos h1, if_neg (by simp [hr])])
    rw [Bool.not_eq_true] at hr
    rw [hr] at HP
    have HV := Go.Lib.hid (show afterR zs s ts = ([], 2) by exact HV0.out)
    clear h1 hnn hq hr L L2 L3
    go_enter Try.func21, Try.ntmps21
    go_wp2_with fail
    refine (HC.out).mono ?_
    rintro _ _ ⟨rfl, rfl⟩
    go_wp2_with fail
    refine (HP.out).mono ?_
    rintro _ _ ⟨rfl, rfl⟩
    go_wp2_with fail
    go_ret2
    exact GivesLN.nil HV.out (Below.refl _ _)
  case pos =>
  have HR := Go.Lib.hid (show afterR zs s ts = if devB (afterI zs s ts) then (afterI zs s ts, 0) else ([], 3) by unfold afterR; rw [if_pos h1, if_pos (by simp [hr, hnn, hq])])
  rw [hr] at HP
  rw [Bool.and_eq_true] at h1
  have hD := devB_iff.1 h1.1
  have HAF := Go.Lib.hid (specAfter A c zs B b s C e ts w L L2 L3 n hnn (hnn ▸ hD.lo) (hnn ▸ hD.hi) (effB_iff.1 h1.2) hr hq 500 hD.bd (by omega) (by omega))
  have hal : (afterI zs s ts).length = n := (afterI_len zs s ts).trans hnn
  have hn10 : n ≤ 10 := hnn ▸ hD.hi
  clear L L2 L3 h1 hq hr hnn hD
  generalize afterI zs s ts = us at *
  have HAL := Go.Lib.hid hal
  clear hal
  have HTE := Go.Lib.hid (fun (D : Option Addr) (d : Nat) w0 L0 => specDev D d us w0 L0)
  rw [HAL.out] at HTE
  by_cases hu : devB us = true
  case neg =>
    rw [if_neg hu] at HR
    rw [Bool.not_eq_true] at hu
    rw [hu] at HTE
    clear hu
    go_enter Try.func21, Try.ntmps21
    go_wp2_with fail
    refine (HC.out).mono ?_
    rintro _ _ ⟨rfl, rfl⟩
    go_wp2_with fail
    refine (HP.out).mono ?_
    rintro _ _ ⟨rfl, rfl⟩
    go_wp2_with fail
    refine HAF.out.mono ?_
    rintro _ w2 ⟨g, cap, rfl, ht⟩
    have HT2 := Go.Lib.hid (HTE.out _ _ w2 ⟨by rw [HAL.out]; exact ht.ow.rd.here, by rw [HAL.out]; exact ht.ow.le, by rw [HAL.out]; omega⟩)
    have HB := Go.Lib.hid ht.b
    clear ht
    go_wp2_with fail
    refine (HT2.out).mono ?_
    rintro _ _ ⟨rfl, rfl⟩
    go_wp2_with fail
    go_ret2
    exact GivesLN.nil HR.out HB.out
  case pos =>
    rw [if_pos hu] at HR
    rw [hu] at HTE
    clear hu
    go_enter Try.func21, Try.ntmps21
    go_wp2_with fail
    refine (HC.out).mono ?_
    rintro _ _ ⟨rfl, rfl⟩
    go_wp2_with fail
    refine (HP.out).mono ?_
    rintro _ _ ⟨rfl, rfl⟩
    go_wp2_with fail
    refine HAF.out.mono ?_
    rintro _ w2 ⟨g, cap, rfl, ht⟩
    have HT2 := Go.Lib.hid (HTE.out _ _ w2 ⟨by rw [HAL.out]; exact ht.ow.rd.here, by rw [HAL.out]; exact ht.ow.le, by rw [HAL.out]; omega⟩)
    have HO := Go.Lib.hid ht
    clear ht
    go_wp2_with fail
    refine (HT2.out).mono ?_
    rintro _ _ ⟨rfl, rfl⟩
    go_wp2_with fail
    go_ret2
    exact GivesLN.own HR.out HAL.out HO.out.ow HO.out.b
theorem lit_ls (w : World) (x : Int) : Ls [x] (some ⟨w.heap.size, 0, none⟩) 1 (w.alloc (.cells #[.int .i64 x] 2)) := by
  have h : (w.alloc (.cells #[.int .i64 x] 2)).ownsRow w.heap.size 2 1 (.slice (some ⟨w.heap.size, 0, none⟩) 1 1) 1 (ints [x]) := World.ownsRow_lit w #[.int .i64 x] 1 (Nat.le_refl _) (by unfold maxLen; omega) rfl
  obtain ⟨A, cap, e, ho⟩ := row_ow h
  cases e
  exact ⟨ho.rd.here, Nat.le_refl _, by simp⟩
theorem eff_one : effB [1] = true := by decide
set_option maxRecDepth 100000 in
set_option maxHeartbeats 4000000 in
theorem specIsTrue (A : Option Addr) (c : Nat) (zs : List Int) (t : Int) (w : World) (L : Ls zs A c w) :
    Calls Try.prog 47 #[.slice A zs.length c, .int .i64 t] w (IsV w (.tuple #[.bool (trueR zs t).1, .int .i64 (trueR zs t).2])) := by
  have HL := Go.Lib.hid L
  have HB := Go.Lib.hid (show Below w.heap.size w (w.alloc (.cells #[.int .i64 1] 2)) from (Below.refl _ _).alloc (Nat.le_refl _) _)
  have HC := Go.Lib.hid (specCode8 A c zs (some ⟨w.heap.size, 0, none⟩) 1 [1] t _ (L.below HB.out) (lit_ls w 1))
  clear L
  by_cases h1 : devB zs = true
  case neg =>
    have HV := Go.Lib.hid (show trueR zs t = (false, 1) by unfold trueR; rw [if_neg h1])
    rw [show code8 zs [1] t = 1 by unfold code8; rw [if_neg (by simp [h1])]] at HC
    clear h1
    go_enter Try.func47, Try.ntmps47
    go_wp2_with fail
    refine (HC.out).mono ?_
    rintro _ _ ⟨rfl, rfl⟩
    go_wp2_with fail
    go_ret2
    exact ⟨by rw [HV.out]; rfl, HB.out⟩
  case pos =>
  by_cases h2 : (decide (0 ≤ t) && decide (t ≤ 500)) = true
  case neg =>
    have HV := Go.Lib.hid (show trueR zs t = (false, 2) by unfold trueR; rw [if_pos h1, if_neg h2])
    rw [show code8 zs [1] t = 2 by unfold code8; rw [h1, eff_one, Bool.and_self, if_pos rfl, if_neg h2]] at HC
    clear h1 h2
    go_enter Try.func47, Try.ntmps47
    go_wp2_with fail
    refine (HC.out).mono ?_
    rintro _ _ ⟨rfl, rfl⟩
    go_wp2_with fail
    go_ret2
    exact ⟨by rw [HV.out]; rfl, HB.out⟩
  case pos =>
    have HV := Go.Lib.hid (show trueR zs t = (trueB zs t, 0) by unfold trueR; rw [if_pos h1, if_pos h2])
    rw [show code8 zs [1] t = 0 by unfold code8; rw [h1, eff_one, Bool.and_self, if_pos rfl, if_pos h2]] at HC
    have HT := Go.Lib.hid (specTrueB A c zs t _ (HL.out.below HB.out) (fun k => by have := (devB_iff.1 h1).bd k; omega))
    clear h1 h2
    generalize trueB zs t = tb at *
    go_enter Try.func47, Try.ntmps47
    go_wp2_with fail
    refine (HC.out).mono ?_
    rintro _ _ ⟨rfl, rfl⟩
    go_wp2_with fail
    refine (HT.out).mono ?_
    rintro _ _ ⟨rfl, rfl⟩
    go_wp2_with fail
    go_ret2
    exact ⟨by rw [HV.out]; rfl, HB.out⟩
set_option maxRecDepth 100000 in
set_option maxHeartbeats 4000000 in
theorem dishSum (A : Option Addr) (c : Nat) (zs : List Int) (w : World) (L : Ls zs A c w) (hr : rngB (-3000) 3000 zs = true) :
    Calls Try.prog 70 #[.slice A zs.length c] w (Just (.int .i64 zs.sum) w) := by
  have HL := Go.Lib.hid L
  have HR := Go.Lib.hid hr
  have hn := L.few
  clear L hr
  go_enter Try.func70, Try.ntmps70
  go_wp2_with fail
  go_loopw [3, 4] (fun t i wr => ∃ k : Nat, k ≤ zs.length ∧ i = .int .i64 k ∧ wr = w ∧ t = .int .i64 (zs.take k).sum) (fun _ i _ => zs.length - (intOf i).toNat)
  case atStart => exact ⟨0, Nat.zero_le _, rfl, rfl, by simp⟩
  case round =>
    obtain ⟨k, hk, rfl, rfl, rfl⟩ := hrel
    by_cases hlt : k < zs.length
    case pos =>
      obtain ⟨b, o, rfl, -, hc⟩ := HL.out.at_ hlt
      have hcell := hc k hlt
      have HS := Go.Lib.hid (sum_take_succ hlt)
      have hb := sum_take_bd HR.out k hk
      have hx := rngB_at HR.out hlt
      clear hc
      generalize zs.getD k 0 = x at *
      generalize (zs.take k).sum = t at *
      obtain ⟨hb0, hb1⟩ := hb
      obtain ⟨hx0, hx1⟩ := hx
      go_wp2_with fail
      go_roundw
      case rel => exact ⟨k + 1, by omega, by go_num, by first | rfl | trivial, by rw [HS.out]⟩
      case measure => simp [intOf]; omega
    case neg =>
      obtain rfl : k = zs.length := by omega
      rw [List.take_length]
      go_wp2_with fail
      go_ret
      exact ⟨rfl, rfl⟩
set_option maxRecDepth 100000 in
set_option maxHeartbeats 4000000 in
theorem specDish (A : Option Addr) (c : Nat) (zs : List Int) (w : World) (L : Ls zs A c w) :
    Calls Try.prog 38 #[.slice A zs.length c] w (Gives2 (dishR zs) w) := by
  have HT := Go.Lib.hid (specDev A c zs w L)
  have HL := Go.Lib.hid L
  clear L
  by_cases ht : devB zs = true
  case neg =>
    have HV := Go.Lib.hid (show dishR zs = (0, 1) by unfold dishR; rw [if_neg ht])
    rw [Bool.not_eq_true] at ht
    rw [ht] at HT
    clear ht
    go_enter Try.func38, Try.ntmps38
    go_wp2_with fail
    refine (HT.out).mono ?_
    rintro _ _ ⟨rfl, rfl⟩
    go_wp2_with fail
    go_ret2
    exact Gives2.of HV.out (Below.refl _ _)
  case pos =>
    have HV := Go.Lib.hid (show dishR zs = (meanI zs, 0) by unfold dishR; rw [if_pos ht])
    have hD := devB_iff.1 ht
    have h4 := hD.lo
    have h10 := hD.hi
    have hs := sum_bd' hD.rng
    have HS := Go.Lib.hid (dishSum A c zs w HL.out (rngB_iff.2 fun z hz => by have := rngB_iff.1 hD.rng z hz; omega))
    have HN := Go.Lib.hid (specNearest zs.sum zs.length w (by omega) (by omega) (by omega) (by omega))
    have e : (2 * zs.sum + (zs.length : Int)) / (2 * zs.length) = meanI zs := rfl
    rw [e] at HN
    rw [ht] at HT
    clear ht hs e hD
    generalize zs.sum = t at *
    generalize meanI zs = m at *
    go_enter Try.func38, Try.ntmps38
    go_wp2_with fail
    refine (HT.out).mono ?_
    rintro _ _ ⟨rfl, rfl⟩
    go_wp2_with fail
    refine (HS.out).mono ?_
    rintro _ _ ⟨rfl, rfl⟩
    go_wp2_with fail
    refine (HN.out).mono ?_
    rintro _ _ ⟨rfl, rfl⟩
    go_wp2_with fail
    go_ret2
    exact Gives2.of HV.out (Below.refl _ _)
set_option maxRecDepth 100000 in
set_option maxHeartbeats 4000000 in
theorem specWorst (A : Option Addr) (c : Nat) (zs : List Int) (w : World) (L : Ls zs A c w) :
    Calls Try.prog 36 #[.slice A zs.length c] w (Gives2 (worstR zs) w) := by
  have HT := Go.Lib.hid (specDev A c zs w L)
  have HL := Go.Lib.hid L
  clear L
  by_cases ht : devB zs = true
  case neg =>
    have HV := Go.Lib.hid (show worstR zs = (0, 1) by unfold worstR; rw [if_neg ht])
    rw [Bool.not_eq_true] at ht
    rw [ht] at HT
    clear ht
    go_enter Try.func36, Try.ntmps36
    go_wp2_with fail
    refine (HT.out).mono ?_
    rintro _ _ ⟨rfl, rfl⟩
    go_wp2_with fail
    go_ret2
    exact Gives2.of HV.out (Below.refl _ _)
  case pos =>
  have HV := Go.Lib.hid (show worstR zs = (((worstTo zs zs.length : Nat) : Int), 0) by unfold worstR; rw [if_pos ht])
  have hD := devB_iff.1 ht
  have h10 := hD.hi
  have h4 := hD.lo
  have HD := Go.Lib.hid hD.bd
  have HWL := Go.Lib.hid (fun k hk => worstTo_lt (zs := zs) (by omega) k hk)
  have HA := Go.Lib.hid (fun x w0 h0 h1 => specAbs x w0 h0 h1)
  rw [ht] at HT
  clear ht hD
  go_enter Try.func36, Try.ntmps36
  go_wp2_with fail
  refine (HT.out).mono ?_
  rintro _ _ ⟨rfl, rfl⟩
  go_wp2_with fail
  go_loopw [4, 5] (fun b i wr => ∃ k : Nat, k ≤ zs.length ∧ i = .int .i64 k ∧ b = .int .i64 (worstTo zs k) ∧ Eqw w wr) (fun _ i _ => zs.length - (intOf i).toNat)
  case atStart => exact ⟨0, Nat.zero_le _, rfl, rfl, Eqw.refl _⟩
  case round =>
    obtain ⟨k, hk, rfl, rfl, hw⟩ := hrel
    have HW := Go.Lib.hid hw
    by_cases hlt : k < zs.length
    case neg =>
      obtain rfl : k = zs.length := by omega
      clear hw
      go_wp2_with fail
      go_ret2
      exact Gives2.of HV.out HW.out.below
    case pos =>
      have hbl := HWL.out k (by omega)
      obtain ⟨ob, oo, rfl, -, hc⟩ := (HL.out.eqw hw).at_ hlt
      have hcell := hc k hlt
      have hcell2 := hc (worstTo zs k) hbl
      have hx := HD.out k
      have hy := HD.out (worstTo zs k)
      have HN := Go.Lib.hid (show worstTo zs (k + 1) = if absAt zs (worstTo zs k) < absAt zs k then k else worstTo zs k from rfl)
      unfold absAt at HN
      have hkl : (k : Int) < zs.length := by omega
      clear hc hw
      generalize worstTo zs k = m at *
      have hml : (m : Int) < zs.length := by omega
      have hm0 : (0 : Int) ≤ m := by omega
      generalize zs.getD k 0 = x at *
      generalize zs.getD m 0 = y at *
      have x0 : -1000000000000000000 ≤ x := by omega
      have x1 : x ≤ 1000000000000000000 := by omega
      have y0 : -1000000000000000000 ≤ y := by omega
      have y1 : y ≤ 1000000000000000000 := by omega
      clear hx hy
      by_cases hgt : max y (-y) < max x (-x)
      case pos =>
        rw [if_pos hgt] at HN
        go_upto_region 7 with fail
        go_region_held3 (fun w' => w'.cell? ⟨ob, oo + k, none⟩ = some (.int .i64 x) ∧ w'.cell? ⟨ob, oo + m, none⟩ = some (.int .i64 y) ∧ Eqw w w') (first | exact ⟨by assumption, by assumption, HW.out.drewN 1⟩ | assumption) ((go_at_call 67; refine (HA.out _ _ (by assumption) (by assumption)).mono ?_; rintro _ _ ⟨rfl, rfl⟩))
        all_goals (go_wp2_with fail; go_roundw; (case rel => exact ⟨k + 1, by omega, by go_num, by rw [HN.out], HW.out.drewN 1⟩); (case measure => simp [intOf]; omega))
      case neg =>
        rw [if_neg hgt] at HN
        go_upto_region 7 with fail
        go_region_held3 (fun w' => w'.cell? ⟨ob, oo + k, none⟩ = some (.int .i64 x) ∧ w'.cell? ⟨ob, oo + m, none⟩ = some (.int .i64 y) ∧ Eqw w w') (first | exact ⟨by assumption, by assumption, HW.out.drewN 1⟩ | assumption) ((go_at_call 67; refine (HA.out _ _ (by assumption) (by assumption)).mono ?_; rintro _ _ ⟨rfl, rfl⟩))
        all_goals (go_wp2_with fail; go_roundw; (case rel => exact ⟨k + 1, by omega, by go_num, by rw [HN.out], HW.out.drewN 1⟩); (case measure => simp [intOf]; omega))
theorem negI_snoc {ts : List Int} {k : Nat} (hk : k < ts.length) : negI (ts.take (k + 1)) = negI (ts.take k) ++ [-(ts.getD k 0)] := by
  rw [take_succ hk]
  simp [negI]
set_option maxRecDepth 100000 in
set_option maxHeartbeats 4000000 in
theorem specUndo (A : Option Addr) (c : Nat) (ts : List Int) (w : World) (L : Ls ts A c w) :
    Calls Try.prog 24 #[.slice A ts.length c] w (GivesLN (undoR ts) w) := by
  have HP := Go.Lib.hid (specPlanOk A c ts w L)
  have HL := Go.Lib.hid L
  have hfew := L.few
  clear L
  by_cases h10 : ts.length ≤ 10
  case neg =>
    have HV := Go.Lib.hid (show undoR ts = ([], 2) by unfold undoR; rw [if_neg (by simp [h10])])
    go_enter Try.func24, Try.ntmps24
    go_wp2_with fail
    go_ret2
    exact GivesLN.nil HV.out (Below.refl _ _)
  case pos =>
  by_cases hr : rngB (-100) 100 ts = true
  case neg =>
    have HV := Go.Lib.hid (show undoR ts = ([], 2) by unfold undoR; rw [if_neg (by simp [hr])])
    rw [Bool.not_eq_true] at hr
    rw [hr] at HP
    clear hr
    go_enter Try.func24, Try.ntmps24
    go_wp2_with fail
    refine (HP.out).mono ?_
    rintro _ _ ⟨rfl, rfl⟩
    go_wp2_with fail
    go_ret2
    exact GivesLN.nil HV.out (Below.refl _ _)
  case pos =>
  have HV := Go.Lib.hid (show undoR ts = (negI ts, 0) by unfold undoR; rw [if_pos (by simp [hr, h10])])
  have HR := Go.Lib.hid hr
  rw [hr] at HP
  clear hr
  obtain ⟨i0, hi, hz0, hz1, hz2⟩ := info_parts infoI64
  have HG := Go.Lib.hid (show Gat w [] (.slice (some ⟨w.heap.size, 0, none⟩) 0 0) (w.alloc (.cells #[] 2)) from Gat.start (Below.refl _ _))
  go_enter Try.func24, Try.ntmps24
  go_wp2_with fail
  refine (HP.out).mono ?_
  rintro _ _ ⟨rfl, rfl⟩
  go_wp2_with fail
  go_loopw [4, 5] (fun o i wr => ∃ k : Nat, k ≤ ts.length ∧ i = .int .i64 k ∧ Gat w (negI (ts.take k)) o wr) (fun _ i _ => ts.length - (intOf i).toNat)
  case atStart => exact ⟨0, Nat.zero_le _, rfl, HG.out⟩
  case round =>
    obtain ⟨k, hk, rfl, hgat⟩ := hrel
    clear HG
    have HGT := Go.Lib.hid hgat
    by_cases hlt : k < ts.length
    case neg =>
      obtain rfl : k = ts.length := by omega
      rw [List.take_length] at hgat
      have HF := Go.Lib.hid (hgat.done HV.out)
      clear hgat
      go_wp2_with fail
      go_ret2
      exact HF.out
    case pos =>
      obtain ⟨ob, oo, rfl, -, hc⟩ := (HL.out.below hgat.b).at_ hlt
      have hcell := hc k hlt
      have hrow := hgat.row
      have hbs := hgat.b.size
      have hxk := rngB_at HR.out hlt
      have HSN := Go.Lib.hid (negI_snoc hlt)
      have hnl2 : (negI (ts.take k)).length ≤ 10 := by rw [negI_len, List.length_take]; omega
      clear hgat hc
      generalize negI (ts.take k) = ms at *
      generalize ts.getD k 0 = q at *
      obtain ⟨x0, x1⟩ := hxk
      go_wp2_with (at_builtin; refine wpList_append_own_at _ rfl _ _ 24 rfl w.heap.size 2 i0 (.int .i64 0) 1 8 Try.underlying24 hi hz0 hz1 hz2 rfl (by decide) _ _ _ rfl (hrow.alloc _) ⟨wr.heap.size, 0, none⟩ 1 1 [.int .i64 (-q)] rfl rfl (cell_one_new _ _ _) (by simp [Value.oneCell']) (by unfold maxLen; omega) (by omega) (by simp; omega) ?_; intro v' w3 hown' hgrow hnil hat; clear hnil hat; have HGN := Go.Lib.hid (HGT.out.step (z := -q) hown' hgrow); clear hown' hgrow hrow)
      go_roundw
      case rel => exact ⟨k + 1, by omega, by go_num, by rw [HSN.out]; exact HGN.out⟩
      case measure => simp [intOf]; omega
end Go.Proofs.Ytpcaakmcjdginaa
