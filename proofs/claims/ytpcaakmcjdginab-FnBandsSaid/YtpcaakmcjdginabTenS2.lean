/- The model: a stiffness, means, spreads, bands. -/
import Derived.Test.YtpcaakmcjdginabTenS1
import Derived.Test.YtpcaakmcjdginabPlainTen2
import Derived.Lib.MinMax
namespace Go.Proofs.Ytpcaakmcjdginab
open Go.RowKit
set_option linter.unusedSimpArgs false
set_option linter.unusedVariables false

set_option maxRecDepth 100000 in
set_option maxHeartbeats 4000000 in
theorem specSumOf (A : Option Addr) (c : Nat) (zs : List Int) (w : World) (L : Ls zs A c w) :
    Calls Try.prog 15 #[.slice A zs.length c] w (Gives2 (sumR zs) w) := by
  have HT := Go.Lib.hid (fun w0 L0 => specTen A c zs w0 L0)
  have HL := Go.Lib.hid L
  have hn := L.few
  clear L
  by_cases ht : tenB zs = true
  case neg =>
    have HV := Go.Lib.hid (show sumR zs = (0, 1) by unfold sumR; rw [if_neg ht])
    rw [Bool.not_eq_true] at ht
    rw [ht] at HT
    go_enter Try.func15, Try.ntmps15
    go_wp2_with fail
    refine (HT.out _ HL.out).mono ?_
    rintro _ _ ⟨rfl, rfl⟩
    go_wp2_with fail
    go_ret2
    exact Gives2.of HV.out (Below.refl _ _)
  case pos =>
  have HV := Go.Lib.hid (show sumR zs = (zs.sum, 0) by unfold sumR; rw [if_pos ht])
  have HTN := Go.Lib.hid (tenB_iff.1 ht)
  rw [ht] at HT
  clear ht
  have HS := Go.Lib.hid (specSum A c zs w HL.out (rngB_iff.2 fun z hz => by have := rngB_iff.1 HTN.out.rng z hz; omega))
  go_enter Try.func15, Try.ntmps15
  go_wp2_with fail
  refine (HT.out _ HL.out).mono ?_
  rintro _ _ ⟨rfl, rfl⟩
  go_wp2_with fail
  refine (HS.out).mono ?_
  rintro _ _ ⟨rfl, rfl⟩
  go_wp2_with fail
  go_ret2
  exact Gives2.of HV.out (Below.refl _ _)
set_option maxRecDepth 100000 in
set_option maxHeartbeats 4000000 in
theorem specMeanI (A : Option Addr) (c : Nat) (zs : List Int) (w : World) (L : Ls zs A c w) (ht : Ten zs) :
    Calls Try.prog 61 #[.slice A zs.length c] w (Just (.int .i64 (meanI zs)) w) := by
  have hs := ht.sum
  have h4 := ht.lo
  have h48 := ht.hi
  have HS := Go.Lib.hid (specSum A c zs w L (rngB_iff.2 fun z hz => by have := rngB_iff.1 ht.rng z hz; omega))
  have HN := Go.Lib.hid (specNearest zs.sum zs.length w (by omega) (by omega) (by omega) (by omega))
  have e : (2 * zs.sum + (zs.length : Int)) / (2 * zs.length) = meanI zs := rfl
  rw [e] at HN
  clear ht hs L e
  generalize zs.sum = t at *
  generalize meanI zs = m at *
  go_enter Try.func61, Try.ntmps61
  go_wp2_with fail
  refine (HS.out).mono ?_
  rintro _ _ ⟨rfl, rfl⟩
  go_wp2_with fail
  refine (HN.out).mono ?_
  rintro _ _ ⟨rfl, rfl⟩
  go_wp2_with fail
  go_ret
  exact ⟨rfl, rfl⟩
set_option maxRecDepth 100000 in
set_option maxHeartbeats 4000000 in
theorem specMean (A : Option Addr) (c : Nat) (zs : List Int) (w : World) (L : Ls zs A c w) :
    Calls Try.prog 26 #[.slice A zs.length c] w (Gives2 (meanR zs) w) := by
  have HT := Go.Lib.hid (fun w0 L0 => specTen A c zs w0 L0)
  have HL := Go.Lib.hid L
  have hn := L.few
  clear L
  by_cases ht : tenB zs = true
  case neg =>
    have HV := Go.Lib.hid (show meanR zs = (0, 1) by unfold meanR; rw [if_neg ht])
    rw [Bool.not_eq_true] at ht
    rw [ht] at HT
    go_enter Try.func26, Try.ntmps26
    go_wp2_with fail
    refine (HT.out _ HL.out).mono ?_
    rintro _ _ ⟨rfl, rfl⟩
    go_wp2_with fail
    go_ret2
    exact Gives2.of HV.out (Below.refl _ _)
  case pos =>
  have HV := Go.Lib.hid (show meanR zs = (meanI zs, 0) by unfold meanR; rw [if_pos ht])
  have HTN := Go.Lib.hid (tenB_iff.1 ht)
  rw [ht] at HT
  clear ht
  have HS := Go.Lib.hid (specMeanI A c zs w HL.out HTN.out)
  go_enter Try.func26, Try.ntmps26
  go_wp2_with fail
  refine (HT.out _ HL.out).mono ?_
  rintro _ _ ⟨rfl, rfl⟩
  go_wp2_with fail
  refine (HS.out).mono ?_
  rintro _ _ ⟨rfl, rfl⟩
  go_wp2_with fail
  go_ret2
  exact Gives2.of HV.out (Below.refl _ _)
set_option maxRecDepth 100000 in
set_option maxHeartbeats 4000000 in
theorem specSpread (A : Option Addr) (c : Nat) (zs : List Int) (w : World) (L : Ls zs A c w) :
    Calls Try.prog 34 #[.slice A zs.length c] w (Gives2 (spreadR zs) w) := by
  have HT := Go.Lib.hid (fun w0 L0 => specTen A c zs w0 L0)
  have HL := Go.Lib.hid L
  have hn := L.few
  clear L
  by_cases ht : tenB zs = true
  case neg =>
    have HV := Go.Lib.hid (show spreadR zs = (0, 1) by unfold spreadR; rw [if_neg ht])
    rw [Bool.not_eq_true] at ht
    rw [ht] at HT
    go_enter Try.func34, Try.ntmps34
    go_wp2_with fail
    refine (HT.out _ HL.out).mono ?_
    rintro _ _ ⟨rfl, rfl⟩
    go_wp2_with fail
    go_ret2
    exact Gives2.of HV.out (Below.refl _ _)
  case pos =>
  have HV := Go.Lib.hid (show spreadR zs = (maxTo zs zs.length - minTo zs zs.length, 0) by unfold spreadR; rw [if_pos ht])
  have HTN := Go.Lib.hid (tenB_iff.1 ht)
  rw [ht] at HT
  clear ht
  have h0 : 0 < zs.length := by have := HTN.out.lo; omega
  have h48 := HTN.out.hi
  have HX := Go.Lib.hid (fun k hk => maxTo_bd HTN.out.rng h0 k hk)
  have HM := Go.Lib.hid (fun k hk => minTo_bd HTN.out.rng h0 k hk)
  have HTW := Go.Lib.hid (HT.out w HL.out)
  obtain ⟨b, o, rfl, -, hcs⟩ := HL.out.at_ h0
  have hcell : w.cell? ⟨b, o, none⟩ = some (.int .i64 (zs.getD 0 0)) := hcs 0 h0
  have hl0 : (0 : Int) < zs.length := by omega
  have hne : ¬ zs = [] := by rintro rfl; simp at h0
  have HX0 := Go.Lib.hid (maxTo_zero zs)
  have HM0 := Go.Lib.hid (minTo_zero zs)
  clear hcs HT
  generalize hx : zs.getD 0 0 = x at *
  go_enter Try.func34, Try.ntmps34
  go_wp2_with fail
  refine (HTW.out).mono ?_
  rintro _ _ ⟨rfl, rfl⟩
  go_wp2_with fail
  go_quiet (fail)
  go_wp2_with fail
  go_loopw [4, 5, 6] (fun l h i wr => ∃ k : Nat, k ≤ zs.length ∧ i = .int .i64 k ∧ l = .int .i64 (minTo zs k) ∧ h = .int .i64 (maxTo zs k) ∧ Eqw w wr) (fun _ _ i _ => zs.length - (intOf i).toNat)
  case atStart => exact ⟨0, Nat.zero_le _, rfl, by rw [HM0.out], by rw [HX0.out], ⟨_, rfl⟩⟩
  case round =>
    obtain ⟨k, hk, rfl, rfl, rfl, hw⟩ := hrel
    have HW := Go.Lib.hid hw
    by_cases hlt : k < zs.length
    case pos =>
      obtain ⟨b', o', e, -, hcs⟩ := (HL.out.eqw hw).at_ hlt
      cases e
      have hcell2 := hcs k hlt
      have HSX := Go.Lib.hid (maxTo_succ hlt)
      have HSM := Go.Lib.hid (minTo_succ hlt)
      clear hcs hw hcell
      generalize zs.getD k 0 = y at *
      generalize minTo zs k = m at *
      generalize maxTo zs k = q at *
      go_wp2_with fail
      go_roundw
      case rel => exact ⟨k + 1, by omega, by go_num, by rw [HSM.out], by rw [HSX.out], HW.out⟩
      case measure => simp [intOf]; omega
    case neg =>
      obtain rfl : k = zs.length := by omega
      obtain ⟨x0, x1⟩ := HX.out zs.length (Nat.le_refl _)
      obtain ⟨m0, m1⟩ := HM.out zs.length (Nat.le_refl _)
      clear hw hcell
      generalize maxTo zs zs.length = x at *
      generalize minTo zs zs.length = m at *
      go_wp2_with fail
      go_ret2
      exact Gives2.of HV.out HW.out.below
set_option maxRecDepth 100000 in
set_option maxHeartbeats 4000000 in
theorem specSlack (A : Option Addr) (c : Nat) (zs : List Int) (l : Int) (w : World) (L : Ls zs A c w) :
    Calls Try.prog 32 #[.slice A zs.length c, .int .i64 l] w (GivesLN (slackR zs l) w) := by
  have HTE := Go.Lib.hid (fun w0 L0 => specTen A c zs w0 L0)
  have HIN := Go.Lib.hid (inN2 l 0 3000 w)
  have HL := Go.Lib.hid L
  have hn := L.few
  clear L
  by_cases ht : tenB zs = true
  case neg =>
    have HV := Go.Lib.hid (show slackR zs l = ([], 1) by unfold slackR; rw [if_neg ht])
    rw [Bool.not_eq_true] at ht
    rw [ht] at HTE
    go_enter Try.func32, Try.ntmps32
    go_wp2_with fail
    refine (HTE.out _ HL.out).mono ?_
    rintro _ _ ⟨rfl, rfl⟩
    go_wp2_with fail
    go_ret2
    exact GivesLN.nil HV.out (Below.refl _ _)
  case pos =>
  have HT := Go.Lib.hid (tenB_iff.1 ht)
  rw [ht] at HTE
  by_cases hin : 0 ≤ l ∧ l ≤ 3000
  case neg =>
    have HV := Go.Lib.hid (show slackR zs l = ([], 2) by unfold slackR; rw [if_pos ht, if_neg (by simpa using hin)])
    have e : inB l 0 3000 = false := by rw [← Bool.not_eq_true, inB_iff]; exact hin
    rw [e] at HIN
    clear e hin ht
    go_enter Try.func32, Try.ntmps32
    go_wp2_with fail
    refine (HTE.out _ HL.out).mono ?_
    rintro _ _ ⟨rfl, rfl⟩
    go_wp2_with fail
    refine HIN.out.mono ?_
    rintro _ _ ⟨rfl, rfl⟩
    go_wp2_with fail
    go_ret2
    exact GivesLN.nil HV.out (Below.refl _ _)
  case pos =>
  have HV := Go.Lib.hid (show slackR zs l = (idxI (fun t => decide (t < l)) zs zs.length, 0) by unfold slackR; rw [if_pos ht, if_pos (by simpa using hin)])
  rw [inB_iff.2 hin] at HIN
  obtain ⟨p0, p1⟩ := hin
  have hz48 := HT.out.hi
  clear ht
  go_enter Try.func32, Try.ntmps32
  go_wp2_with fail
  refine (HTE.out _ HL.out).mono ?_
  rintro _ _ ⟨rfl, rfl⟩
  go_wp2_with fail
  refine HIN.out.mono ?_
  rintro _ _ ⟨rfl, rfl⟩
  have HG := Go.Lib.hid (show Gat w [] (.slice (some ⟨w.heap.size, 0, none⟩) 0 0) (w.alloc (.cells #[] 2)) from Gat.start (Below.refl _ _))
  go_wp2_with fail
  obtain ⟨i0, hi, hz0, hz1, hz2⟩ := info_parts infoI64
  go_loopw [6, 7] (fun o i wr => ∃ k : Nat, k ≤ zs.length ∧ i = .int .i64 k ∧ Gat w (idxI (fun t => decide (t < l)) zs k) o wr) (fun _ i _ => zs.length - (intOf i).toNat)
  case atStart => exact ⟨0, Nat.zero_le _, rfl, HG.out⟩
  case round =>
    obtain ⟨k, hk, rfl, hgat⟩ := hrel
    clear HG
    have HGT := Go.Lib.hid hgat
    by_cases hlt : k < zs.length
    case neg =>
      obtain rfl : k = zs.length := by omega
      have HF := Go.Lib.hid (hgat.done HV.out)
      clear hgat
      go_wp2_with fail
      go_ret2
      exact HF.out
    case pos =>
      obtain ⟨b, o, rfl, -, hc⟩ := (HL.out.below hgat.b).at_ hlt
      have hcell := hc k hlt
      have hrow := hgat.row
      have hbs := hgat.b.size
      have hlen := idxI_len (fun t => decide (t < l)) zs k
      have hx := rngB_at HT.out.rng hlt
      have HSU := Go.Lib.hid (idxI_succ (fun t => decide (t < l)) zs k)
      clear hgat hc
      skip
      generalize idxI (fun t => decide (t < l)) zs k = ms at *
      generalize zs.getD k 0 = t at *
      obtain ⟨x0, x1⟩ := hx
      by_cases hp : t < l
      case pos =>
        have HN := Go.Lib.hid (fun v' w3 o' h1 h2 => HGT.out.step (z := k) (w3 := w3) (v' := v') (o := o') h1 h2)
        have HS2 := Go.Lib.hid (show idxI (fun t => decide (t < l)) zs (k + 1) = ms ++ [(k : Int)] by rw [HSU.out, if_pos (by simpa using hp)])
        clear HSU
        skip
        go_wp2_with (at_builtin; refine wpList_append_own_at _ rfl _ _ 24 rfl w.heap.size 2 i0 (.int .i64 0) 1 8 Try.underlying24 hi hz0 hz1 hz2 rfl (by decide) _ _ _ rfl (hrow.alloc _) ⟨wr.heap.size, 0, none⟩ 1 1 [.int .i64 k] rfl rfl (cell_one_new _ _ _) (by simp [Value.oneCell']) (by unfold maxLen; omega) (by omega) (by simp; omega) ?_; intro v' w3 hown' hgrow hnil hat; clear hnil hat)
        have HGN := Go.Lib.hid (HN.out _ _ _ hown' hgrow)
        clear hown' hgrow hrow
        go_wp2_with fail
        go_roundw
        case rel => exact ⟨k + 1, by omega, by go_num, by rw [HS2.out]; exact HGN.out⟩
        case measure => simp [intOf]; omega
      case neg =>
        have HS2 := Go.Lib.hid (show idxI (fun t => decide (t < l)) zs (k + 1) = ms by rw [HSU.out, if_neg (by simpa using hp), List.append_nil])
        clear HSU hrow
        skip
        go_wp2_with fail
        go_roundw
        case rel => exact ⟨k + 1, by omega, by go_num, by rw [HS2.out]; exact HGT.out⟩
        case measure => simp [intOf]; omega
set_option maxRecDepth 100000 in
set_option maxHeartbeats 4000000 in
theorem specOut (A : Option Addr) (c : Nat) (zs : List Int) (pc : Int) (w : World) (L : Ls zs A c w) :
    Calls Try.prog 29 #[.slice A zs.length c, .int .i64 pc] w (GivesLN (outR zs pc) w) := by
  have HTE := Go.Lib.hid (fun w0 L0 => specTen A c zs w0 L0)
  have HIN := Go.Lib.hid (inN2 pc 0 100 w)
  have HL := Go.Lib.hid L
  have hn := L.few
  clear L
  by_cases ht : tenB zs = true
  case neg =>
    have HV := Go.Lib.hid (show outR zs pc = ([], 1) by unfold outR; rw [if_neg ht])
    rw [Bool.not_eq_true] at ht
    rw [ht] at HTE
    go_enter Try.func29, Try.ntmps29
    go_wp2_with fail
    refine (HTE.out _ HL.out).mono ?_
    rintro _ _ ⟨rfl, rfl⟩
    go_wp2_with fail
    go_ret2
    exact GivesLN.nil HV.out (Below.refl _ _)
  case pos =>
  have HT := Go.Lib.hid (tenB_iff.1 ht)
  rw [ht] at HTE
  by_cases hin : 0 ≤ pc ∧ pc ≤ 100
  case neg =>
    have HV := Go.Lib.hid (show outR zs pc = ([], 2) by unfold outR; rw [if_pos ht, if_neg (by simpa using hin)])
    have e : inB pc 0 100 = false := by rw [← Bool.not_eq_true, inB_iff]; exact hin
    rw [e] at HIN
    clear e hin ht
    go_enter Try.func29, Try.ntmps29
    go_wp2_with fail
    refine (HTE.out _ HL.out).mono ?_
    rintro _ _ ⟨rfl, rfl⟩
    go_wp2_with fail
    refine HIN.out.mono ?_
    rintro _ _ ⟨rfl, rfl⟩
    go_wp2_with fail
    go_ret2
    exact GivesLN.nil HV.out (Below.refl _ _)
  case pos =>
  have HV := Go.Lib.hid (show outR zs pc = (idxI (farB (meanI zs) pc) zs zs.length, 0) by unfold outR; rw [if_pos ht, if_pos (by simpa using hin)])
  rw [inB_iff.2 hin] at HIN
  obtain ⟨p0, p1⟩ := hin
  have hz48 := HT.out.hi
  clear ht
  have HM := Go.Lib.hid (specMeanI A c zs w HL.out HT.out)
  obtain ⟨m0, m1⟩ := meanI_bd HT.out
  generalize meanI zs = m at *
  have hpm0 : 0 ≤ pc * m := Int.mul_nonneg p0 m0
  have hpm1 : pc * m ≤ 100 * 3000 := Int.mul_le_mul p1 m1 m0 (by omega)
  have hpm : IntKind.i64.wrap (pc * m) = pc * m := IntWalk.i64_in _ (by omega)
  go_enter Try.func29, Try.ntmps29
  go_wp2_with fail
  refine (HTE.out _ HL.out).mono ?_
  rintro _ _ ⟨rfl, rfl⟩
  go_wp2_with fail
  refine HIN.out.mono ?_
  rintro _ _ ⟨rfl, rfl⟩
  have HG := Go.Lib.hid (show Gat w [] (.slice (some ⟨w.heap.size, 0, none⟩) 0 0) (w.alloc (.cells #[] 2)) from Gat.start (Below.refl _ _))
  go_wp2_with fail
  refine HM.out.mono ?_
  rintro _ _ ⟨rfl, rfl⟩
  go_wp2_with fail
  obtain ⟨i0, hi, hz0, hz1, hz2⟩ := info_parts infoI64
  go_loopw [7, 8] (fun o i wr => ∃ k : Nat, k ≤ zs.length ∧ i = .int .i64 k ∧ Gat w (idxI (farB m pc) zs k) o wr) (fun _ i _ => zs.length - (intOf i).toNat)
  case atStart => exact ⟨0, Nat.zero_le _, rfl, HG.out⟩
  case round =>
    obtain ⟨k, hk, rfl, hgat⟩ := hrel
    clear HG
    have HGT := Go.Lib.hid hgat
    by_cases hlt : k < zs.length
    case neg =>
      obtain rfl : k = zs.length := by omega
      have HF := Go.Lib.hid (hgat.done HV.out)
      clear hgat
      go_wp2_with fail
      go_ret2
      exact HF.out
    case pos =>
      obtain ⟨b, o, rfl, -, hc⟩ := (HL.out.below hgat.b).at_ hlt
      have hcell := hc k hlt
      have hrow := hgat.row
      have hbs := hgat.b.size
      have hlen := idxI_len (farB m pc) zs k
      have hx := rngB_at HT.out.rng hlt
      have HSU := Go.Lib.hid (idxI_succ (farB m pc) zs k)
      clear hgat hc
      have HA := Go.Lib.hid (fun w0 => specAbs (zs.getD k 0 - m) w0 (by omega) (by omega))
      generalize idxI (farB m pc) zs k = ms at *
      generalize zs.getD k 0 = t at *
      obtain ⟨x0, x1⟩ := hx
      by_cases hp : pc * m < 100 * max (t - m) (-(t - m))
      case pos =>
        have HN := Go.Lib.hid (fun v' w3 o' h1 h2 => HGT.out.step (z := k) (w3 := w3) (v' := v') (o := o') h1 h2)
        have HS2 := Go.Lib.hid (show idxI (farB m pc) zs (k + 1) = ms ++ [(k : Int)] by rw [HSU.out, if_pos (by simp only [farB, decide_eq_true_eq]; omega)])
        clear HSU
        go_wp2_with fail
        refine (HA.out _).mono ?_
        rintro _ _ ⟨rfl, rfl⟩
        go_wp2_with (at_builtin; refine wpList_append_own_at _ rfl _ _ 24 rfl w.heap.size 2 i0 (.int .i64 0) 1 8 Try.underlying24 hi hz0 hz1 hz2 rfl (by decide) _ _ _ rfl (hrow.alloc _) ⟨wr.heap.size, 0, none⟩ 1 1 [.int .i64 k] rfl rfl (cell_one_new _ _ _) (by simp [Value.oneCell']) (by unfold maxLen; omega) (by omega) (by simp; omega) ?_; intro v' w3 hown' hgrow hnil hat; clear hnil hat)
        have HGN := Go.Lib.hid (HN.out _ _ _ hown' hgrow)
        clear hown' hgrow hrow
        go_wp2_with fail
        go_roundw
        case rel => exact ⟨k + 1, by omega, by go_num, by rw [HS2.out]; exact HGN.out⟩
        case measure => simp [intOf]; omega
      case neg =>
        have HS2 := Go.Lib.hid (show idxI (farB m pc) zs (k + 1) = ms by rw [HSU.out, if_neg (by simp only [farB, decide_eq_true_eq]; omega), List.append_nil])
        clear HSU hrow
        go_wp2_with fail
        refine (HA.out _).mono ?_
        rintro _ _ ⟨rfl, rfl⟩
        go_wp2_with fail
        go_roundw
        case rel => exact ⟨k + 1, by omega, by go_num, by rw [HS2.out]; exact HGT.out⟩
        case measure => simp [intOf]; omega
set_option maxRecDepth 100000 in
set_option maxHeartbeats 4000000 in
theorem specStiff (A : Option Addr) (c : Nat) (s : List Int) (w : World) (L : Ls s A c w) :
    Calls Try.prog 19 #[.slice A s.length c] w (IsB w (stiffB s)) := by
  have HL := Go.Lib.hid L
  have hn := L.few
  clear L
  go_enter Try.func19, Try.ntmps19
  go_wp2_with fail
  go_loopw [3] (fun i wr => ∃ k : Nat, k ≤ s.length ∧ i = .int .i64 k ∧ wr = w ∧ rngB (-200) 200 s = rngB (-200) 200 (s.drop k)) (fun i _ => s.length - (intOf i).toNat)
  case atStart => exact ⟨0, Nat.zero_le _, rfl, rfl, rfl⟩
  case round =>
    obtain ⟨k, hk, rfl, rfl, he⟩ := hrel
    have HE := Go.Lib.hid he
    clear he
    by_cases hlt : k < s.length
    case pos =>
      obtain ⟨b, o, rfl, -, hc⟩ := HL.out.at_ hlt
      have hcell := hc k hlt
      have HI := Go.Lib.hid (inN2 (s.getD k 0) (-200) 200 wr)
      by_cases hin : -200 ≤ s.getD k 0 ∧ s.getD k 0 ≤ 200
      case pos =>
        have HS := Go.Lib.hid (rngB_step hlt hin HE.out)
        rw [inB_iff.2 hin] at HI
        clear hc hin HE
        generalize s.getD k 0 = y at *
        go_wp2_with fail
        refine HI.out.mono ?_
        rintro _ _ ⟨rfl, rfl⟩
        go_wp2_with fail
        go_roundw
        case rel => exact ⟨k + 1, by omega, by go_num, by first | rfl | trivial, HS.out⟩
        case measure => simp [intOf]; omega
      case neg =>
        have HM := Go.Lib.hid (rngB_miss hlt hin)
        have e : inB (s.getD k 0) (-200) 200 = false := by rw [← Bool.not_eq_true, inB_iff]; exact hin
        rw [e] at HI
        clear hc hin HE e
        generalize s.getD k 0 = y at *
        go_wp2_with fail
        refine HI.out.mono ?_
        rintro _ _ ⟨rfl, rfl⟩
        go_wp2_with fail
        have HM2 := Go.Lib.hid (show stiffB s = false by simp [stiffB, HM.out])
        go_ret
        exact ⟨by rw [HM2.out]; rfl, Below.refl _ _⟩
    case neg =>
      have HR := Go.Lib.hid (rngB_end (by omega) HE.out)
      clear HE
      obtain rfl : k = s.length := by omega
      have HI := Go.Lib.hid (inN2 s.length 1 4 wr)
      by_cases h14 : 1 ≤ (s.length : Int) ∧ (s.length : Int) ≤ 4
      case neg =>
        have e : inB s.length 1 4 = false := by rw [← Bool.not_eq_true, inB_iff]; exact h14
        have HV := Go.Lib.hid (show stiffB s = false by rw [← Bool.not_eq_true, stiffB_iff]; exact fun h => h14 ⟨by have := h.lo; omega, by have := h.hi; omega⟩)
        rw [e] at HI
        clear e h14
        go_wp2_with fail
        refine HI.out.mono ?_
        rintro _ _ ⟨rfl, rfl⟩
        go_wp2_with fail
        go_ret
        exact ⟨by rw [HV.out]; rfl, Below.refl _ _⟩
      case pos =>
        rw [inB_iff.2 h14] at HI
        obtain ⟨l1, l4⟩ := h14
        have hl : 1 ≤ s.length := by omega
        obtain ⟨b, o, rfl, -, hcs⟩ := HL.out.at_ hl
        have hcell : wr.cell? ⟨b, o, none⟩ = some (.int .i64 (s.getD 0 0)) := hcs 0 hl
        have hl0 : (0 : Int) < s.length := by omega
        have hne : ¬ s = [] := by rintro rfl; simp at hl
        have HG := Go.Lib.hid (specGain (some ⟨b, o, none⟩) c s wr HL.out hl HR.out (by omega))
        by_cases h0 : 0 < s.getD 0 0
        case pos =>
          have HV := Go.Lib.hid (show stiffB s = decide (0 < gainI s) by simp only [stiffB, HR.out, decide_eq_true h0, Bool.true_and, Bool.and_true]; rw [decide_eq_true l1, decide_eq_true l4]; rfl)
          clear hcs
          generalize s.getD 0 0 = x at *
          generalize gainI s = g at *
          go_wp2_with fail
          refine HI.out.mono ?_
          rintro _ _ ⟨rfl, rfl⟩
          go_wp2_with fail
          refine HG.out.mono ?_
          rintro _ w1 ⟨rfl, b1⟩
          have HB := Go.Lib.hid b1
          clear b1
          go_wp2_with fail
          go_ret
          exact ⟨by rw [HV.out]; rfl, HB.out⟩
        case neg =>
          have HV := Go.Lib.hid (show stiffB s = false by rw [← Bool.not_eq_true, stiffB_iff]; exact fun h => h0 h.one)
          clear hcs
          generalize s.getD 0 0 = x at *
          go_wp2_with fail
          refine HI.out.mono ?_
          rintro _ _ ⟨rfl, rfl⟩
          go_wp2_with fail
          go_ret
          exact ⟨by rw [HV.out]; rfl, Below.refl _ _⟩
end Go.Proofs.Ytpcaakmcjdginab
