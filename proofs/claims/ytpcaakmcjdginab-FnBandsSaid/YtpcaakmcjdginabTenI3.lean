/- The program: sums, means, spreads, bands. -/
import Derived.Test.YtpcaakmcjdginabTenI2
namespace Go.Proofs.Ytpcaakmcjdginab
open Go.RowKit
set_option linter.unusedSimpArgs false
set_option linter.unusedVariables false

set_option maxRecDepth 100000 in
set_option maxHeartbeats 4000000 in
theorem implSumOf (A : Option Addr) (c : Nat) (zs : List Int) (w : World) (L : Ls zs A c w) :
    Calls Try.prog 14 #[.slice A zs.length c] w (Gives2 (sumR zs) w) := by
  have HT := Go.Lib.hid (fun w0 L0 => implTen A c zs w0 L0)
  have HL := Go.Lib.hid L
  have hn := L.few
  clear L
  by_cases ht : tenB zs = true
  case neg =>
    have HV := Go.Lib.hid (show sumR zs = (0, 1) by unfold sumR; rw [if_neg ht])
    rw [Bool.not_eq_true] at ht
    rw [ht] at HT
    go_enter Try.func14, Try.ntmps14
    go_wp2_with fail
    refine (HT.out _ HL.out).mono ?_
    rintro _ _ ⟨rfl, rfl⟩
    go_wp2_with fail
    go_ret2
    exact Gives2.of HV.out (Below.refl _ _)
  case pos =>
  have HV := Go.Lib.hid (show sumR zs = (zs.sum, 0) by unfold sumR; rw [if_pos ht])
  have HTN := Go.Lib.hid (tenB_iff.1 ht)
  rw [ht] at HT
  clear ht
  have HS := Go.Lib.hid (implSum A c zs w HL.out (rngB_iff.2 fun z hz => by have := rngB_iff.1 HTN.out.rng z hz; omega))
  go_enter Try.func14, Try.ntmps14
  go_wp2_with fail
  refine (HT.out _ HL.out).mono ?_
  rintro _ _ ⟨rfl, rfl⟩
  go_wp2_with fail
  refine (HS.out).mono ?_
  rintro _ _ ⟨rfl, rfl⟩
  go_wp2_with fail
  go_ret2
  exact Gives2.of HV.out (Below.refl _ _)
set_option maxRecDepth 100000 in
set_option maxHeartbeats 4000000 in
theorem implMean (A : Option Addr) (c : Nat) (zs : List Int) (w : World) (L : Ls zs A c w) :
    Calls Try.prog 25 #[.slice A zs.length c] w (Gives2 (meanR zs) w) := by
  have HT := Go.Lib.hid (fun w0 L0 => implTen A c zs w0 L0)
  have HL := Go.Lib.hid L
  have hn := L.few
  clear L
  by_cases ht : tenB zs = true
  case neg =>
    have HV := Go.Lib.hid (show meanR zs = (0, 1) by unfold meanR; rw [if_neg ht])
    rw [Bool.not_eq_true] at ht
    rw [ht] at HT
    go_enter Try.func25, Try.ntmps25
    go_wp2_with fail
    refine (HT.out _ HL.out).mono ?_
    rintro _ _ ⟨rfl, rfl⟩
    go_wp2_with fail
    go_ret2
    exact Gives2.of HV.out (Below.refl _ _)
  case pos =>
  have HV := Go.Lib.hid (show meanR zs = (meanI zs, 0) by unfold meanR; rw [if_pos ht])
  have HTN := Go.Lib.hid (tenB_iff.1 ht)
  rw [ht] at HT
  clear ht
  have HS := Go.Lib.hid (implMeanI A c zs w HL.out HTN.out)
  go_enter Try.func25, Try.ntmps25
  go_wp2_with fail
  refine (HT.out _ HL.out).mono ?_
  rintro _ _ ⟨rfl, rfl⟩
  go_wp2_with fail
  refine (HS.out).mono ?_
  rintro _ _ ⟨rfl, rfl⟩
  go_wp2_with fail
  go_ret2
  exact Gives2.of HV.out (Below.refl _ _)
set_option maxRecDepth 100000 in
set_option maxHeartbeats 4000000 in
theorem slMax (A : Option Addr) (c : Nat) (zs : List Int) (w : World) (L : Ls zs A c w) (h0 : 0 < zs.length) :
    Calls Try.prog 65 #[.slice A zs.length c] w (Just (.int .i64 (maxTo zs zs.length)) w) := by
  have HL := Go.Lib.hid L
  have hn := L.few
  clear L
  obtain ⟨b, o, rfl, -, hcs⟩ := HL.out.at_ h0
  have HCS := Go.Lib.hid hcs
  have hcell : w.cell? ⟨b, o, none⟩ = some (.int .i64 (zs.getD 0 0)) := hcs 0 h0
  have hl0 : (0 : Int) < zs.length := by omega
  have hl1 : (1 : Int) ≤ zs.length := by omega
  have hne : ¬ zs = [] := by rintro rfl; simp at h0
  have H1 := Go.Lib.hid (maxTo_one h0)
  clear hcs
  generalize hx : zs.getD 0 0 = x at *
  go_enter Try.func65, Try.ntmps65
  go_wp2_with fail
  go_loopw [3, 4] (fun m i wr => ∃ k : Nat, 1 ≤ k ∧ k ≤ zs.length ∧ i = .int .i64 k ∧ wr = w ∧ m = .int .i64 (maxTo zs k)) (fun _ i _ => zs.length - (intOf i).toNat)
  case atStart => exact ⟨1, Nat.le_refl _, h0, rfl, rfl, by rw [H1.out]⟩
  case round =>
    obtain ⟨k, hk1, hk, rfl, rfl, rfl⟩ := hrel
    by_cases hlt : k < zs.length
    case pos =>
      have hcell2 := HCS.out k hlt
      have HS := Go.Lib.hid (maxTo_succ hlt)
      generalize zs.getD k 0 = y at *
      generalize maxTo zs k = m at *
      go_wp2_with fail
      go_roundw
      case rel => exact ⟨k + 1, by omega, by omega, by go_num, by first | rfl | trivial, by rw [HS.out]⟩
      case measure => simp [intOf]; omega
    case neg =>
      obtain rfl : k = zs.length := by omega
      go_wp2_with fail
      go_ret
      exact ⟨rfl, rfl⟩
set_option maxRecDepth 100000 in
set_option maxHeartbeats 4000000 in
theorem slMin (A : Option Addr) (c : Nat) (zs : List Int) (w : World) (L : Ls zs A c w) (h0 : 0 < zs.length) :
    Calls Try.prog 66 #[.slice A zs.length c] w (Just (.int .i64 (minTo zs zs.length)) w) := by
  have HL := Go.Lib.hid L
  have hn := L.few
  clear L
  obtain ⟨b, o, rfl, -, hcs⟩ := HL.out.at_ h0
  have HCS := Go.Lib.hid hcs
  have hcell : w.cell? ⟨b, o, none⟩ = some (.int .i64 (zs.getD 0 0)) := hcs 0 h0
  have hl0 : (0 : Int) < zs.length := by omega
  have hl1 : (1 : Int) ≤ zs.length := by omega
  have hne : ¬ zs = [] := by rintro rfl; simp at h0
  have H1 := Go.Lib.hid (minTo_one h0)
  clear hcs
  generalize hx : zs.getD 0 0 = x at *
  go_enter Try.func66, Try.ntmps66
  go_wp2_with fail
  go_loopw [3, 4] (fun m i wr => ∃ k : Nat, 1 ≤ k ∧ k ≤ zs.length ∧ i = .int .i64 k ∧ wr = w ∧ m = .int .i64 (minTo zs k)) (fun _ i _ => zs.length - (intOf i).toNat)
  case atStart => exact ⟨1, Nat.le_refl _, h0, rfl, rfl, by rw [H1.out]⟩
  case round =>
    obtain ⟨k, hk1, hk, rfl, rfl, rfl⟩ := hrel
    by_cases hlt : k < zs.length
    case pos =>
      have hcell2 := HCS.out k hlt
      have HS := Go.Lib.hid (minTo_succ hlt)
      generalize zs.getD k 0 = y at *
      generalize minTo zs k = m at *
      go_wp2_with fail
      go_roundw
      case rel => exact ⟨k + 1, by omega, by omega, by go_num, by first | rfl | trivial, by rw [HS.out]⟩
      case measure => simp [intOf]; omega
    case neg =>
      obtain rfl : k = zs.length := by omega
      go_wp2_with fail
      go_ret
      exact ⟨rfl, rfl⟩
set_option maxRecDepth 100000 in
set_option maxHeartbeats 4000000 in
theorem implSpread (A : Option Addr) (c : Nat) (zs : List Int) (w : World) (L : Ls zs A c w) :
    Calls Try.prog 33 #[.slice A zs.length c] w (Gives2 (spreadR zs) w) := by
  have HT := Go.Lib.hid (fun w0 L0 => implTen A c zs w0 L0)
  have HL := Go.Lib.hid L
  have hn := L.few
  clear L
  by_cases ht : tenB zs = true
  case neg =>
    have HV := Go.Lib.hid (show spreadR zs = (0, 1) by unfold spreadR; rw [if_neg ht])
    rw [Bool.not_eq_true] at ht
    rw [ht] at HT
    go_enter Try.func33, Try.ntmps33
    go_wp2_with fail
    refine (HT.out _ HL.out).mono ?_
    rintro _ _ ⟨rfl, rfl⟩
    go_wp2_with fail
    go_ret2
    exact Gives2.of HV.out (Below.refl _ _)
  case pos =>
  have HV := Go.Lib.hid (show spreadR zs = (maxTo zs zs.length - minTo zs zs.length, 0) by unfold spreadR; rw [if_pos ht])
  have HTN := Go.Lib.hid (tenB_iff.1 ht)
  rw [ht] at HT
  clear ht
  have h0 : 0 < zs.length := by have := HTN.out.lo; omega
  have HX := Go.Lib.hid (slMax A c zs w HL.out h0)
  have HM := Go.Lib.hid (slMin A c zs w HL.out h0)
  obtain ⟨x0, x1⟩ := maxTo_bd HTN.out.rng h0 zs.length (Nat.le_refl _)
  obtain ⟨m0, m1⟩ := minTo_bd HTN.out.rng h0 zs.length (Nat.le_refl _)
  generalize maxTo zs zs.length = x at *
  generalize minTo zs zs.length = m at *
  go_enter Try.func33, Try.ntmps33
  go_wp2_with fail
  refine (HT.out _ HL.out).mono ?_
  rintro _ _ ⟨rfl, rfl⟩
  go_wp2_with fail
  refine HX.out.mono ?_
  rintro _ _ ⟨rfl, rfl⟩
  go_wp2_with fail
  refine HM.out.mono ?_
  rintro _ _ ⟨rfl, rfl⟩
  go_wp2_with fail
  go_ret2
  exact Gives2.of HV.out (Below.refl _ _)
set_option maxRecDepth 100000 in
set_option maxHeartbeats 4000000 in
theorem implSlack (A : Option Addr) (c : Nat) (zs : List Int) (l : Int) (w : World) (L : Ls zs A c w) :
    Calls Try.prog 31 #[.slice A zs.length c, .int .i64 l] w (GivesLN (slackR zs l) w) := by
  have HTE := Go.Lib.hid (fun w0 L0 => implTen A c zs w0 L0)
  have HIN := Go.Lib.hid (implIsT l w)
  have HL := Go.Lib.hid L
  have hn := L.few
  clear L
  by_cases ht : tenB zs = true
  case neg =>
    have HV := Go.Lib.hid (show slackR zs l = ([], 1) by unfold slackR; rw [if_neg ht])
    rw [Bool.not_eq_true] at ht
    rw [ht] at HTE
    go_enter Try.func31, Try.ntmps31
    go_wp2_with fail
    refine (HTE.out _ HL.out).mono ?_
    rintro _ _ ⟨rfl, rfl⟩
    go_wp2_with fail
    go_ret2
    exact GivesLN.nil HV.out (Below.refl _ _)
  case pos =>
  have HT := Go.Lib.hid (tenB_iff.1 ht)
  rw [ht] at HTE
  by_cases hin : 0 ≤ l ∧ l ≤ 3000
  case neg =>
    have HV := Go.Lib.hid (show slackR zs l = ([], 2) by unfold slackR; rw [if_pos ht, if_neg (by simpa using hin)])
    have e : inB l 0 3000 = false := by rw [← Bool.not_eq_true, inB_iff]; exact hin
    rw [e] at HIN
    clear e hin ht
    go_enter Try.func31, Try.ntmps31
    go_wp2_with fail
    refine (HTE.out _ HL.out).mono ?_
    rintro _ _ ⟨rfl, rfl⟩
    go_wp2_with fail
    refine HIN.out.mono ?_
    rintro _ _ ⟨rfl, rfl⟩
    go_wp2_with fail
    go_ret2
    exact GivesLN.nil HV.out (Below.refl _ _)
  case pos =>
  have HV := Go.Lib.hid (show slackR zs l = (idxI (fun t => decide (t < l)) zs zs.length, 0) by unfold slackR; rw [if_pos ht, if_pos (by simpa using hin)])
  rw [inB_iff.2 hin] at HIN
  obtain ⟨p0, p1⟩ := hin
  have hz48 := HT.out.hi
  clear ht
  go_enter Try.func31, Try.ntmps31
  go_wp2_with fail
  refine (HTE.out _ HL.out).mono ?_
  rintro _ _ ⟨rfl, rfl⟩
  go_wp2_with fail
  refine HIN.out.mono ?_
  rintro _ _ ⟨rfl, rfl⟩
  have HG := Go.Lib.hid (show Gat w [] (.slice none 0 0) w from Gat.nil (Below.refl _ _))
  go_wp2_with fail
  obtain ⟨i0, hi, hz0, hz1, hz2⟩ := info_parts infoI64
  go_loopw [6, 17] (fun o i wr => ∃ k : Nat, k ≤ zs.length ∧ i = .int .i64 k ∧ Gat w (idxI (fun t => decide (t < l)) zs k) o wr) (fun _ i _ => zs.length - (intOf i).toNat)
  case atStart => exact ⟨0, Nat.zero_le _, rfl, HG.out⟩
  case round =>
    obtain ⟨k, hk, rfl, hgat⟩ := hrel
    clear HG
    have HGT := Go.Lib.hid hgat
    by_cases hlt : k < zs.length
    case neg =>
      obtain rfl : k = zs.length := by omega
      have HF := Go.Lib.hid (hgat.done HV.out)
      clear hgat
      go_wp2_with fail
      go_ret2
      exact HF.out
    case pos =>
      obtain ⟨b, o, rfl, -, hc⟩ := (HL.out.below hgat.b).at_ hlt
      have hcell := hc k hlt
      have hrow := hgat.row
      have hbs := hgat.b.size
      have hlen := idxI_len (fun t => decide (t < l)) zs k
      have hx := rngB_at HT.out.rng hlt
      have HSU := Go.Lib.hid (idxI_succ (fun t => decide (t < l)) zs k)
      clear hgat hc
      skip
      generalize idxI (fun t => decide (t < l)) zs k = ms at *
      generalize zs.getD k 0 = t at *
      obtain ⟨x0, x1⟩ := hx
      by_cases hp : t < l
      case pos =>
        have HN := Go.Lib.hid (fun v' w3 o' h1 h2 => HGT.out.step (z := k) (w3 := w3) (v' := v') (o := o') h1 h2)
        have HS2 := Go.Lib.hid (show idxI (fun t => decide (t < l)) zs (k + 1) = ms ++ [(k : Int)] by rw [HSU.out, if_pos (by simpa using hp)])
        clear HSU
        skip
        go_wp2_with (at_builtin; refine wpList_append_own_at _ rfl _ _ 24 rfl w.heap.size 2 i0 (.int .i64 0) 1 8 Try.underlying24 hi hz0 hz1 hz2 rfl (by decide) _ _ _ rfl (hrow.alloc _) ⟨wr.heap.size, 0, none⟩ 1 1 [.int .i64 k] rfl rfl (cell_one_new _ _ _) (by simp [Value.oneCell']) (by unfold maxLen; omega) (by omega) (by simp; omega) ?_; intro v' w3 hown' hgrow hnil hat; clear hnil hat)
        have HGN := Go.Lib.hid (HN.out _ _ _ hown' hgrow)
        clear hown' hgrow hrow
        go_wp2_with fail
        go_roundw
        case rel => exact ⟨k + 1, by omega, by go_num, by rw [HS2.out]; exact HGN.out⟩
        case measure => simp [intOf]; omega
      case neg =>
        have HS2 := Go.Lib.hid (show idxI (fun t => decide (t < l)) zs (k + 1) = ms by rw [HSU.out, if_neg (by simpa using hp), List.append_nil])
        clear HSU hrow
        skip
        go_wp2_with fail
        go_roundw
        case rel => exact ⟨k + 1, by omega, by go_num, by rw [HS2.out]; exact HGT.out⟩
        case measure => simp [intOf]; omega
set_option maxRecDepth 100000 in
set_option maxHeartbeats 4000000 in
theorem implOut (A : Option Addr) (c : Nat) (zs : List Int) (pc : Int) (w : World) (L : Ls zs A c w) :
    Calls Try.prog 28 #[.slice A zs.length c, .int .i64 pc] w (GivesLN (outR zs pc) w) := by
  have HTE := Go.Lib.hid (fun w0 L0 => implTen A c zs w0 L0)
  have HIN := Go.Lib.hid (implInR pc 0 100 w)
  have HL := Go.Lib.hid L
  have hn := L.few
  clear L
  by_cases ht : tenB zs = true
  case neg =>
    have HV := Go.Lib.hid (show outR zs pc = ([], 1) by unfold outR; rw [if_neg ht])
    rw [Bool.not_eq_true] at ht
    rw [ht] at HTE
    go_enter Try.func28, Try.ntmps28
    go_wp2_with fail
    refine (HTE.out _ HL.out).mono ?_
    rintro _ _ ⟨rfl, rfl⟩
    go_wp2_with fail
    go_ret2
    exact GivesLN.nil HV.out (Below.refl _ _)
  case pos =>
  have HT := Go.Lib.hid (tenB_iff.1 ht)
  rw [ht] at HTE
  by_cases hin : 0 ≤ pc ∧ pc ≤ 100
  case neg =>
    have HV := Go.Lib.hid (show outR zs pc = ([], 2) by unfold outR; rw [if_pos ht, if_neg (by simpa using hin)])
    have e : inB pc 0 100 = false := by rw [← Bool.not_eq_true, inB_iff]; exact hin
    rw [e] at HIN
    clear e hin ht
    go_enter Try.func28, Try.ntmps28
    go_wp2_with fail
    refine (HTE.out _ HL.out).mono ?_
    rintro _ _ ⟨rfl, rfl⟩
    go_wp2_with fail
    refine HIN.out.mono ?_
    rintro _ _ ⟨rfl, rfl⟩
    go_wp2_with fail
    go_ret2
    exact GivesLN.nil HV.out (Below.refl _ _)
  case pos =>
  have HV := Go.Lib.hid (show outR zs pc = (idxI (farB (meanI zs) pc) zs zs.length, 0) by unfold outR; rw [if_pos ht, if_pos (by simpa using hin)])
  rw [inB_iff.2 hin] at HIN
  obtain ⟨p0, p1⟩ := hin
  have hz48 := HT.out.hi
  clear ht
  have HM := Go.Lib.hid (implMeanI A c zs w HL.out HT.out)
  obtain ⟨m0, m1⟩ := meanI_bd HT.out
  generalize meanI zs = m at *
  have hpm0 : 0 ≤ pc * m := Int.mul_nonneg p0 m0
  have hpm1 : pc * m ≤ 100 * 3000 := Int.mul_le_mul p1 m1 m0 (by omega)
  have hpm : IntKind.i64.wrap (pc * m) = pc * m := IntWalk.i64_in _ (by omega)
  go_enter Try.func28, Try.ntmps28
  go_wp2_with fail
  refine (HTE.out _ HL.out).mono ?_
  rintro _ _ ⟨rfl, rfl⟩
  go_wp2_with fail
  refine HIN.out.mono ?_
  rintro _ _ ⟨rfl, rfl⟩
  have HG := Go.Lib.hid (show Gat w [] (.slice none 0 0) w from Gat.nil (Below.refl _ _))
  go_wp2_with fail
  refine HM.out.mono ?_
  rintro _ _ ⟨rfl, rfl⟩
  go_wp2_with fail
  obtain ⟨i0, hi, hz0, hz1, hz2⟩ := info_parts infoI64
  go_loopw [7, 20] (fun o i wr => ∃ k : Nat, k ≤ zs.length ∧ i = .int .i64 k ∧ Gat w (idxI (farB m pc) zs k) o wr) (fun _ i _ => zs.length - (intOf i).toNat)
  case atStart => exact ⟨0, Nat.zero_le _, rfl, HG.out⟩
  case round =>
    obtain ⟨k, hk, rfl, hgat⟩ := hrel
    clear HG
    have HGT := Go.Lib.hid hgat
    by_cases hlt : k < zs.length
    case neg =>
      obtain rfl : k = zs.length := by omega
      have HF := Go.Lib.hid (hgat.done HV.out)
      clear hgat
      go_wp2_with fail
      go_ret2
      exact HF.out
    case pos =>
      obtain ⟨b, o, rfl, -, hc⟩ := (HL.out.below hgat.b).at_ hlt
      have hcell := hc k hlt
      have hrow := hgat.row
      have hbs := hgat.b.size
      have hlen := idxI_len (farB m pc) zs k
      have hx := rngB_at HT.out.rng hlt
      have HSU := Go.Lib.hid (idxI_succ (farB m pc) zs k)
      clear hgat hc
      have HA := Go.Lib.hid (fun w0 => implAbs (zs.getD k 0 - m) w0 (by omega) (by omega))
      generalize idxI (farB m pc) zs k = ms at *
      generalize zs.getD k 0 = t at *
      obtain ⟨x0, x1⟩ := hx
      by_cases hp : pc * m < 100 * max (t - m) (-(t - m))
      case pos =>
        have HN := Go.Lib.hid (fun v' w3 o' h1 h2 => HGT.out.step (z := k) (w3 := w3) (v' := v') (o := o') h1 h2)
        have HS2 := Go.Lib.hid (show idxI (farB m pc) zs (k + 1) = ms ++ [(k : Int)] by rw [HSU.out, if_pos (by simp only [farB, decide_eq_true_eq]; omega)])
        clear HSU
        go_wp2_with fail
        refine (HA.out _).mono ?_
        rintro _ _ ⟨rfl, rfl⟩
        go_wp2_with (at_builtin; refine wpList_append_own_at _ rfl _ _ 24 rfl w.heap.size 2 i0 (.int .i64 0) 1 8 Try.underlying24 hi hz0 hz1 hz2 rfl (by decide) _ _ _ rfl (hrow.alloc _) ⟨wr.heap.size, 0, none⟩ 1 1 [.int .i64 k] rfl rfl (cell_one_new _ _ _) (by simp [Value.oneCell']) (by unfold maxLen; omega) (by omega) (by simp; omega) ?_; intro v' w3 hown' hgrow hnil hat; clear hnil hat)
        have HGN := Go.Lib.hid (HN.out _ _ _ hown' hgrow)
        clear hown' hgrow hrow
        go_wp2_with fail
        go_roundw
        case rel => exact ⟨k + 1, by omega, by go_num, by rw [HS2.out]; exact HGN.out⟩
        case measure => simp [intOf]; omega
      case neg =>
        have HS2 := Go.Lib.hid (show idxI (farB m pc) zs (k + 1) = ms by rw [HSU.out, if_neg (by simp only [farB, decide_eq_true_eq]; omega), List.append_nil])
        clear HSU hrow
        go_wp2_with fail
        refine (HA.out _).mono ?_
        rintro _ _ ⟨rfl, rfl⟩
        go_wp2_with fail
        go_roundw
        case rel => exact ⟨k + 1, by omega, by go_num, by rw [HS2.out]; exact HGT.out⟩
        case measure => simp [intOf]; omega
end Go.Proofs.Ytpcaakmcjdginab
