/- The program of chapter 11: moves and their letters. -/
import Derived.Test.YthedanpldebjcaaPlainMoves
import Derived.Test.YthedanpldebjcaaTenB
import Derived.Test.YthedanpldebjcaaMvB
import Derived.Test.YthedanpldebjcaaShP1
namespace Go.Proofs.Ythedanpldebjcaa
open Go.RowKit
set_option linter.unusedSimpArgs false
set_option linter.unusedVariables false

set_option maxRecDepth 100000 in
set_option maxHeartbeats 4000000 in
theorem implMovesText (A : Option Addr) (c : Nat) (zs : List Int) (w : World) (L : Ls zs A c w) :
    Calls Try.prog 34 #[.slice A zs.length c] w (GivesSN (mTextR zs) w) := by
  obtain ⟨i0, hi, hz0, hz1, hz2⟩ := info_parts infoU8
  have HL := Go.Lib.hid L
  have hn := L.few
  clear L
  by_cases h0 : zs.length = 0
  case pos =>
    have HV := Go.Lib.hid (show mTextR zs = ([45], 0) by
      have e : zs = [] := List.length_eq_zero_iff.1 h0
      subst e
      rfl)
    have h0b : ((zs.length : Int) == 0) = true := by rw [h0]; rfl
    clear h0
    go_enter Try.func34, Try.ntmps34
    go_wp2_with fail
    go_ret2
    exact GivesSN.of HV.out (Below.refl _ _)
  case neg =>
    have h0b : ((zs.length : Int) == 0) = false := beq_eq_false_iff_ne.2 (by omega)
    by_cases h60 : zs.length ≤ 60
    case neg =>
      have HV := Go.Lib.hid (show mTextR zs = ([], 2) by
        unfold mTextR
        rw [decide_eq_false h60, Bool.and_false]
        rfl)
      have h60b : (60 : Int) < zs.length := by omega
      clear h0 h60
      go_enter Try.func34, Try.ntmps34
      go_wp2_with fail
      go_ret2
      exact GivesSN.of HV.out (Below.refl _ _)
    case pos =>
      have h60b : ¬ (60 : Int) < zs.length := by omega
      have HP := Go.Lib.hid (show 0 < zs.length by omega)
      have HM0 := Go.Lib.hid (fun z w0 => implIsMove z w0)
      have HG0 := Go.Lib.hid (show GatU w [] (.slice none 0 0) w from GatU.nil w)
      go_enter Try.func34, Try.ntmps34
      go_wp2_with fail
      go_loopw [4, 15] (fun v u wr => ∃ k : Nat, k ≤ zs.length ∧ u = .int .i64 k ∧ (∀ t, t < k → 0 ≤ zs.getD t 0 ∧ zs.getD t 0 ≤ 3) ∧ GatU w ((zs.take k).map chM) v wr) (fun _ u _ => zs.length - (intOf u).toNat)
      case atStart => exact ⟨0, Nat.zero_le _, rfl, fun t ht => absurd ht (Nat.not_lt_zero _), HG0.out⟩
      case round =>
        obtain ⟨k, hk, rfl, hall, hgat⟩ := hrel
        have HGT := Go.Lib.hid hgat
        have HA := Go.Lib.hid hall
        have HBR := Go.Lib.hid hgat.b
        clear hgat hall HG0
        by_cases hlt : k < zs.length
        case neg =>
          obtain rfl : k = zs.length := by omega
          rw [List.take_length] at HGT
          have HV := Go.Lib.hid (show mTextR zs = (zs.map chM, 0) by
            unfold mTextR mText
            rw [rngB_all (fun t ht => HA.out t ht), decide_eq_true h60, if_neg h0]
            rfl)
          obtain ⟨g, cap, rfl, hcv⟩ := HGT.out.text (by rw [List.length_map]; exact HP.out)
          rw [List.length_map] at hcv
          rw [List.length_map]
          have hnl : ¬ ((zs.length : Nat) : Int) < zs.length := by omega
          clear h0
          go_wp2_with fail
          go_ret2
          exact GivesSN.of HV.out HBR.out
        case pos =>
          have hkl : (k : Int) < zs.length := by omega
          obtain ⟨b, ob, rfl, hblt, hc⟩ := (HL.out.below HBR.out).at_ hlt
          have hcell := hc k hlt
          have HLE := Go.Lib.hid (show ((zs.take k).map chM).length = k by rw [List.length_map, List.length_take]; omega)
          have HSU := Go.Lib.hid (show (zs.take (k + 1)).map chM = (zs.take k).map chM ++ [chM (zs.getD k 0)] by
            rw [List.take_add_one, List.map_append]
            simp [List.getD, hlt])
          have HM := Go.Lib.hid (fun w0 => HM0.out (zs.getD k 0) w0)
          have HNO := Go.Lib.hid (fun (h : ¬ (0 ≤ zs.getD k 0 ∧ zs.getD k 0 ≤ 3)) => show mTextR zs = ([], 2) by
            unfold mTextR
            rw [rngB_no hlt h]
            rfl)
          have HAN0 := Go.Lib.hid (fun (h : 0 ≤ zs.getD k 0 ∧ zs.getD k 0 ≤ 3) => show ∀ t, t < k + 1 → 0 ≤ zs.getD t 0 ∧ zs.getD t 0 ≤ 3 from fun t ht => by
            rcases Nat.lt_or_ge t k with h1 | h1
            · exact HA.out t h1
            · obtain rfl : t = k := by omega
              exact h)
          have hrow := HGT.out.row
          rw [HLE.out] at hrow
          clear hc HA
          generalize zs.getD k 0 = z at *
          by_cases hz : 0 ≤ z ∧ z ≤ 3
          case neg =>
            have HV := Go.Lib.hid (HNO.out hz)
            rw [show inB z 0 3 = false by rw [← Bool.not_eq_true, inB_iff]; exact hz] at HM
            clear hz hrow HNO HAN0
            go_wp2_with fail
            refine (HM.out _).mono ?_
            rintro _ _ ⟨rfl, rfl⟩
            go_wp2_with fail
            go_ret2
            exact GivesSN.of HV.out HBR.out
          case pos =>
            rw [inB_iff.2 hz] at HM
            have HAN := Go.Lib.hid (HAN0.out hz)
            have h4 : z = 0 ∨ z = 1 ∨ z = 2 ∨ z = 3 := by omega
            clear hz HNO HAN0
            rcases h4 with rfl | rfl | rfl | rfl
            · go_wp2_with fail
              refine (HM.out _).mono ?_
              rintro _ _ ⟨rfl, rfl⟩
              go_wp2_with (at_builtin; refine wpList_append_own_at _ rfl _ _ 22 rfl w.heap.size 5 i0 (.int .u8 0) 1 1 Try.underlying22 hi hz0 hz1 hz2 rfl (by decide) _ _ _ rfl (hrow.alloc _) ⟨wr.heap.size, 0, none⟩ 1 1 [.int .u8 100] rfl rfl (cell_one_new _ _ _) (by simp [Value.oneCell']) (by unfold maxLen; omega) (by omega) (by have := HBR.out.size; simp; omega) ?_; intro v' w3 hown' hgrow hnil hat; clear hnil hat)
              have HGN := Go.Lib.hid (HGT.out.step (o := .cells #[.int .u8 100] 5) (b := 100) (by rw [HLE.out]; exact hown') hgrow)
              clear hown' hgrow hrow
              go_wp2_with fail
              go_roundw
              case rel => exact ⟨k + 1, by omega, by go_num, HAN.out, by rw [HSU.out]; exact HGN.out⟩
              case measure => simp [intOf]; omega
            · go_wp2_with fail
              refine (HM.out _).mono ?_
              rintro _ _ ⟨rfl, rfl⟩
              go_wp2_with (at_builtin; refine wpList_append_own_at _ rfl _ _ 22 rfl w.heap.size 5 i0 (.int .u8 0) 1 1 Try.underlying22 hi hz0 hz1 hz2 rfl (by decide) _ _ _ rfl (hrow.alloc _) ⟨wr.heap.size, 0, none⟩ 1 1 [.int .u8 117] rfl rfl (cell_one_new _ _ _) (by simp [Value.oneCell']) (by unfold maxLen; omega) (by omega) (by have := HBR.out.size; simp; omega) ?_; intro v' w3 hown' hgrow hnil hat; clear hnil hat)
              have HGN := Go.Lib.hid (HGT.out.step (o := .cells #[.int .u8 117] 5) (b := 117) (by rw [HLE.out]; exact hown') hgrow)
              clear hown' hgrow hrow
              go_wp2_with fail
              go_roundw
              case rel => exact ⟨k + 1, by omega, by go_num, HAN.out, by rw [HSU.out]; exact HGN.out⟩
              case measure => simp [intOf]; omega
            · go_wp2_with fail
              refine (HM.out _).mono ?_
              rintro _ _ ⟨rfl, rfl⟩
              go_wp2_with (at_builtin; refine wpList_append_own_at _ rfl _ _ 22 rfl w.heap.size 5 i0 (.int .u8 0) 1 1 Try.underlying22 hi hz0 hz1 hz2 rfl (by decide) _ _ _ rfl (hrow.alloc _) ⟨wr.heap.size, 0, none⟩ 1 1 [.int .u8 108] rfl rfl (cell_one_new _ _ _) (by simp [Value.oneCell']) (by unfold maxLen; omega) (by omega) (by have := HBR.out.size; simp; omega) ?_; intro v' w3 hown' hgrow hnil hat; clear hnil hat)
              have HGN := Go.Lib.hid (HGT.out.step (o := .cells #[.int .u8 108] 5) (b := 108) (by rw [HLE.out]; exact hown') hgrow)
              clear hown' hgrow hrow
              go_wp2_with fail
              go_roundw
              case rel => exact ⟨k + 1, by omega, by go_num, HAN.out, by rw [HSU.out]; exact HGN.out⟩
              case measure => simp [intOf]; omega
            · go_wp2_with fail
              refine (HM.out _).mono ?_
              rintro _ _ ⟨rfl, rfl⟩
              go_wp2_with (at_builtin; refine wpList_append_own_at _ rfl _ _ 22 rfl w.heap.size 5 i0 (.int .u8 0) 1 1 Try.underlying22 hi hz0 hz1 hz2 rfl (by decide) _ _ _ rfl (hrow.alloc _) ⟨wr.heap.size, 0, none⟩ 1 1 [.int .u8 114] rfl rfl (cell_one_new _ _ _) (by simp [Value.oneCell']) (by unfold maxLen; omega) (by omega) (by have := HBR.out.size; simp; omega) ?_; intro v' w3 hown' hgrow hnil hat; clear hnil hat)
              have HGN := Go.Lib.hid (HGT.out.step (o := .cells #[.int .u8 114] 5) (b := 114) (by rw [HLE.out]; exact hown') hgrow)
              clear hown' hgrow hrow
              go_wp2_with fail
              go_roundw
              case rel => exact ⟨k + 1, by omega, by go_num, HAN.out, by rw [HSU.out]; exact HGN.out⟩
              case measure => simp [intOf]; omega
set_option maxRecDepth 100000 in
set_option maxHeartbeats 4000000 in
theorem implReadMoves (l : List UInt8) (w : World) (hsz : l.length ≤ 1048576) :
    Calls Try.prog 37 #[.string ⟨l.toArray⟩] w (GivesLN (mReadR l) w) := by
  obtain ⟨i0, hi, hz0, hz1, hz2⟩ := info_parts infoI64
  by_cases hd : l = [45]
  case pos =>
    subst hd
    have HV := Go.Lib.hid (show mReadR [45] = ([], 0) from rfl)
    go_enter Try.func37, Try.ntmps37
    go_wp2_with fail
    go_ret2
    exact GivesLN.nil HV.out (Below.refl _ _)
  case neg =>
    have heq : ∀ w0 : World, (Op.stringOp .eql ⟨l.toArray⟩ ⟨#[45]⟩).run Try.prog w0 = .ok (.bool false) w0 := fun w0 => str_ne w0 hd
    have heq2 := beq45 hd
    have hsize : (ByteArray.mk l.toArray).size = l.length := by simp [ByteArray.size]
    by_cases h1 : 0 < l.length ∧ l.length ≤ 60
    case neg =>
      have HV := Go.Lib.hid (show mReadR l = ([], 6) by
        unfold mReadR
        rw [if_neg hd, show (decide (0 < l.length) && decide (l.length ≤ 60)) = false by rw [← Bool.not_eq_true]; simpa using h1, Bool.and_false]
        rfl)
      by_cases h2 : l.length < 1
      case pos =>
        have h3 : (l.length : Int) < 1 := by omega
        clear h1 h2 hd
        go_enter Try.func37, Try.ntmps37
        go_wp2_with fail
        go_ret2
        exact GivesLN.nil HV.out (Below.refl _ _)
      case neg =>
        have h3 : ¬ (l.length : Int) < 1 := by omega
        have h4 : (60 : Int) < l.length := by omega
        clear h1 h2 hd
        go_enter Try.func37, Try.ntmps37
        go_wp2_with fail
        go_ret2
        exact GivesLN.nil HV.out (Below.refl _ _)
    case pos =>
      have h3 : ¬ (l.length : Int) < 1 := by omega
      have h4 : ¬ (60 : Int) < l.length := by omega
      have HV1 := Go.Lib.hid (fun (h : l.all okM = true) => show mReadR l = (l.map unD, 0) by
        unfold mReadR
        rw [if_neg hd, h, decide_eq_true h1.1, decide_eq_true h1.2]
        rfl)
      have HV2 := Go.Lib.hid (fun (h : l.all okM = false) => show mReadR l = ([], 6) by
        unfold mReadR
        rw [if_neg hd, h]
        rfl)
      have HIX := Go.Lib.hid (fun b w0 => implIdx b w0)
      have HM0 := Go.Lib.hid (fun z w0 => implIsMove z w0)
      have hl60 : l.length ≤ 60 := h1.2
      have HG0 := Go.Lib.hid (show Gat w [] (.slice none 0 0) w from Gat.nil (Below.refl _ _))
      clear h1 hd
      go_enter Try.func37, Try.ntmps37
      go_wp2_with fail
      go_loopw [4, 19] (fun v u wr => ∃ k : Nat, k ≤ l.length ∧ u = .int .i64 k ∧ (l.take k).all okM = true ∧ Gat w ((l.take k).map unD) v wr) (fun _ u _ => l.length - (intOf u).toNat)
      case atStart => exact ⟨0, Nat.zero_le _, rfl, rfl, HG0.out⟩
      case round =>
        obtain ⟨k, hk, rfl, hall, hgat⟩ := hrel
        have HGT := Go.Lib.hid hgat
        have HA := Go.Lib.hid hall
        have HBR := Go.Lib.hid hgat.b
        clear hgat hall HG0
        by_cases hlt : k < l.length
        case neg =>
          obtain rfl : k = l.length := by omega
          rw [List.take_length] at HGT HA
          have HF := Go.Lib.hid (HGT.out.done (HV1.out HA.out))
          have hnl : ¬ ((l.length : Nat) : Int) < l.length := by omega
          go_wp2_with fail
          go_ret2
          exact HF.out
        case pos =>
          have hkl : (k : Int) < l.length := by omega
          have hidx : ∀ w0 : World, (Instr.index 9 (.string ⟨l.toArray⟩) (.int .i64 k)).run Try.prog w0 = .ok (.int .u8 (l.getD k 0).toNat) w0 := fun w0 => str_at w0 hlt
          have HLE := Go.Lib.hid (show ((l.take k).map unD).length = k by rw [List.length_map, List.length_take]; omega)
          have HSU := Go.Lib.hid (show (l.take (k + 1)).map unD = (l.take k).map unD ++ [unD (l.getD k 0)] by
            rw [List.take_add_one, List.map_append]
            simp [List.getD, hlt])
          have HAL := Go.Lib.hid (fun (h : okM (l.getD k 0) = true) => show (l.take (k + 1)).all okM = true by
            rw [List.take_add_one, List.all_append, HA.out]
            simpa [List.getD, hlt] using h)
          have HNO := Go.Lib.hid (fun (h : okM (l.getD k 0) = false) => HV2.out (all_no hlt h))
          have HI := Go.Lib.hid (fun w0 => HIX.out (l.getD k 0) w0)
          have hrow := HGT.out.row
          rw [HLE.out] at hrow
          clear HA
          generalize l.getD k 0 = b at *
          cases hb : okM b
          case false =>
            have HV := Go.Lib.hid (HNO.out hb)
            rw [hb] at HI
            have HM := Go.Lib.hid (fun w0 => HM0.out (-1) w0)
            rw [show inB (-1) 0 3 = false from by decide] at HM
            simp only [Bool.false_eq_true, if_false] at HI
            clear hb hrow HNO HAL
            go_wp2_with fail
            refine (HI.out _).mono ?_
            rintro _ _ ⟨rfl, rfl⟩
            go_wp2_with fail
            refine (HM.out _).mono ?_
            rintro _ _ ⟨rfl, rfl⟩
            go_wp2_with fail
            go_ret2
            exact GivesLN.nil HV.out HBR.out
          case true =>
            rw [hb] at HI
            simp only [if_true] at HI
            have hrg := (unD_ch hb).2
            have HM := Go.Lib.hid (fun w0 => HM0.out (unD b) w0)
            rw [inB_iff.2 hrg] at HM
            have HAN := Go.Lib.hid (HAL.out hb)
            clear hb HNO HAL hrg
            generalize unD b = d at *
            go_wp2_with fail
            refine (HI.out _).mono ?_
            rintro _ _ ⟨rfl, rfl⟩
            go_wp2_with fail
            refine (HM.out _).mono ?_
            rintro _ _ ⟨rfl, rfl⟩
            go_wp2_with (at_builtin; refine wpList_append_own_at _ rfl _ _ 24 rfl w.heap.size 2 i0 (.int .i64 0) 1 8 Try.underlying24 hi hz0 hz1 hz2 rfl (by decide) _ _ _ rfl (hrow.alloc _) ⟨wr.heap.size, 0, none⟩ 1 1 [.int .i64 d] rfl rfl (cell_one_new _ _ _) (ints_oneCell .i64 [d]) (by unfold maxLen; omega) (by omega) (by have := HBR.out.size; simp; omega) ?_; intro v' w3 hown' hgrow hnil hat; clear hnil hat)
            have HGN := Go.Lib.hid (HGT.out.step (z := d) (by rw [HLE.out]; exact hown') hgrow)
            clear hown' hgrow hrow
            go_wp2_with fail
            go_roundw
            case rel => exact ⟨k + 1, by omega, by go_num, HAN.out, by rw [HSU.out]; exact HGN.out⟩
            case measure => simp [intOf]; omega
end Go.Proofs.Ythedanpldebjcaa
