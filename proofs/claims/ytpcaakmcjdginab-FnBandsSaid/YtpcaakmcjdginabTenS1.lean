/- The model: tensions, a stiffness. -/
import Derived.Test.YtpcaakmcjdginabTenB
namespace Go.Proofs.Ytpcaakmcjdginab
open Go.RowKit
set_option linter.unusedSimpArgs false
set_option linter.unusedVariables false

set_option maxRecDepth 100000 in
set_option maxHeartbeats 4000000 in
theorem specTen (A : Option Addr) (c : Nat) (zs : List Int) (w : World) (L : Ls zs A c w) :
    Calls Try.prog 51 #[.slice A zs.length c] w (Just (.bool (tenB zs)) w) := by
  have HL := Go.Lib.hid L
  have hn := L.few
  clear L
  go_enter Try.func51, Try.ntmps51
  go_wp2_with fail
  go_loopw [3] (fun i wr => ∃ k : Nat, k ≤ zs.length ∧ i = .int .i64 k ∧ wr = w ∧ rngB (0) 3000 zs = rngB (0) 3000 (zs.drop k)) (fun i _ => zs.length - (intOf i).toNat)
  case atStart => exact ⟨0, Nat.zero_le _, rfl, rfl, rfl⟩
  case round =>
    obtain ⟨k, hk, rfl, rfl, he⟩ := hrel
    have HE := Go.Lib.hid he
    clear he
    by_cases hlt : k < zs.length
    case pos =>
      obtain ⟨b, o, rfl, -, hc⟩ := HL.out.at_ hlt
      have hcell := hc k hlt
      have HI := Go.Lib.hid (inN2 (zs.getD k 0) 0 3000 wr)
      by_cases hin : 0 ≤ zs.getD k 0 ∧ zs.getD k 0 ≤ 3000
      case pos =>
        have HS := Go.Lib.hid (rngB_step hlt hin HE.out)
        rw [inB_iff.2 hin] at HI
        clear hc hin HE
        generalize zs.getD k 0 = y at *
        go_wp2_with fail
        refine HI.out.mono ?_
        rintro _ _ ⟨rfl, rfl⟩
        go_wp2_with fail
        go_roundw
        case rel => exact ⟨k + 1, by omega, by go_num, by first | rfl | trivial, HS.out⟩
        case measure => simp [intOf]; omega
      case neg =>
        have HM := Go.Lib.hid (rngB_miss hlt hin)
        have e : inB (zs.getD k 0) (0) 3000 = false := by rw [← Bool.not_eq_true, inB_iff]; exact hin
        rw [e] at HI
        clear hc hin HE e
        generalize zs.getD k 0 = y at *
        go_wp2_with fail
        refine HI.out.mono ?_
        rintro _ _ ⟨rfl, rfl⟩
        go_wp2_with fail
        have HM2 := Go.Lib.hid (show tenB zs = false by simp [tenB, HM.out])
        go_ret
        exact ⟨by rw [HM2.out]; rfl, rfl⟩
    case neg =>
      have HR := Go.Lib.hid (rngB_end (by omega) HE.out)
      clear HE
      have HV := Go.Lib.hid (show inB zs.length 4 48 = tenB zs by simp [tenB, inB, HR.out])
      have HI := Go.Lib.hid (inN2 zs.length 4 48 wr)
      rw [HV.out] at HI
      obtain rfl : k = zs.length := by omega
      go_wp2_with fail
      refine HI.out.mono ?_
      rintro _ _ ⟨rfl, rfl⟩
      go_wp2_with fail
      go_ret
      exact ⟨rfl, rfl⟩
set_option maxRecDepth 100000 in
set_option maxHeartbeats 4000000 in
theorem specSum (A : Option Addr) (c : Nat) (zs : List Int) (w : World) (L : Ls zs A c w) (hr : rngB (-3000) 3000 zs = true) :
    Calls Try.prog 53 #[.slice A zs.length c] w (Just (.int .i64 zs.sum) w) := by
  have HL := Go.Lib.hid L
  have HR := Go.Lib.hid hr
  have hn := L.few
  clear L hr
  go_enter Try.func53, Try.ntmps53
  go_wp2_with fail
  go_loopw [3, 4] (fun t i wr => ∃ k : Nat, k ≤ zs.length ∧ i = .int .i64 k ∧ wr = w ∧ t = .int .i64 (zs.take k).sum) (fun _ i _ => zs.length - (intOf i).toNat)
  case atStart => exact ⟨0, Nat.zero_le _, rfl, rfl, by simp⟩
  case round =>
    obtain ⟨k, hk, rfl, rfl, rfl⟩ := hrel
    by_cases hlt : k < zs.length
    case pos =>
      obtain ⟨b, o, rfl, -, hc⟩ := HL.out.at_ hlt
      have hcell := hc k hlt
      have HS := Go.Lib.hid (sum_take_succ hlt)
      have hb := sum_take_bd HR.out k hk
      have hx := rngB_at HR.out hlt
      clear hc
      generalize zs.getD k 0 = x at *
      generalize (zs.take k).sum = t at *
      obtain ⟨hb0, hb1⟩ := hb
      obtain ⟨hx0, hx1⟩ := hx
      go_wp2_with fail
      go_roundw
      case rel => exact ⟨k + 1, by omega, by go_num, by first | rfl | trivial, by rw [HS.out]⟩
      case measure => simp [intOf]; omega
    case neg =>
      obtain rfl : k = zs.length := by omega
      rw [List.take_length]
      go_wp2_with fail
      go_ret
      exact ⟨rfl, rfl⟩
set_option maxRecDepth 100000 in
set_option maxHeartbeats 4000000 in
theorem specGain (A : Option Addr) (c : Nat) (s : List Int) (w : World) (L : Ls s A c w) (hl : 1 ≤ s.length) (hr : rngB (-200) 200 s = true) (h4 : s.length ≤ 4) :
    Calls Try.prog 57 #[.slice A s.length c] w (IsV w (.int .i64 (gainI s))) := by
  have HS := Go.Lib.hid (fun w0 L0 => specSum A c s w0 L0 (rngB_iff.2 fun z hz => by have := rngB_iff.1 hr z hz; omega))
  have HV := Go.Lib.hid (show gainI s = 2 * s.sum - s.getD 0 0 from rfl)
  have hb := sum_bd' hr
  have hx := rngB_at hr (k := 0) hl
  obtain ⟨b, o, rfl, hbl, hc⟩ := L.at_ hl
  have hcell : w.cell? ⟨b, o, none⟩ = some (.int .i64 (s.getD 0 0)) := hc 0 hl
  have hl0 : (0 : Int) < s.length := by omega
  have hne : ¬ s = [] := by rintro rfl; simp at hl
  have hl2 : 0 < s.length := hl
  have HL := Go.Lib.hid L
  clear hc L hr
  generalize s.sum = t at *
  generalize s.getD 0 0 = x at *
  have t0 : -800 ≤ t := by omega
  have t1 : t ≤ 800 := by omega
  obtain ⟨hx0, hx1⟩ := hx
  have e1 : IntKind.i64.wrap (2 * t) = 2 * t := IntWalk.i64_in _ (by omega)
  have e2 : IntKind.i64.wrap (2 * t - x) = 2 * t - x := IntWalk.i64_in _ (by omega)
  clear hb hl h4
  go_enter Try.func57, Try.ntmps57
  go_upto_region 1 with fail
  go_region_held3 (fun w' => w'.cell? ⟨b, o, none⟩ = some (.int .i64 x) ∧ Ls s (some ⟨b, o, none⟩) c w' ∧ Below w.heap.size w w') (first | exact ⟨by assumption, HL.out.drewN 1, below_drewN (Below.refl _ _) 1⟩ | assumption) ((go_at_call 53; refine (HS.out _ (by obtain ⟨_, hh, _⟩ := (by assumption : _ ∧ Ls s (some ⟨b, o, none⟩) c _ ∧ _); exact hh)).mono ?_; rintro _ _ ⟨rfl, rfl⟩))
  all_goals (go_wp2_with fail; go_ret; exact ⟨by rw [HV.out]; rfl, below_drewN (Below.refl _ _) 1⟩)
end Go.Proofs.Ytpcaakmcjdginab
