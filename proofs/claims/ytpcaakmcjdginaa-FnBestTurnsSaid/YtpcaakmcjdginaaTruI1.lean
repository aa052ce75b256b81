/- The program: deviations, effects, squares. -/
import Derived.Test.YtpcaakmcjdginaaSumOf
import Derived.Test.YtpcaakmcjdginaaPlainTru4
namespace Go.Proofs.Ytpcaakmcjdginaa
open Go.RowKit
set_option linter.unusedSimpArgs false
set_option linter.unusedVariables false

set_option maxRecDepth 100000 in
set_option maxHeartbeats 4000000 in
theorem implWithin (A : Option Addr) (c : Nat) (zs : List Int) (t : Int) (w : World) (L : Ls zs A c w) (ht0 : -1000000 ≤ t) (ht1 : t ≤ 1000000) :
    Calls Try.prog 57 #[.slice A zs.length c, .int .i64 t] w (Just (.bool (rngB (-t) t zs)) w) := by
  have HL := Go.Lib.hid L
  have hn := L.few
  clear L
  go_enter Try.func57, Try.ntmps57
  go_wp2_with fail
  go_loopw [9] (fun i wr => ∃ k : Nat, k ≤ zs.length ∧ i = .int .i64 k ∧ wr = w ∧ rngB (-t) t zs = rngB (-t) t (zs.drop k)) (fun i _ => zs.length - (intOf i).toNat)
  case atStart => exact ⟨0, Nat.zero_le _, rfl, rfl, rfl⟩
  case round =>
    obtain ⟨k, hk, rfl, rfl, he⟩ := hrel
    have HE := Go.Lib.hid he
    clear he
    by_cases hlt : k < zs.length
    case pos =>
      obtain ⟨b, o, rfl, -, hc⟩ := HL.out.at_ hlt
      have hcell := hc k hlt
      have HI := Go.Lib.hid (implInR (zs.getD k 0) (-t) t wr)
      by_cases hin : -t ≤ zs.getD k 0 ∧ zs.getD k 0 ≤ t
      case pos =>
        have HS := Go.Lib.hid (rngB_step hlt hin HE.out)
        rw [inB_iff.2 hin] at HI
        clear hc hin HE
        generalize zs.getD k 0 = y at *
        go_wp2_with fail
        refine HI.out.mono ?_
        rintro _ _ ⟨rfl, rfl⟩
        go_wp2_with fail
        go_roundw
        case rel => exact ⟨k + 1, by omega, by go_num, by first | rfl | trivial, HS.out⟩
        case measure => simp [intOf]; omega
      case neg =>
        have HM := Go.Lib.hid (rngB_miss hlt hin)
        have e : inB (zs.getD k 0) (-t) t = false := by rw [← Bool.not_eq_true, inB_iff]; exact hin
        rw [e] at HI
        clear hc hin HE e
        generalize zs.getD k 0 = y at *
        go_wp2_with fail
        refine HI.out.mono ?_
        rintro _ _ ⟨rfl, rfl⟩
        go_wp2_with fail
        go_ret
        exact ⟨by rw [HM.out]; rfl, rfl⟩
    case neg =>
      have HR := Go.Lib.hid (rngB_end (by omega) HE.out)
      clear HE
      go_wp2_with fail
      go_ret
      exact ⟨by rw [HR.out]; rfl, rfl⟩
set_option maxRecDepth 100000 in
set_option maxHeartbeats 4000000 in
theorem implDev (A : Option Addr) (c : Nat) (zs : List Int) (w : World) (L : Ls zs A c w) :
    Calls Try.prog 39 #[.slice A zs.length c] w (Just (.bool (devB zs)) w) := by
  have HW := Go.Lib.hid (implWithin A c zs 500 w L (by omega) (by omega))
  have hn := L.few
  clear L
  by_cases h4 : (4 : Int) ≤ zs.length
  case neg =>
    have HV := Go.Lib.hid (show devB zs = false by simp [devB]; omega)
    go_enter Try.func39, Try.ntmps39
    go_wp2_with fail
    go_ret
    exact ⟨by rw [HV.out]; rfl, rfl⟩
  case pos =>
  by_cases h10 : (zs.length : Int) ≤ 10
  case neg =>
    have HV := Go.Lib.hid (show devB zs = false by simp [devB]; omega)
    go_enter Try.func39, Try.ntmps39
    go_wp2_with fail
    go_ret
    exact ⟨by rw [HV.out]; rfl, rfl⟩
  case pos =>
    have HV := Go.Lib.hid (show devB zs = rngB (-500) 500 zs by unfold devB; rw [decide_eq_true h4, decide_eq_true h10]; rfl)
    rw [← HV.out] at HW
    go_enter Try.func39, Try.ntmps39
    go_wp2_with fail
    refine (HW.out).mono ?_
    rintro _ _ ⟨rfl, rfl⟩
    go_wp2_with fail
    go_ret
    exact ⟨rfl, rfl⟩
set_option maxRecDepth 100000 in
set_option maxHeartbeats 4000000 in
theorem implEff (A : Option Addr) (c : Nat) (s : List Int) (w : World) (L : Ls s A c w) :
    Calls Try.prog 26 #[.slice A s.length c] w (Just (.bool (effB s)) w) := by
  have HL := Go.Lib.hid L
  have hn := L.few
  clear L
  by_cases hl : 1 ≤ s.length
  case neg =>
    have HV := Go.Lib.hid (show effB s = false by simp [effB]; omega)
    have h00 : s.length = 0 := by omega
    go_enter Try.func26, Try.ntmps26
    go_wp2_with fail
    go_ret
    exact ⟨by rw [HV.out]; rfl, rfl⟩
  case pos =>
  by_cases h3 : (s.length : Int) ≤ 3
  case neg =>
    have HV := Go.Lib.hid (show effB s = false by simp [effB]; omega)
    go_enter Try.func26, Try.ntmps26
    go_wp2_with fail
    go_ret
    exact ⟨by rw [HV.out]; rfl, rfl⟩
  case pos =>
  have hl0 : (0 : Int) < s.length := by omega
  have hl1 : (1 : Int) ≤ s.length := by omega
  have hne : ¬ s = [] := by rintro rfl; simp at hl
  go_enter Try.func26, Try.ntmps26
  go_wp2_with fail
  go_loopw [15] (fun i wr => ∃ k : Nat, k ≤ s.length ∧ i = .int .i64 k ∧ wr = w ∧ rngB (0) 20 s = rngB (0) 20 (s.drop k)) (fun i _ => s.length - (intOf i).toNat)
  case atStart => exact ⟨0, Nat.zero_le _, rfl, rfl, rfl⟩
  case round =>
    obtain ⟨k, hk, rfl, rfl, he⟩ := hrel
    have HE := Go.Lib.hid he
    clear he
    by_cases hlt : k < s.length
    case pos =>
      obtain ⟨b, o, rfl, -, hc⟩ := HL.out.at_ hlt
      have hcell := hc k hlt
      have HI := Go.Lib.hid (implInR (s.getD k 0) 0 20 wr)
      by_cases hin : 0 ≤ s.getD k 0 ∧ s.getD k 0 ≤ 20
      case pos =>
        have HS := Go.Lib.hid (rngB_step hlt hin HE.out)
        rw [inB_iff.2 hin] at HI
        clear hc hin HE
        generalize s.getD k 0 = y at *
        go_wp2_with fail
        refine HI.out.mono ?_
        rintro _ _ ⟨rfl, rfl⟩
        go_wp2_with fail
        go_roundw
        case rel => exact ⟨k + 1, by omega, by go_num, by first | rfl | trivial, HS.out⟩
        case measure => simp [intOf]; omega
      case neg =>
        have HM := Go.Lib.hid (rngB_miss hlt hin)
        have e : inB (s.getD k 0) (0) 20 = false := by rw [← Bool.not_eq_true, inB_iff]; exact hin
        rw [e] at HI
        clear hc hin HE e
        generalize s.getD k 0 = y at *
        go_wp2_with fail
        refine HI.out.mono ?_
        rintro _ _ ⟨rfl, rfl⟩
        go_wp2_with fail
        have HM2 := Go.Lib.hid (show effB s = false by simp [effB, HM.out])
        go_ret
        exact ⟨by rw [HM2.out]; rfl, rfl⟩
    case neg =>
      have HR := Go.Lib.hid (rngB_end (by omega) HE.out)
      clear HE
      obtain ⟨b, o, rfl, -, hcs⟩ := HL.out.at_ hl
      have hcell : wr.cell? ⟨b, o, none⟩ = some (.int .i64 (s.getD 0 0)) := hcs 0 hl
      obtain rfl : k = s.length := by omega
      have HV := Go.Lib.hid (show effB s = decide (0 < s.getD 0 0) by simp only [effB, HR.out, Bool.and_true]; rw [decide_eq_true hl1, decide_eq_true h3]; rfl)
      clear hcs
      generalize s.getD 0 0 = x at *
      go_wp2_with fail
      go_ret
      exact ⟨by rw [HV.out]; rfl, rfl⟩
set_option maxRecDepth 100000 in
set_option maxHeartbeats 4000000 in
theorem implSq (A : Option Addr) (c : Nat) (zs : List Int) (w : World) (L : Ls zs A c w) (hb : Bd 10000000 zs) (hl : zs.length ≤ 100) :
    Calls Try.prog 76 #[.slice A zs.length c] w (IsV w (.int .i64 (sqS zs))) := by
  have HL := Go.Lib.hid L
  have hn := L.few
  clear L
  go_enter Try.func76, Try.ntmps76
  go_wp2_with fail
  go_loopw [3, 8] (fun t i wr => ∃ k : Nat, k ≤ zs.length ∧ i = .int .i64 k ∧ t = .int .i64 (sqTo zs k) ∧ Eqw w wr) (fun _ i _ => zs.length - (intOf i).toNat)
  case atStart => exact ⟨0, Nat.zero_le _, rfl, rfl, Eqw.refl _⟩
  case round =>
    obtain ⟨k, hk, rfl, rfl, hw⟩ := hrel
    have HW := Go.Lib.hid hw
    by_cases hlt : k < zs.length
    case pos =>
      obtain ⟨b, o, rfl, -, hc⟩ := (HL.out.eqw hw).at_ hlt
      have hcell := hc k hlt
      have hs := sqTo_bd hb k
      have hx := hb k
      have hq := sq_bd hx.1 hx.2
      have HS := Go.Lib.hid (show sqTo zs (k + 1) = sqTo zs k + zs.getD k 0 * zs.getD k 0 from rfl)
      clear hc hb hw hx
      generalize zs.getD k 0 = x at *
      generalize sqTo zs k = t at *
      obtain ⟨s0, s1⟩ := hs
      obtain ⟨q0, q1⟩ := hq
      have e1 : IntKind.i64.wrap (x * x) = x * x := IntWalk.i64_in _ (by omega)
      have e2 : IntKind.i64.wrap (t + x * x) = t + x * x := IntWalk.i64_in _ (by omega)
      have hkl : (k : Int) < zs.length := by omega
      go_wp2_with fail
      go_roundw
      case rel => exact ⟨k + 1, by omega, by go_num, by rw [HS.out], by first | exact HW.out | exact HW.out.drewN _⟩
      case measure => simp [intOf]; omega
    case neg =>
      obtain rfl : k = zs.length := by omega
      have HV := Go.Lib.hid (show sqS zs = sqTo zs zs.length from rfl)
      clear hw
      go_wp2_with fail
      go_ret
      exact ⟨by rw [HV.out]; rfl, HW.out.below⟩
end Go.Proofs.Ytpcaakmcjdginaa
