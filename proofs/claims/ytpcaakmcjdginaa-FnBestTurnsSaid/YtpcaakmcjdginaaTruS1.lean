/- The model: deviations, effects, codes. -/
import Derived.Test.YtpcaakmcjdginaaTenB
import Derived.Test.YtpcaakmcjdginaaPlainTru
namespace Go.Proofs.Ytpcaakmcjdginaa
open Go.RowKit
set_option linter.unusedSimpArgs false
set_option linter.unusedVariables false

set_option maxRecDepth 100000 in
set_option maxHeartbeats 4000000 in
theorem specDev (A : Option Addr) (c : Nat) (zs : List Int) (w : World) (L : Ls zs A c w) :
    Calls Try.prog 42 #[.slice A zs.length c] w (Just (.bool (devB zs)) w) := by
  have HL := Go.Lib.hid L
  have hn := L.few
  clear L
  go_enter Try.func42, Try.ntmps42
  go_wp2_with fail
  go_loopw [3] (fun i wr => ∃ k : Nat, k ≤ zs.length ∧ i = .int .i64 k ∧ wr = w ∧ rngB (-500) 500 zs = rngB (-500) 500 (zs.drop k)) (fun i _ => zs.length - (intOf i).toNat)
  case atStart => exact ⟨0, Nat.zero_le _, rfl, rfl, rfl⟩
  case round =>
    obtain ⟨k, hk, rfl, rfl, he⟩ := hrel
    have HE := Go.Lib.hid he
    clear he
    by_cases hlt : k < zs.length
    case pos =>
      obtain ⟨b, o, rfl, -, hc⟩ := HL.out.at_ hlt
      have hcell := hc k hlt
      have HI := Go.Lib.hid (inN2 (zs.getD k 0) (-500) 500 wr)
      by_cases hin : -500 ≤ zs.getD k 0 ∧ zs.getD k 0 ≤ 500
      case pos =>
        have HS := Go.Lib.hid (rngB_step hlt hin HE.out)
        rw [inB_iff.2 hin] at HI
        clear hc hin HE
        generalize zs.getD k 0 = y at *
        go_wp2_with fail
        refine HI.out.mono ?_
        rintro _ _ ⟨rfl, rfl⟩
        go_wp2_with fail
        go_roundw
        case rel => exact ⟨k + 1, by omega, by go_num, by first | rfl | trivial, HS.out⟩
        case measure => simp [intOf]; omega
      case neg =>
        have HM := Go.Lib.hid (rngB_miss hlt hin)
        have e : inB (zs.getD k 0) (-500) 500 = false := by rw [← Bool.not_eq_true, inB_iff]; exact hin
        rw [e] at HI
        clear hc hin HE e
        generalize zs.getD k 0 = y at *
        go_wp2_with fail
        refine HI.out.mono ?_
        rintro _ _ ⟨rfl, rfl⟩
        go_wp2_with fail
        have HM2 := Go.Lib.hid (show devB zs = false by simp [devB, HM.out])
        go_ret
        exact ⟨by rw [HM2.out]; rfl, rfl⟩
    case neg =>
      have HR := Go.Lib.hid (rngB_end (by omega) HE.out)
      clear HE
      have HV := Go.Lib.hid (show inB zs.length 4 10 = devB zs by simp [devB, inB, HR.out])
      have HI := Go.Lib.hid (inN2 zs.length 4 10 wr)
      rw [HV.out] at HI
      obtain rfl : k = zs.length := by omega
      go_wp2_with fail
      refine HI.out.mono ?_
      rintro _ _ ⟨rfl, rfl⟩
      go_wp2_with fail
      go_ret
      exact ⟨rfl, rfl⟩
set_option maxRecDepth 100000 in
set_option maxHeartbeats 4000000 in
theorem specEff (A : Option Addr) (c : Nat) (s : List Int) (w : World) (L : Ls s A c w) :
    Calls Try.prog 27 #[.slice A s.length c] w (Just (.bool (effB s)) w) := by
  have HL := Go.Lib.hid L
  have hn := L.few
  clear L
  go_enter Try.func27, Try.ntmps27
  go_wp2_with fail
  go_loopw [3] (fun i wr => ∃ k : Nat, k ≤ s.length ∧ i = .int .i64 k ∧ wr = w ∧ rngB (0) 20 s = rngB (0) 20 (s.drop k)) (fun i _ => s.length - (intOf i).toNat)
  case atStart => exact ⟨0, Nat.zero_le _, rfl, rfl, rfl⟩
  case round =>
    obtain ⟨k, hk, rfl, rfl, he⟩ := hrel
    have HE := Go.Lib.hid he
    clear he
    by_cases hlt : k < s.length
    case pos =>
      obtain ⟨b, o, rfl, -, hc⟩ := HL.out.at_ hlt
      have hcell := hc k hlt
      have HI := Go.Lib.hid (inN2 (s.getD k 0) 0 20 wr)
      by_cases hin : 0 ≤ s.getD k 0 ∧ s.getD k 0 ≤ 20
      case pos =>
        have HS := Go.Lib.hid (rngB_step hlt hin HE.out)
        rw [inB_iff.2 hin] at HI
        clear hc hin HE
        generalize s.getD k 0 = y at *
        go_wp2_with fail
        refine HI.out.mono ?_
        rintro _ _ ⟨rfl, rfl⟩
        go_wp2_with fail
        go_roundw
        case rel => exact ⟨k + 1, by omega, by go_num, by first | rfl | trivial, HS.out⟩
        case measure => simp [intOf]; omega
      case neg =>
        have HM := Go.Lib.hid (rngB_miss hlt hin)
        have e : inB (s.getD k 0) (0) 20 = false := by rw [← Bool.not_eq_true, inB_iff]; exact hin
        rw [e] at HI
        clear hc hin HE e
        generalize s.getD k 0 = y at *
        go_wp2_with fail
        refine HI.out.mono ?_
        rintro _ _ ⟨rfl, rfl⟩
        go_wp2_with fail
        have HM2 := Go.Lib.hid (show effB s = false by simp [effB, HM.out])
        go_ret
        exact ⟨by rw [HM2.out]; rfl, rfl⟩
    case neg =>
      have HR := Go.Lib.hid (rngB_end (by omega) HE.out)
      clear HE
      obtain rfl : k = s.length := by omega
      have HI := Go.Lib.hid (inN2 s.length 1 3 wr)
      by_cases h14 : 1 ≤ (s.length : Int) ∧ (s.length : Int) ≤ 3
      case neg =>
        have e : inB s.length 1 3 = false := by rw [← Bool.not_eq_true, inB_iff]; exact h14
        have HV := Go.Lib.hid (show effB s = false by rw [← Bool.not_eq_true, effB_iff]; exact fun h => h14 ⟨by have := h.lo; omega, by have := h.hi; omega⟩)
        rw [e] at HI
        clear e h14
        go_wp2_with fail
        refine HI.out.mono ?_
        rintro _ _ ⟨rfl, rfl⟩
        go_wp2_with fail
        go_ret
        exact ⟨by rw [HV.out]; rfl, rfl⟩
      case pos =>
        rw [inB_iff.2 h14] at HI
        obtain ⟨l1, l4⟩ := h14
        have hl : 1 ≤ s.length := by omega
        obtain ⟨b, o, rfl, -, hcs⟩ := HL.out.at_ hl
        have hcell : wr.cell? ⟨b, o, none⟩ = some (.int .i64 (s.getD 0 0)) := hcs 0 hl
        have hl0 : (0 : Int) < s.length := by omega
        have hne : ¬ s = [] := by rintro rfl; simp at hl
        have HV := Go.Lib.hid (show effB s = decide (0 < s.getD 0 0) by simp only [effB, HR.out, Bool.and_true]; rw [decide_eq_true l1, decide_eq_true l4]; rfl)
        clear hcs
        generalize s.getD 0 0 = x at *
        go_wp2_with fail
        refine HI.out.mono ?_
        rintro _ _ ⟨rfl, rfl⟩
        go_wp2_with fail
        go_ret
        exact ⟨by rw [HV.out]; rfl, rfl⟩
set_option maxRecDepth 100000 in
set_option maxHeartbeats 4000000 in
theorem specPlanOk (A : Option Addr) (c : Nat) (ts : List Int) (w : World) (L : Ls ts A c w) :
    Calls Try.prog 60 #[.slice A ts.length c] w (Just (.bool (rngB (-100) 100 ts)) w) := by
  have HL := Go.Lib.hid L
  have hn := L.few
  clear L
  go_enter Try.func60, Try.ntmps60
  go_wp2_with fail
  go_loopw [3] (fun i wr => ∃ k : Nat, k ≤ ts.length ∧ i = .int .i64 k ∧ wr = w ∧ rngB (-100) 100 ts = rngB (-100) 100 (ts.drop k)) (fun i _ => ts.length - (intOf i).toNat)
  case atStart => exact ⟨0, Nat.zero_le _, rfl, rfl, rfl⟩
  case round =>
    obtain ⟨k, hk, rfl, rfl, he⟩ := hrel
    have HE := Go.Lib.hid he
    clear he
    by_cases hlt : k < ts.length
    case pos =>
      obtain ⟨b, o, rfl, -, hc⟩ := HL.out.at_ hlt
      have hcell := hc k hlt
      have HI := Go.Lib.hid (inN2 (ts.getD k 0) (-100) 100 wr)
      by_cases hin : -100 ≤ ts.getD k 0 ∧ ts.getD k 0 ≤ 100
      case pos =>
        have HS := Go.Lib.hid (rngB_step hlt hin HE.out)
        rw [inB_iff.2 hin] at HI
        clear hc hin HE
        generalize ts.getD k 0 = y at *
        go_wp2_with fail
        refine HI.out.mono ?_
        rintro _ _ ⟨rfl, rfl⟩
        go_wp2_with fail
        go_roundw
        case rel => exact ⟨k + 1, by omega, by go_num, by first | rfl | trivial, HS.out⟩
        case measure => simp [intOf]; omega
      case neg =>
        have HM := Go.Lib.hid (rngB_miss hlt hin)
        have e : inB (ts.getD k 0) (-100) 100 = false := by rw [← Bool.not_eq_true, inB_iff]; exact hin
        rw [e] at HI
        clear hc hin HE e
        generalize ts.getD k 0 = y at *
        go_wp2_with fail
        refine HI.out.mono ?_
        rintro _ _ ⟨rfl, rfl⟩
        go_wp2_with fail
        go_ret
        exact ⟨by rw [HM.out]; rfl, rfl⟩
    case neg =>
      have HR := Go.Lib.hid (rngB_end (by omega) HE.out)
      clear HE
      obtain rfl : k = ts.length := by omega
      go_wp2_with fail
      go_ret
      exact ⟨by rw [HR.out]; rfl, rfl⟩
set_option maxRecDepth 100000 in
set_option maxHeartbeats 4000000 in
theorem specTrueB (A : Option Addr) (c : Nat) (zs : List Int) (t : Int) (w : World) (L : Ls zs A c w) (hb : Bd 10000000 zs) :
    Calls Try.prog 71 #[.slice A zs.length c, .int .i64 t] w (Just (.bool (trueB zs t)) w) := by
  have HL := Go.Lib.hid L
  have hn := L.few
  clear L
  go_enter Try.func71, Try.ntmps71
  go_wp2_with fail
  go_loopw [5] (fun i wr => ∃ k : Nat, k ≤ zs.length ∧ i = .int .i64 k ∧ wr = w ∧ trueB zs t = trueB (zs.drop k) t) (fun i _ => zs.length - (intOf i).toNat)
  case atStart => exact ⟨0, Nat.zero_le _, rfl, rfl, rfl⟩
  case round =>
    obtain ⟨k, hk, rfl, rfl, he⟩ := hrel
    have HE := Go.Lib.hid he
    clear he
    by_cases hlt : k < zs.length
    case pos =>
      obtain ⟨b, o, rfl, -, hc⟩ := HL.out.at_ hlt
      have hcell := hc k hlt
      obtain ⟨x0, x1⟩ := hb k
      have HI := Go.Lib.hid (specAbs (zs.getD k 0) wr (by omega) (by omega))
      by_cases hin : max (zs.getD k 0) (-(zs.getD k 0)) ≤ t
      case pos =>
        have HS := Go.Lib.hid (trueB_step hlt hin HE.out)
        have hin2 : ¬ t < max (zs.getD k 0) (-(zs.getD k 0)) := by omega
        clear hc HE hb hin
        generalize zs.getD k 0 = y at *
        go_wp2_with fail
        refine HI.out.mono ?_
        rintro _ _ ⟨rfl, rfl⟩
        go_wp2_with fail
        go_roundw
        case rel => exact ⟨k + 1, by omega, by go_num, by first | rfl | trivial, HS.out⟩
        case measure => simp [intOf]; omega
      case neg =>
        have HM := Go.Lib.hid (trueB_miss hlt hin)
        have hin2 : t < max (zs.getD k 0) (-(zs.getD k 0)) := by omega
        clear hc HE hb hin
        generalize zs.getD k 0 = y at *
        go_wp2_with fail
        refine HI.out.mono ?_
        rintro _ _ ⟨rfl, rfl⟩
        go_wp2_with fail
        go_ret
        exact ⟨by rw [HM.out]; rfl, rfl⟩
    case neg =>
      have HR := Go.Lib.hid (trueB_end (by omega) HE.out)
      clear HE
      go_wp2_with fail
      go_ret
      exact ⟨by rw [HR.out]; rfl, rfl⟩
set_option maxRecDepth 100000 in
set_option maxHeartbeats 4000000 in
theorem specSq (A : Option Addr) (c : Nat) (zs : List Int) (w : World) (L : Ls zs A c w) (hb : Bd 10000000 zs) (hl : zs.length ≤ 100) :
    Calls Try.prog 77 #[.slice A zs.length c] w (IsV w (.int .i64 (sqS zs))) := by
  have HL := Go.Lib.hid L
  have hn := L.few
  clear L
  go_enter Try.func77, Try.ntmps77
  go_wp2_with fail
  go_loopw [3, 4] (fun t i wr => ∃ k : Nat, k ≤ zs.length ∧ i = .int .i64 k ∧ t = .int .i64 (sqTo zs k) ∧ Eqw w wr) (fun _ i _ => zs.length - (intOf i).toNat)
  case atStart => exact ⟨0, Nat.zero_le _, rfl, rfl, Eqw.refl _⟩
  case round =>
    obtain ⟨k, hk, rfl, rfl, hw⟩ := hrel
    have HW := Go.Lib.hid hw
    by_cases hlt : k < zs.length
    case pos =>
      obtain ⟨b, o, rfl, -, hc⟩ := (HL.out.eqw hw).at_ hlt
      have hcell := hc k hlt
      have hs := sqTo_bd hb k
      have hx := hb k
      have hq := sq_bd hx.1 hx.2
      have HS := Go.Lib.hid (show sqTo zs (k + 1) = sqTo zs k + zs.getD k 0 * zs.getD k 0 from rfl)
      clear hc hb hw hx
      generalize zs.getD k 0 = x at *
      generalize sqTo zs k = t at *
      obtain ⟨s0, s1⟩ := hs
      obtain ⟨q0, q1⟩ := hq
      have e1 : IntKind.i64.wrap (x * x) = x * x := IntWalk.i64_in _ (by omega)
      have e2 : IntKind.i64.wrap (t + x * x) = t + x * x := IntWalk.i64_in _ (by omega)
      have hkl : (k : Int) < zs.length := by omega
      go_upto_region 5 with fail
      go_quiet (fail)
      go_wp2_with fail
      go_roundw
      case rel => exact ⟨k + 1, by omega, by go_num, by rw [HS.out], HW.out.drewN _⟩
      case measure => simp [intOf]; omega
    case neg =>
      obtain rfl : k = zs.length := by omega
      have HV := Go.Lib.hid (show sqS zs = sqTo zs zs.length from rfl)
      clear hw
      go_wp2_with fail
      go_ret
      exact ⟨by rw [HV.out]; rfl, HW.out.below⟩
set_option maxRecDepth 100000 in
set_option maxHeartbeats 4000000 in
theorem specCode8 (A : Option Addr) (c : Nat) (zs : List Int) (B : Option Addr) (b : Nat) (e : List Int) (t : Int) (w : World) (L : Ls zs A c w) (L2 : Ls e B b w) :
    Calls Try.prog 54 #[.slice A zs.length c, .slice B e.length b, .int .i64 t] w (Just (.int .i64 (code8 zs e t)) w) := by
  have HD := Go.Lib.hid (specDev A c zs w L)
  have HE := Go.Lib.hid (specEff B b e w L2)
  have HI := Go.Lib.hid (inN2 t 0 500 w)
  clear L L2
  by_cases hd : devB zs = true
  case neg =>
    have HV := Go.Lib.hid (show code8 zs e t = 1 by simp [code8, hd])
    rw [Bool.not_eq_true] at hd
    rw [hd] at HD
    clear hd
    go_enter Try.func54, Try.ntmps54
    go_wp2_with fail
    refine (HD.out).mono ?_
    rintro _ _ ⟨rfl, rfl⟩
    go_wp2_with fail
    go_ret
    exact ⟨by rw [HV.out]; rfl, rfl⟩
  case pos =>
  rw [hd] at HD
  by_cases he : effB e = true
  case neg =>
    have HV := Go.Lib.hid (show code8 zs e t = 1 by simp [code8, he])
    rw [Bool.not_eq_true] at he
    rw [he] at HE
    clear hd he
    go_enter Try.func54, Try.ntmps54
    go_wp2_with fail
    refine (HD.out).mono ?_
    rintro _ _ ⟨rfl, rfl⟩
    go_wp2_with fail
    refine (HE.out).mono ?_
    rintro _ _ ⟨rfl, rfl⟩
    go_wp2_with fail
    go_ret
    exact ⟨by rw [HV.out]; rfl, rfl⟩
  case pos =>
  rw [he] at HE
  by_cases ht : 0 ≤ t ∧ t ≤ 500
  case neg =>
    have e2 : (decide (0 ≤ t) && decide (t ≤ 500)) = false := by rw [← Bool.not_eq_true]; simpa using ht
    have HV := Go.Lib.hid (show code8 zs e t = 2 by simp only [code8, hd, he, e2]; rfl)
    rw [show inB t 0 500 = false from e2] at HI
    clear hd he ht e2
    go_enter Try.func54, Try.ntmps54
    go_wp2_with fail
    refine (HD.out).mono ?_
    rintro _ _ ⟨rfl, rfl⟩
    go_wp2_with fail
    refine (HE.out).mono ?_
    rintro _ _ ⟨rfl, rfl⟩
    go_wp2_with fail
    refine (HI.out).mono ?_
    rintro _ _ ⟨rfl, rfl⟩
    go_wp2_with fail
    go_ret
    exact ⟨by rw [HV.out]; rfl, rfl⟩
  case pos =>
    have e2 : (decide (0 ≤ t) && decide (t ≤ 500)) = true := by simpa using ht
    have HV := Go.Lib.hid (show code8 zs e t = 0 by simp only [code8, hd, he, e2]; rfl)
    rw [show inB t 0 500 = true from e2] at HI
    clear hd he ht e2
    go_enter Try.func54, Try.ntmps54
    go_wp2_with fail
    refine (HD.out).mono ?_
    rintro _ _ ⟨rfl, rfl⟩
    go_wp2_with fail
    refine (HE.out).mono ?_
    rintro _ _ ⟨rfl, rfl⟩
    go_wp2_with fail
    refine (HI.out).mono ?_
    rintro _ _ ⟨rfl, rfl⟩
    go_wp2_with fail
    go_ret
    exact ⟨by rw [HV.out]; rfl, rfl⟩
end Go.Proofs.Ytpcaakmcjdginaa
