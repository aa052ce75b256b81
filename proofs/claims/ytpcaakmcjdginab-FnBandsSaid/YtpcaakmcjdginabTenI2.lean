/- The program: a stiffness, means, quotients. -/
import Derived.Test.YtpcaakmcjdginabTenI1
import Derived.Test.YtpcaakmcjdginabPlainTen2
import Derived.Lib.MinMax
namespace Go.Proofs.Ytpcaakmcjdginab
open Go.RowKit
set_option linter.unusedSimpArgs false
set_option linter.unusedVariables false

set_option maxRecDepth 100000 in
set_option maxHeartbeats 4000000 in
theorem implPer (A : Option Addr) (c : Nat) (s : List Int) (w : World) (L : Ls s A c w) (hl : 1 ≤ s.length) (hr : rngB (-200) 200 s = true) (h4 : s.length ≤ 4) :
    Calls Try.prog 55 #[.slice A s.length c] w (Just (.int .i64 (gainI s)) w) := by
  have hc := L.le
  have HL := Go.Lib.hid L
  have HR := Go.Lib.hid hr
  have HP := Go.Lib.hid (fun (k : Nat) (hk : k ≤ s.length) => per_bd hr h4 hl hk)
  clear L hr
  obtain ⟨b, o, rfl, -, hcs0⟩ := HL.out.at_ hl
  have HCS := Go.Lib.hid hcs0
  have hcell : w.cell? ⟨b, o, none⟩ = some (.int .i64 (s.getD 0 0)) := hcs0 0 hl
  have hl0 : (0 : Int) < s.length := by omega
  have hl1 : (1 : Int) ≤ s.length := by omega
  have hlc : (s.length : Int) ≤ c := by omega
  have hne : ¬ s = [] := by rintro rfl; simp at hl
  have H0 := Go.Lib.hid (per_start (s := s) hl)
  have HE := Go.Lib.hid (fun (k : Nat) (hk : k + 1 = s.length) => per_end (s := s) (k := k) hk)
  clear hcs0
  by_cases hc1 : c = 1
  case pos =>
    have HV := Go.Lib.hid ((HE.out 0 (by omega)).symm.trans H0.out)
    subst hc1
    generalize s.getD 0 0 = x at *
    go_enter Try.func55, Try.ntmps55
    go_wp2_with fail
    go_loopw [3, 12] (fun t i wr => i = .int .i64 0 ∧ wr = w ∧ t = .int .i64 x) (fun _ i _ => 0)
    case atStart => exact ⟨rfl, rfl, rfl⟩
    case round =>
      obtain ⟨rfl, rfl, rfl⟩ := hrel
      go_wp2_with fail
      go_ret
      exact ⟨by rw [HV.out]; rfl, rfl⟩
  case neg =>
    have HS := Go.Lib.hid (fun (k : Nat) (hk : k + 1 < s.length) => per_succ (s := s) (k := k) hk)
    obtain ⟨m, hm⟩ : ∃ m, s.length - 1 = m := ⟨_, rfl⟩
    have hm2 : s.length = m + 1 := by omega
    generalize s.getD 0 0 = x at *
    go_enter Try.func55, Try.ntmps55
    go_wp2_with fail
    go_loopw [3, 12] (fun t i wr => ∃ k : Nat, k ≤ m ∧ i = .int .i64 k ∧ wr = w ∧ t = .int .i64 (2 * (s.take (k + 1)).sum - x)) (fun _ i _ => m - (intOf i).toNat)
    case atStart => exact ⟨0, Nat.zero_le _, rfl, rfl, by rw [H0.out]⟩
    case round =>
      obtain ⟨k, hk, rfl, rfl, rfl⟩ := hrel
      by_cases hlt : k < m
      case pos =>
        have hcell2 : wr.cell? ⟨b, o + 1 + k, none⟩ = some (.int .i64 (s.getD (k + 1) 0)) := by rw [show o + 1 + k = o + (k + 1) by omega]; exact HCS.out (k + 1) (by omega)
        have hx := rngB_at HR.out (k := k + 1) (by omega)
        have hb := HP.out (k + 1) (by omega)
        have HN := Go.Lib.hid (HS.out k (by omega))
        generalize s.getD (k + 1) 0 = y at *
        generalize 2 * (s.take (k + 1)).sum - x = t at *
        obtain ⟨hx0, hx1⟩ := hx
        obtain ⟨hb0, hb1⟩ := hb
        have e1 : IntKind.i64.wrap (2 * y) = 2 * y := IntWalk.i64_in _ (by omega)
        clear hm2
        go_wp2_with fail
        go_roundw
        case rel => exact ⟨k + 1, by omega, by go_num, by first | rfl | trivial, by rw [HN.out]⟩
        case measure => simp [intOf]; omega
      case neg =>
        obtain rfl : k = m := by omega
        have HV := Go.Lib.hid (HE.out k (by omega))
        rw [HV.out]
        go_wp2_with fail
        go_ret
        exact ⟨rfl, rfl⟩
set_option maxRecDepth 100000 in
set_option maxHeartbeats 4000000 in
theorem implStiff (A : Option Addr) (c : Nat) (s : List Int) (w : World) (L : Ls s A c w) :
    Calls Try.prog 18 #[.slice A s.length c] w (Just (.bool (stiffB s)) w) := by
  have HL := Go.Lib.hid L
  have hn := L.few
  clear L
  by_cases hl : 1 ≤ s.length
  case neg =>
    have HV := Go.Lib.hid (show stiffB s = false by simp [stiffB]; omega)
    have h00 : s.length = 0 := by omega
    go_enter Try.func18, Try.ntmps18
    go_wp2_with fail
    go_ret
    exact ⟨by rw [HV.out]; rfl, rfl⟩
  case pos =>
  by_cases h4 : s.length ≤ 4
  case neg =>
    have HV := Go.Lib.hid (show stiffB s = false by simp [stiffB]; omega)
    go_enter Try.func18, Try.ntmps18
    go_wp2_with fail
    go_ret
    exact ⟨by rw [HV.out]; rfl, rfl⟩
  case pos =>
  have hl0 : (0 : Int) < s.length := by omega
  have hl1 : (1 : Int) ≤ s.length := by omega
  have hne : ¬ s = [] := by rintro rfl; simp at hl
  go_enter Try.func18, Try.ntmps18
  go_wp2_with fail
  go_loopw [15] (fun i wr => ∃ k : Nat, k ≤ s.length ∧ i = .int .i64 k ∧ wr = w ∧ rngB (-200) 200 s = rngB (-200) 200 (s.drop k)) (fun i _ => s.length - (intOf i).toNat)
  case atStart => exact ⟨0, Nat.zero_le _, rfl, rfl, rfl⟩
  case round =>
    obtain ⟨k, hk, rfl, rfl, he⟩ := hrel
    have HE := Go.Lib.hid he
    clear he
    by_cases hlt : k < s.length
    case pos =>
      obtain ⟨b, o, rfl, -, hc⟩ := HL.out.at_ hlt
      have hcell := hc k hlt
      have HI := Go.Lib.hid (implInR (s.getD k 0) (-200) 200 wr)
      by_cases hin : -200 ≤ s.getD k 0 ∧ s.getD k 0 ≤ 200
      case pos =>
        have HS := Go.Lib.hid (rngB_step hlt hin HE.out)
        rw [inB_iff.2 hin] at HI
        clear hc hin HE
        generalize s.getD k 0 = y at *
        go_wp2_with fail
        refine HI.out.mono ?_
        rintro _ _ ⟨rfl, rfl⟩
        go_wp2_with fail
        go_roundw
        case rel => exact ⟨k + 1, by omega, by go_num, by first | rfl | trivial, HS.out⟩
        case measure => simp [intOf]; omega
      case neg =>
        have HM := Go.Lib.hid (rngB_miss hlt hin)
        have e : inB (s.getD k 0) (-200) 200 = false := by rw [← Bool.not_eq_true, inB_iff]; exact hin
        rw [e] at HI
        clear hc hin HE e
        generalize s.getD k 0 = y at *
        go_wp2_with fail
        refine HI.out.mono ?_
        rintro _ _ ⟨rfl, rfl⟩
        go_wp2_with fail
        have HM2 := Go.Lib.hid (show stiffB s = false by simp [stiffB, HM.out])
        go_ret
        exact ⟨by rw [HM2.out]; rfl, rfl⟩
    case neg =>
      have HR := Go.Lib.hid (rngB_end (by omega) HE.out)
      clear HE
      obtain ⟨b, o, rfl, -, hcs⟩ := HL.out.at_ hl
      have hcell : wr.cell? ⟨b, o, none⟩ = some (.int .i64 (s.getD 0 0)) := hcs 0 hl
      have HG := Go.Lib.hid (implPer (some ⟨b, o, none⟩) c s wr HL.out hl HR.out h4)
      obtain rfl : k = s.length := by omega
      by_cases h0 : 0 < s.getD 0 0
      case pos =>
        have HV := Go.Lib.hid (show stiffB s = decide (0 < gainI s) by simp only [stiffB, HR.out, decide_eq_true h0, Bool.true_and, Bool.and_true]; rw [decide_eq_true (show (1 : Int) ≤ s.length by omega), decide_eq_true (show (s.length : Int) ≤ 4 by omega)]; rfl)
        clear hcs
        generalize s.getD 0 0 = x at *
        generalize gainI s = g at *
        go_wp2_with fail
        refine HG.out.mono ?_
        rintro _ _ ⟨rfl, rfl⟩
        go_wp2_with fail
        go_ret
        exact ⟨by rw [HV.out]; rfl, rfl⟩
      case neg =>
        have HV := Go.Lib.hid (show stiffB s = false by simp [stiffB]; intro _ _ _ h; exact absurd h (by simpa [List.getD] using h0))
        clear hcs
        generalize s.getD 0 0 = x at *
        go_wp2_with fail
        go_ret
        exact ⟨by rw [HV.out]; rfl, rfl⟩
theorem implMeanI (A : Option Addr) (c : Nat) (zs : List Int) (w : World) (L : Ls zs A c w) (ht : Ten zs) :
    Calls Try.prog 59 #[.slice A zs.length c] w (Just (.int .i64 (meanI zs)) w) :=
  implMeanG A c zs w L (rngB_iff.2 fun z hz => by have := rngB_iff.1 ht.rng z hz; omega) (by have := ht.lo; omega)
set_option maxRecDepth 100000 in
set_option maxHeartbeats 4000000 in
theorem implUp (n d : Int) (w : World) (hd : 0 < d) (hd2 : d ≤ 10000) (h0 : -10000 ≤ n) (h1 : n ≤ 10000) : Calls Try.prog 60 #[.int .i64 n, .int .i64 d] w (Just (.int .i64 (upI n d)) w) := by
  have HD := Go.Lib.hid (implDown (-n) d w (by omega) (by omega) (by omega) (by omega))
  have HV := Go.Lib.hid (show upI n d = -((-n) / d) from rfl)
  have q0 : -10000 ≤ (-n) / d := (Int.le_ediv_iff_mul_le hd).2 (by rw [Int.neg_mul]; have := Int.mul_le_mul_of_nonneg_left (show (1 : Int) ≤ d by omega) (show (0 : Int) ≤ 10000 by omega); omega)
  have q1 : (-n) / d ≤ 10000 := by
    have : (-n) / d < 10001 := (Int.ediv_lt_iff_lt_mul hd).2 (by have := Int.mul_le_mul_of_nonneg_left (show (1 : Int) ≤ d by omega) (show (0 : Int) ≤ 10001 by omega); omega)
    omega
  generalize (-n) / d = q at *
  go_enter Try.func60, Try.ntmps60
  go_wp2_with fail
  refine HD.out.mono ?_
  rintro _ _ ⟨rfl, rfl⟩
  go_wp2_with fail
  go_ret
  exact ⟨by rw [HV.out]; rfl, rfl⟩
end Go.Proofs.Ytpcaakmcjdginab
