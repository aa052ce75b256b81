/- The program: sums, means, absolute numbers. -/
import Derived.Test.YtpcaakmcjdginabTenB
import Derived.Test.YtpcaakmcjdginabPlainTen2
import Derived.Lib.MinMax
namespace Go.Proofs.Ytpcaakmcjdginab
open Go.RowKit
set_option linter.unusedSimpArgs false
set_option linter.unusedVariables false

set_option maxRecDepth 100000 in
set_option maxHeartbeats 4000000 in
theorem implSum (A : Option Addr) (c : Nat) (zs : List Int) (w : World) (L : Ls zs A c w) (hr : rngB (-3000) 3000 zs = true) :
    Calls Try.prog 52 #[.slice A zs.length c] w (Just (.int .i64 zs.sum) w) := by
  have HL := Go.Lib.hid L
  have HR := Go.Lib.hid hr
  have hn := L.few
  clear L hr
  go_enter Try.func52, Try.ntmps52
  go_wp2_with fail
  go_loopw [3, 8] (fun t i wr => ∃ k : Nat, k ≤ zs.length ∧ i = .int .i64 k ∧ wr = w ∧ t = .int .i64 (zs.take k).sum) (fun _ i _ => zs.length - (intOf i).toNat)
  case atStart => exact ⟨0, Nat.zero_le _, rfl, rfl, by simp⟩
  case round =>
    obtain ⟨k, hk, rfl, rfl, rfl⟩ := hrel
    by_cases hlt : k < zs.length
    case pos =>
      obtain ⟨b, o, rfl, -, hc⟩ := HL.out.at_ hlt
      have hcell := hc k hlt
      have HS := Go.Lib.hid (sum_take_succ hlt)
      have hb := sum_take_bd HR.out k hk
      have hx := rngB_at HR.out hlt
      clear hc
      generalize zs.getD k 0 = x at *
      generalize (zs.take k).sum = t at *
      obtain ⟨hb0, hb1⟩ := hb
      obtain ⟨hx0, hx1⟩ := hx
      go_wp2_with fail
      go_roundw
      case rel => exact ⟨k + 1, by omega, by go_num, by first | rfl | trivial, by rw [HS.out]⟩
      case measure => simp [intOf]; omega
    case neg =>
      obtain rfl : k = zs.length := by omega
      rw [List.take_length]
      go_wp2_with fail
      go_ret
      exact ⟨rfl, rfl⟩
theorem meanI_half2 (zs : List Int) : meanI zs = (zs.sum + (zs.length : Int) / 2) / zs.length := by
  unfold meanI
  rw [← Int.ediv_ediv_of_nonneg (by omega)]
  congr 1
  omega
set_option maxRecDepth 100000 in
set_option maxHeartbeats 4000000 in
theorem implNear (n d : Int) (w : World) (hd : 0 < d) (hd2 : d ≤ 1000000000000) (h0 : -2000000000000000000 ≤ n) (h1 : n ≤ 2000000000000000000) : Calls Try.prog 69 #[.int .i64 n, .int .i64 d] w (Just (.int .i64 ((n + d / 2) / d)) w) := by
  have HD := Go.Lib.hid (implDown (n + d / 2) d w (by omega) (by omega) (by omega) (by omega))
  have h2 : d.tdiv 2 = d / 2 := Int.tdiv_eq_ediv_of_nonneg (by omega)
  have e1 : IntKind.i64.wrap (d / 2) = d / 2 := IntWalk.i64_in _ (by omega)
  have e2 : IntKind.i64.wrap (n + d / 2) = n + d / 2 := IntWalk.i64_in _ (by omega)
  clear hd hd2 h0 h1
  go_enter Try.func69, Try.ntmps69
  go_wp2_with fail
  refine HD.out.mono ?_
  rintro _ _ ⟨rfl, rfl⟩
  go_wp2_with fail
  go_ret
  exact ⟨rfl, rfl⟩
set_option maxRecDepth 100000 in
set_option maxHeartbeats 4000000 in
theorem implMeanG (A : Option Addr) (c : Nat) (zs : List Int) (w : World) (L : Ls zs A c w) (hr : rngB (-3000) 3000 zs = true) (h1 : 1 ≤ zs.length) :
    Calls Try.prog 59 #[.slice A zs.length c] w (Just (.int .i64 (meanI zs)) w) := by
  have hs := sum_bd' hr
  have hn := L.few
  have HS := Go.Lib.hid (implSum A c zs w L hr)
  have HN := Go.Lib.hid (implNear zs.sum zs.length w (by omega) (by omega) (by omega) (by omega))
  rw [← meanI_half2 zs] at HN
  clear hr hs L h1
  generalize zs.sum = t at *
  generalize meanI zs = m at *
  go_enter Try.func59, Try.ntmps59
  go_wp2_with fail
  refine (HS.out).mono ?_
  rintro _ _ ⟨rfl, rfl⟩
  go_wp2_with fail
  refine (HN.out).mono ?_
  rintro _ _ ⟨rfl, rfl⟩
  go_wp2_with fail
  go_ret
  exact ⟨rfl, rfl⟩
set_option maxRecDepth 100000 in
set_option maxHeartbeats 4000000 in
theorem implAbs (n : Int) (w : World) (h0 : -1000000000000000000 ≤ n) (h1 : n ≤ 1000000000000000000) : Calls Try.prog 63 #[.int .i64 n] w (Just (.int .i64 (max n (-n))) w) := by
  go_enter Try.func63, Try.ntmps63
  go_wp2_with fail
  go_ret
  exact ⟨rfl, rfl⟩
end Go.Proofs.Ytpcaakmcjdginab
