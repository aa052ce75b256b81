/- The program: sums, means, absolute numbers. -/
import Derived.Test.YtifblmcocikopaaTenB
import Derived.Test.YtifblmcocikopaaPlainTen2
import Derived.Lib.MinMax
namespace Go.Proofs.Ytifblmcocikopaa
open Go.RowKit
set_option linter.unusedSimpArgs false
set_option linter.unusedVariables false
section
end

theorem meanI_half2 (zs : List Int) : meanI zs = (zs.sum + (zs.length : Int) / 2) / zs.length := by
  unfold meanI
  rw [← Int.ediv_ediv_of_nonneg (by omega)]
  congr 1
  omega
set_option maxRecDepth 100000 in
set_option maxHeartbeats 4000000 in
theorem implNear (n d : Int) (w : World) (hd : 0 < d) (hd2 : d ≤ 1000000000000) (h0 : -2000000000000000000 ≤ n) (h1 : n ≤ 2000000000000000000) : Calls Try.prog 79 #[.int .i64 n, .int .i64 d] w (Just (.int .i64 ((n + d / 2) / d)) w) := by
  have HD := Go.Lib.hid (implDown (n + d / 2) d w (by omega) (by omega) (by omega) (by omega))
  have h2 : d.tdiv 2 = d / 2 := Int.tdiv_eq_ediv_of_nonneg (by omega)
  have e1 : IntKind.i64.wrap (d / 2) = d / 2 := IntWalk.i64_in _ (by omega)
  have e2 : IntKind.i64.wrap (n + d / 2) = n + d / 2 := IntWalk.i64_in _ (by omega)
  clear hd hd2 h0 h1
  go_enter Try.func79, Try.ntmps79
  go_wp2_with fail
  refine HD.out.mono ?_
  rintro _ _ ⟨rfl, rfl⟩
  go_wp2_with fail
  go_ret
  exact ⟨rfl, rfl⟩
set_option maxRecDepth 100000 in
set_option maxHeartbeats 4000000 in
theorem implAbs (n : Int) (w : World) (h0 : -1000000000000000000 ≤ n) (h1 : n ≤ 1000000000000000000) : Calls Try.prog 57 #[.int .i64 n] w (Just (.int .i64 (max n (-n))) w) := by
  go_enter Try.func57, Try.ntmps57
  go_wp2_with fail
  go_ret
  exact ⟨rfl, rfl⟩
end Go.Proofs.Ytifblmcocikopaa
