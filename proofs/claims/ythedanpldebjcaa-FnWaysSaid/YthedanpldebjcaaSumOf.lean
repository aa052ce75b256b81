/- The program: sums, means, absolute numbers. -/
import Derived.Test.YthedanpldebjcaaTenB
import Derived.Test.YthedanpldebjcaaPlainTen2
import Derived.Lib.MinMax
namespace Go.Proofs.Ythedanpldebjcaa
open Go.RowKit
set_option linter.unusedSimpArgs false
set_option linter.unusedVariables false
section
end

theorem meanI_half2 (zs : List Int) : meanI zs = (zs.sum + (zs.length : Int) / 2) / zs.length := by
  unfold meanI
  rw [← Int.ediv_ediv_of_nonneg (by omega)]
  congr 1
  omega
set_option maxRecDepth 100000 in
set_option maxHeartbeats 4000000 in
theorem implAbs (n : Int) (w : World) (h0 : -1000000000000000000 ≤ n) (h1 : n ≤ 1000000000000000000) : Calls Try.prog 69 #[.int .i64 n] w (Just (.int .i64 (max n (-n))) w) := by
  go_enter Try.func69, Try.ntmps69
  go_wp2_with fail
  go_ret
  exact ⟨rfl, rfl⟩
end Go.Proofs.Ythedanpldebjcaa
