/- The program: sums, means, absolute numbers. -/
import Derived.Test.YtilepehlmjohbaaTenB
import Derived.Test.YtilepehlmjohbaaPlainTen2
import Derived.Lib.MinMax
namespace Go.Proofs.Ytilepehlmjohbaa
open Go.RowKit
set_option linter.unusedSimpArgs false
set_option linter.unusedVariables false
section
end

theorem meanI_half2 (zs : List Int) : meanI zs = (zs.sum + (zs.length : Int) / 2) / zs.length := by
  unfold meanI
  rw [← Int.ediv_ediv_of_nonneg (by omega)]
  congr 1
  omega
end Go.Proofs.Ytilepehlmjohbaa
