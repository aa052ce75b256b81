/- The program's usable gears, and how many they are. -/
import Derived.Test.YthedanpldebjcaaShiftS6
import Derived.Test.YthedanpldebjcaaShP4
namespace Go.Proofs.Ythedanpldebjcaa
open Go.RowKit
theorem usableR_few (x : Trn) (lm : Int) : (usableR x lm).1.length ≤ 1000000 := by
  unfold usableR
  split
  · have h1 := usable_few x lm
    have h2 := ordI_few (trainB_ok (code11_ok (by assumption)).1)
    show (rowsG _).length ≤ _
    rw [rowsG_len]
    omega
  · simp
end Go.Proofs.Ythedanpldebjcaa
