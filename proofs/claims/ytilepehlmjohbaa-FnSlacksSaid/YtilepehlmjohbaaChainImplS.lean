/- The program's functions of chapter 10, together with the model's. -/
import Derived.Test.YtilepehlmjohbaaChI3
import Derived.Test.YtilepehlmjohbaaChI4
import Derived.Test.YtilepehlmjohbaaChainS4
import Derived.Test.YtilepehlmjohbaaMgSlacks1
namespace Go.Proofs.Ytilepehlmjohbaa
open Go.RowKit
theorem slacksR_few (x : Trn) (s l : Int) : (slacksR x s l).1.length ≤ 1000000 := by
  unfold slacksR
  split
  · have := ordI_few (trainB_ok (by assumption))
    split
    · show (slacksOf ..).length ≤ _
      rw [slacksOf_len]
      omega
    · simp
  · simp
end Go.Proofs.Ytilepehlmjohbaa
