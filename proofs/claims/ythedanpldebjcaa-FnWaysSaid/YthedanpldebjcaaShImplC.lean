/- The program's ways, and how long they are. -/
import Derived.Test.YthedanpldebjcaaShiftS4
import Derived.Test.YthedanpldebjcaaShP6
namespace Go.Proofs.Ythedanpldebjcaa
open Go.RowKit
theorem shortR_few (x : Trn) (lm f r tf tr : Int) : (shortR x lm f r tf tr).1.length ≤ 1000000 := by
  unfold shortR
  split
  · split
    · split
      · simp
      · rename_i h1 h2 h3
        obtain ⟨ht, hg, -⟩ := code11_ok h1
        have hx := trainB_ok ht
        have ha : okG x lm (f, r) = true := okG_of hg (by simp only [Bool.or_eq_true, not_or, Bool.not_eq_true] at h3; exact h3.1)
        have hb := bfEnd_ok hx ha
        unfold wayOf
        split
        · have h36 := ordI_few hx
          have hj : (bfEnd x lm (f, r)).seen.findIdx (· == (tf, tr)) < (bfEnd x lm (f, r)).seen.length := List.findIdx_lt_length_of_exists ⟨_, by simpa using (by assumption : (bfEnd x lm (f, r)).seen.contains (tf, tr) = true), by simp⟩
          exact Nat.le_trans (way_few ha (ordI x).length _ hj) (by omega)
        · simp
    · simp
  · simp
end Go.Proofs.Ythedanpldebjcaa
