/- Chapter 9's lists are short. -/
import Derived.Test.YthedanpldebjcaaPlainGearU
namespace Go.Proofs.Ythedanpldebjcaa
theorem ordI_few {x : Trn} (h : Train x) : (ordI x).length ≤ 36 := by
  rw [ordI_len]
  have h1 := h.f.few
  have h2 := h.r.few
  exact Nat.le_trans (Nat.mul_le_mul (by omega : x.f.length ≤ 3) (by omega : x.r.length ≤ 12)) (by decide)
theorem stepsR_few (x : Trn) : (stepsR x).1.length ≤ 1000000 := by
  unfold stepsR
  split
  · have := ordI_few (trainB_ok (by assumption))
    show (stepsTo ..).length ≤ _
    rw [stepsTo_len]
    omega
  · simp
theorem orderR_few (x : Trn) : (orderR x).1.length ≤ 1000000 := by
  unfold orderR
  split
  · have := ordI_few (trainB_ok (by assumption))
    show (rowsG _).length ≤ _
    rw [rowsG_len]
    omega
  · simp
theorem equalR_few (x : Trn) : (equalR x).1.length ≤ 1000000 := by
  unfold equalR
  split
  · have := ordI_few (trainB_ok (by assumption))
    have h2 := equalTo_len x (ordI x) ((ordI x).length - 1)
    show (rowsG _).length ≤ _
    rw [rowsG_len]
    omega
  · simp
end Go.Proofs.Ythedanpldebjcaa
