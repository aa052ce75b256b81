/- The program: developments, speeds, cadences, the range. -/
import Derived.Test.YthedanpldebjcaaGearI3
namespace Go.Proofs.Ythedanpldebjcaa
open Go.RowKit
section
end
set_option linter.unusedSimpArgs false
set_option linter.unusedVariables false

theorem code9_or {x : Trn} {f r : Int} (h : ¬ (trainB x = true ∧ gearB x f r = true)) : (code9 x f r = 1 ∨ code9 x f r = 2) ∧ gearAtV x f r = gV 0 0 0 0 := by
  unfold code9 gearAtV
  by_cases ht : trainB x = true
  · have hg : ¬ gearB x f r = true := fun hg => h ⟨ht, hg⟩
    simp [ht, hg]
  · simp [ht]
theorem cadTo_at (x : Trn) (g : Gr) (s : Int) (k : Nat) (h : k < 201) : cadTo x g s (k : Int) (201 - k) = if s ≤ speedI x g (k : Int) then ((k : Int), 0) else cadTo x g s ((k + 1 : Nat) : Int) (201 - (k + 1)) := by
  rw [show 201 - k = (201 - (k + 1)) + 1 by omega]
  rfl
theorem code9_ok {x : Trn} {f r : Int} (ht : trainB x = true) (hg : gearB x f r = true) : code9 x f r = 0 ∧ gearAtV x f r = gV f r (fI x f.toNat) (rI x r.toNat) := by
  unfold code9 gearAtV
  simp [ht, hg]
end Go.Proofs.Ythedanpldebjcaa
