/- The model: turns of one spoke alone. -/
import Derived.Test.YtpcaakmcjdginabTur
namespace Go.Proofs.Ytpcaakmcjdginab
open Go.RowKit
set_option linter.unusedSimpArgs false
set_option linter.unusedVariables false

theorem made_zero {w1 : World} {base g n : Nat} (h : w1.ownsRow base 2 1 (.slice (some ⟨g, 0, none⟩) n n) n (madeCells (Value.int IntKind.i64 0).cells (n * 1)).toList) : Ow w1 base w1.heap.size 2 (some ⟨g, 0, none⟩) n n (ints (List.replicate n 0)) := by
  rw [Nat.mul_one, show (madeCells (Value.int IntKind.i64 0).cells n).toList = List.replicate n (.int .i64 0) from toList_madeCells_one _ _, ints_zeros] at h
  exact ⟨h, fun g' hg' => (h.lt g' hg').2⟩
end Go.Proofs.Ytpcaakmcjdginab
