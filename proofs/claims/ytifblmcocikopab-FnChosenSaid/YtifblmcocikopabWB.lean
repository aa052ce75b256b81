/- A wheel in a block of the call's own, and what was there below it. No program. -/
import Derived.Test.YtifblmcocikopabHubS2
import Derived.Test.YtifblmcocikopabBox
import Derived.Deep.RegionHeld3
namespace Go.Proofs.Ytifblmcocikopab
open Go.RowKit

structure WB (w : World) (q : Nat) (x : Wh) (W : World) : Prop where
  box : Box W q [.int .i64 x.h.n, .int .i64 x.h.l, .int .i64 x.h.r, .int .i64 x.h.a, .int .i64 x.h.b, .int .i64 x.r.n, .int .i64 x.r.d, .int .i64 x.r.o, .int .i64 x.c]
  below : Below w.heap.size w W
section
variable {w W W1 : World} {q : Nat} {x : Wh}
theorem WB.next (c : WB w q x W) (hb : Below W.heap.size W W1) : WB w q x W1 := ⟨c.box.below hb, upB c.below hb⟩
theorem WB.drew (c : WB w q x W) : WB w q x W.drew := ⟨c.box.drew, c.below.drew⟩
theorem WB.cells (c : WB w q x W) : W.cell? ⟨q, 0, none⟩ = some (.int .i64 x.h.n) ∧ W.cell? ⟨q, 1, none⟩ = some (.int .i64 x.h.l) ∧ W.cell? ⟨q, 2, none⟩ = some (.int .i64 x.h.r) ∧ W.cell? ⟨q, 3, none⟩ = some (.int .i64 x.h.a) ∧ W.cell? ⟨q, 4, none⟩ = some (.int .i64 x.h.b) ∧ W.cell? ⟨q, 5, none⟩ = some (.int .i64 x.r.n) ∧ W.cell? ⟨q, 6, none⟩ = some (.int .i64 x.r.d) ∧ W.cell? ⟨q, 7, none⟩ = some (.int .i64 x.r.o) ∧ W.cell? ⟨q, 8, none⟩ = some (.int .i64 x.c) :=
  ⟨c.box.at_ 0 _ rfl, c.box.at_ 1 _ rfl, c.box.at_ 2 _ rfl, c.box.at_ 3 _ rfl, c.box.at_ 4 _ rfl, c.box.at_ 5 _ rfl, c.box.at_ 6 _ rfl, c.box.at_ 7 _ rfl, c.box.at_ 8 _ rfl⟩
end
end Go.Proofs.Ytifblmcocikopab
