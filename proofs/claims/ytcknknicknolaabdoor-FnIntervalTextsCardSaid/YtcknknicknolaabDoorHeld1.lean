/- What a law keeps while it calls: one boxed interval, and all that was there before. -/
import Derived.Test.YtcknknicknolaabDoorHeld2
namespace Go.Proofs.YtcknknicknolaabDoor
open Go.RowKit
theorem keep2 {u W w1 : World} {k : Nat} {a b : Int} (hb : Below W.heap.size W w1) (h : W.cell? ⟨k, 0, none⟩ = some (.int .i64 a) ∧ W.cell? ⟨k, 1, none⟩ = some (.int .i64 b) ∧ k < W.heap.size ∧ Below u.heap.size u W) :
    w1.cell? ⟨k, 0, none⟩ = some (.int .i64 a) ∧ w1.cell? ⟨k, 1, none⟩ = some (.int .i64 b) ∧ k < w1.heap.size ∧ Below u.heap.size u w1 := by
  obtain ⟨h0, h1, hk, hu⟩ := h
  exact ⟨(hb.cell (p := ⟨k, 0, none⟩) hk).trans h0, (hb.cell (p := ⟨k, 1, none⟩) hk).trans h1, Nat.lt_of_lt_of_le hk hb.size, up hu hb⟩
end Go.Proofs.YtcknknicknolaabDoor
