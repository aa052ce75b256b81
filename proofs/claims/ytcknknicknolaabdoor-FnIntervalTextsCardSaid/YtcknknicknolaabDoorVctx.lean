/- What a call keeps: its variables, all that was there before. -/
import Derived.Test.YtcknknicknolaabDoorDrawIv
namespace Go.Proofs.YtcknknicknolaabDoor
open Go.RowKit

structure VCtx (w : World) (rs : List (Nat × Int × Int)) (W : World) : Prop where
  below : Below w.heap.size w W
  vars : ∀ v ∈ rs, Var2 W v.1 v.2.1 v.2.2
section
variable {w W W1 : World} {rs : List (Nat × Int × Int)} {r : Nat} {x y : Int}
theorem VCtx.step (h : VCtx w rs W) (b : Below W.heap.size W W1) : VCtx w rs W1 := ⟨h.below.trans (b.mono h.below.size), fun v hv => (h.vars v hv).below b⟩
theorem VCtx.var (h : VCtx w rs W) (t : TypeId) : VCtx w ((W.heap.size, x, y) :: rs) (W.alloc (.cells #[.int .i64 x, .int .i64 y] t)) :=
  ⟨h.below.alloc h.below.size _, fun v hv => by
    rcases List.mem_cons.1 hv with rfl | hv
    · exact Var2.new
    · exact (h.vars v hv).below ((Below.refl _ _).alloc (Nat.le_refl _) _)⟩
theorem VCtx.drewN (h : VCtx w rs W) (m : Nat) : VCtx w rs (W.drewN m) := ⟨below_drewN h.below m, fun v hv => (h.vars v hv).drewN m⟩
theorem VCtx.keep {g : Nat} (h : VCtx w rs W) (k : Keep g (g + 1) W W1) (hg : w.heap.size ≤ g) (hr : ∀ v ∈ rs, v.1 < g) : VCtx w rs W1 :=
  ⟨h.below.trans (k.below hg h.below.size), fun v hv => (h.vars v hv).keep k (.inl (hr v hv))⟩
theorem VCtx.lts (h : VCtx w rs W) : ∀ v ∈ rs, v.1 < W.heap.size := fun v hv => (h.vars v hv).lt
theorem VCtx.rd {A : Option Addr} {n : Nat} {xs : List Value} (h : VCtx w rs W) (hr : Rd w 0 w.heap.size A n xs) : Rd W 0 W.heap.size A n xs := (hr.below h.below (Nat.le_refl _)).mono (Nat.le_refl _) h.below.size
theorem VCtx.c0 (h : VCtx w rs W) (hm : (r, x, y) ∈ rs) : W.cell? ⟨r, 0, none⟩ = some (.int .i64 x) := (h.vars _ hm).c0
theorem VCtx.c1 (h : VCtx w rs W) (hm : (r, x, y) ∈ rs) : W.cell? ⟨r, 1, none⟩ = some (.int .i64 y) := (h.vars _ hm).c1
theorem VCtx.lt (h : VCtx w rs W) (hm : (r, x, y) ∈ rs) : r < W.heap.size := (h.vars _ hm).lt
end
theorem VCtx.st0 {w W : World} {x y : Int} {r s : Nat} (h : VCtx w [(r, x, y), (s, 0, 0)] W) (hr : w.heap.size ≤ r) (hne : s ≠ r) (z : Int) : VCtx w [(r, z, y), (s, 0, 0)] (W.setCell ⟨r, 0, none⟩ (.int .i64 z)) :=
  ⟨h.below.setCell (p := ⟨r, 0, none⟩) hr _, fun v hv => by
    simp only [List.mem_cons, List.not_mem_nil, or_false] at hv
    rcases hv with rfl | rfl
    · exact (h.vars (r, x, y) (by simp)).set0 z
    · exact (h.vars (s, 0, 0) (by simp)).other (p := ⟨r, 0, none⟩) (show r ≠ s by omega) _⟩
theorem VCtx.st1 {w W : World} {x y : Int} {r s : Nat} (h : VCtx w [(r, x, y), (s, 0, 0)] W) (hr : w.heap.size ≤ r) (hne : s ≠ r) (z : Int) : VCtx w [(r, x, z), (s, 0, 0)] (W.setCell ⟨r, 1, none⟩ (.int .i64 z)) :=
  ⟨h.below.setCell (p := ⟨r, 1, none⟩) hr _, fun v hv => by
    simp only [List.mem_cons, List.not_mem_nil, or_false] at hv
    rcases hv with rfl | rfl
    · exact (h.vars (r, x, y) (by simp)).set1 z
    · exact (h.vars (s, 0, 0) (by simp)).other (p := ⟨r, 1, none⟩) (show r ≠ s by omega) _⟩
end Go.Proofs.YtcknknicknolaabDoor
