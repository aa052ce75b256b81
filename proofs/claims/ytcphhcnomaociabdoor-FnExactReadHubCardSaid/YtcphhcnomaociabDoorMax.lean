/- The library variable MaxLen: some number, from the shape of the world, kept while nothing below is written. -/
import Derived.Test.YtcphhcnomaociabDoorProg
import Derived.Below
import Derived.Shelf.Vars
import Derived.KernelRfl
namespace Go.Proofs.YtcphhcnomaociabDoor
open Go.RowKit

/-- The library's variable that tells the longest needle holds some number. -/
def HasMax (w : World) : Prop := ∃ m : Int, w.cell? ⟨1, 0, none⟩ = some (.int .i64 m)
theorem HasMax.below {B : Nat} {w w' : World} (h : HasMax w) (hb : Below B w w') (hB : 1 < B) : HasMax w' := by
  obtain ⟨m, hm⟩ := h
  exact ⟨m, (hb.cell (p := ⟨1, 0, none⟩) hB).trans hm⟩
theorem HasMax.of_shape {w : World} (h : w.ShapedOpen Tryd.prog) : HasMax w :=
  cell_of_shapedOpen_int (P := Tryd.prog) (g := 1) (t := 3) (zero := #[.int .i64 0]) h (of_decide_eq_true (by kernel_rfl)) (by kernel_rfl) rfl (by kernel_rfl) (by kernel_rfl) Tryd.underlying3
theorem HasMax.lt {w : World} (h : HasMax w) : 1 < w.heap.size := by
  obtain ⟨m, hm⟩ := h
  rcases Nat.lt_or_ge 1 w.heap.size with hlt | hge
  · exact hlt
  · unfold World.cell? at hm
    rw [Array.getElem?_eq_none hge] at hm
    cases hm
end Go.Proofs.YtcphhcnomaociabDoor
