/- The model's SpokeCounts: rows of its own. -/
import Derived.Test.YtifblmcocikopabSpoke1
import Derived.Test.YtifblmcocikopabGrid
namespace Go.Proofs.Ytifblmcocikopab
open Go.RowKit
section
end

def cntA (x : Wh) : List (List Int) × Int := if wheelB x then (countsL x, 0) else ([], 1)
/-- Behind SpokeCounts: rows of the call's own, and the code. -/
def RowsEnd (p : List (List Int) × Int) (w : World) (e : Ending) (w' : World) : Prop :=
  ∃ A cap a c G g, e = .returned (.tuple #[.slice A p.1.length cap, .int .i64 p.2]) ∧ GridAt w' w.heap.size w'.heap.size A p.1.length p.1 a c G g ∧ Below w.heap.size w w'
theorem RowsEnd.of {p : List (List Int) × Int} {zss : List (List Int)} {k : Int} {w w' : World} {A : Option Addr} {cap : Nat} {a : Nat → Option Addr} {c G : Nat → Nat} {g : Nat} {e : Ending} (hp : p = (zss, k)) (he : e = .returned (.tuple #[.slice A zss.length cap, .int .i64 k]))
    (hg : GridAt w' w.heap.size w'.heap.size A zss.length zss a c G g) (hb : Below w.heap.size w w') : RowsEnd p w e w' := by
  subst hp
  exact ⟨A, cap, a, c, G, g, he, hg, hb⟩
theorem grid0 (w : World) (lo hi : Nat) (A : Option Addr) : GridAt w lo hi A 0 [] (fun _ => none) (fun _ => 0) (fun _ => 0) 0 :=
  ⟨rfl, fun h => by omega, fun i h => by omega, fun i _ h => by omega, by omega, fun i h => by omega⟩
theorem grid1 (W : World) (a b : Int) (t t' : TypeId) (q : Nat) (hq : W.heap.size = q) : GridAt ((W.alloc (.cells #[.int .i64 a, .int .i64 b] t)).alloc (.cells #[.slice (some ⟨q, 0, none⟩) 2 2] t')) q (q + 2) (some ⟨q + 1, 0, none⟩) 1 [[a, b]] (fun i => some ⟨q + i, 0, none⟩) (fun _ => 2) (fun i => q + i) (q + 1) := by
  have b0 : Box (W.alloc (.cells #[.int .i64 a, .int .i64 b] t)) q [.int .i64 a, .int .i64 b] := Box.new hq.symm rfl
  have b1 := b0.alloc (.cells #[.slice (some ⟨q, 0, none⟩) 2 2] t')
  refine ⟨rfl, fun _ => ⟨rfl, by omega, Box.new (by simp [hq]) rfl⟩, fun i hi _ => ?_, fun i j hi hj hne => by omega, by omega, fun i hi => ?_⟩
  · obtain rfl : i = 0 := by omega
    exact ⟨rfl, by omega, b1⟩
  · obtain rfl : i = 0 := by omega
    simp [rowAt]
theorem grid2 (W : World) (a b c d : Int) (t t' : TypeId) (q : Nat) (hq : W.heap.size = q) : GridAt (((W.alloc (.cells #[.int .i64 a, .int .i64 b] t)).alloc (.cells #[.int .i64 c, .int .i64 d] t)).alloc (.cells #[.slice (some ⟨q, 0, none⟩) 2 2, .slice (some ⟨q + 1, 0, none⟩) 2 2] t')) q (q + 3) (some ⟨q + 2, 0, none⟩) 2 [[a, b], [c, d]] (fun i => some ⟨q + i, 0, none⟩) (fun _ => 2) (fun i => q + i) (q + 2) := by
  have b0 : Box (W.alloc (.cells #[.int .i64 a, .int .i64 b] t)) q [.int .i64 a, .int .i64 b] := Box.new hq.symm rfl
  have b1 := b0.alloc (.cells #[.int .i64 c, .int .i64 d] t)
  have c1 : Box ((W.alloc (.cells #[.int .i64 a, .int .i64 b] t)).alloc (.cells #[.int .i64 c, .int .i64 d] t)) (q + 1) [.int .i64 c, .int .i64 d] := Box.new (by simp [hq]) rfl
  have b2 := b1.alloc (.cells #[.slice (some ⟨q, 0, none⟩) 2 2, .slice (some ⟨q + 1, 0, none⟩) 2 2] t')
  have c2 := c1.alloc (.cells #[.slice (some ⟨q, 0, none⟩) 2 2, .slice (some ⟨q + 1, 0, none⟩) 2 2] t')
  refine ⟨rfl, fun _ => ⟨rfl, by omega, Box.new (by simp [hq]) rfl⟩, fun i hi _ => ?_, fun i j hi hj hne _ _ => by omega, by omega, fun i hi => ?_⟩
  · rcases Nat.lt_or_ge i 1 with h | h
    · obtain rfl : i = 0 := by omega
      exact ⟨rfl, by omega, b2⟩
    · obtain rfl : i = 1 := by omega
      exact ⟨rfl, by omega, c2⟩
  · rcases Nat.lt_or_ge i 1 with h | h
    · obtain rfl : i = 0 := by omega
      simp [rowAt]
    · obtain rfl : i = 1 := by omega
      simp [rowAt]
end Go.Proofs.Ytifblmcocikopab
