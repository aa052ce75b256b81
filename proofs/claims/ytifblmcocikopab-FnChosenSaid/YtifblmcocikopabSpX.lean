/- The program's CrossesFor. -/
import Derived.Test.YtifblmcocikopabSpC
namespace Go.Proofs.Ytifblmcocikopab
open Go.RowKit
section
end

theorem implLenOf (y : Wh) (r : Bool) (w : World) (hy : wheelB y = true) : Calls Try.prog 40 #[.int .i64 (spSq y r)] w (Just (.int .i64 (spLen y r)) w) :=
  implLengthOf (spSq y r) w (spSq_bd hy).1 (spSq_bd hy).2
/-- How far the best one of the first k is, or more than any can be. -/
def leastTo (x : Wh) (r : Bool) (m : Int) (k : Nat) : Int := if k = 0 then 5001 else (bestTo x r m k).2
theorem best_step {x : Wh} {r : Bool} {m : Int} {k : Nat} (h : awayI x r m k ≤ 5000) : bestTo x r m (k + 1) = if awayI x r m k < leastTo x r m k then ((k : Int), awayI x r m k) else bestTo x r m k := by
  have hst : bestTo x r m (k + 1) = if (bestTo x r m k).2 < 0 ∨ awayI x r m k < (bestTo x r m k).2 then ((k : Int), awayI x r m k) else bestTo x r m k := rfl
  rw [hst]
  unfold leastTo
  cases k with
  | zero => rw [if_pos (.inl (by unfold bestTo; omega)), if_pos (by rw [if_pos rfl]; omega)]
  | succ j =>
    have hp := away_ge x r m (bestTo x r m (j + 1)).1
    rw [← (bestTo_spec x r m j).1] at hp
    rw [if_neg (show ¬ j + 1 = 0 by omega)]
    by_cases hc : awayI x r m ((j + 1 : Nat) : Int) < (bestTo x r m (j + 1)).2
    · rw [if_pos (.inr hc), if_pos hc]
    · rw [if_neg (by omega), if_neg hc]
structure CB (w : World) (x : Wh) (fl off : Int) (q f o : Nat) (W : World) : Prop where
  par : Box W w.heap.size [.int .i64 x.h.n, .int .i64 x.h.l, .int .i64 x.h.r, .int .i64 x.h.a, .int .i64 x.h.b, .int .i64 x.r.n, .int .i64 x.r.d, .int .i64 x.r.o, .int .i64 x.c]
  side : Side x fl off q f o W
  below : Below w.heap.size w W
theorem least_self {x : Wh} {r : Bool} {m : Int} {k : Nat} (hn : ¬ awayI x r m k < leastTo x r m k) (h : awayI x r m k ≤ 5000) : (bestTo x r m k).2 = leastTo x r m k := by
  unfold leastTo at *
  by_cases h0 : k = 0
  · rw [if_pos h0] at hn; omega
  · rw [if_neg h0]
end Go.Proofs.Ytifblmcocikopab
