/- The sort of the sorted list. -/
import Derived.Test.YtgdibahflhlakaaSort4
import Derived.Test.YtgdibahflhlakaaLikes
namespace Go.Proofs.Ytgdibahflhlakaa
open Go.RowKit
theorem perm_sum {a b : List Int} (h : a.Perm b) : a.sum = b.sum := by
  induction h with
  | nil => rfl
  | cons x _ ih => simp [ih]
  | swap x y l => simp only [List.sum_cons]; omega
  | trans _ _ ih1 ih2 => exact ih1.trans ih2
theorem implSort_again (B : Option Addr) (d lo hi : Nat) (L : List Int) (w : World) (o : Ow w lo hi 2 B L.length d (ints L)) (hhi : hi ≤ w.heap.size) (hc : codeB L = 0) (hi' : sortR L = L) (hn : L.length ≤ 1048576) :
    Calls Try.prog 9 #[.slice B L.length d] w fun e w' => ∃ A cap, e = .returned (.tuple #[.slice A L.length cap, .int .i64 0]) ∧ Ow w' w.heap.size w'.heap.size 2 A L.length cap (ints L) ∧ Below w.heap.size w w' := by
  rcases o.1.2 with ⟨hv, h0⟩ | ⟨g, c, cur, hv, _⟩
  · injection hv with e1 e2 e3
    subst e1
    subst e3
    have hL : L = [] := List.length_eq_zero_iff.1 h0
    subst hL
    refine (implSort_nil w).mono ?_
    intro e w' h
    unfold SortEnd at h
    rw [hi', hc] at h
    exact h
  · injection hv with e1 e2 e3
    subst e1
    refine (implSort g L.length d L w lo (o.rd.mono (Nat.le_refl _) hhi) hn).mono ?_
    intro e w' h
    unfold SortEnd at h
    rw [hi', hc] at h
    exact h
end Go.Proofs.Ytgdibahflhlakaa
