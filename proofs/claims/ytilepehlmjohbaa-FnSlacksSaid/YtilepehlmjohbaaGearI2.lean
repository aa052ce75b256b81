/- The program: the gear with two indices. -/
import Derived.Test.YtilepehlmjohbaaGearI1
import Derived.OrdersHeld
namespace Go.Proofs.Ytilepehlmjohbaa
open Go.RowKit
section
end
set_option linter.unusedSimpArgs false
set_option linter.unusedVariables false

def gearAtV (x : Trn) (f r : Int) : Value := if trainB x then if gearB x f r then gV f r (fI x f.toNat) (rI x r.toNat) else gV 0 0 0 0 else gV 0 0 0 0
theorem cells4 {w : World} {q : Nat} {a b c d : Int} (h : Box w q (gC a b c d)) : w.cell? ⟨q, 0, none⟩ = some (.int .i64 a) ∧ w.cell? ⟨q, 1, none⟩ = some (.int .i64 b) ∧ w.cell? ⟨q, 2, none⟩ = some (.int .i64 c) ∧ w.cell? ⟨q, 3, none⟩ = some (.int .i64 d) :=
  ⟨h.at_ 0 _ rfl, h.at_ 1 _ rfl, h.at_ 2 _ rfl, h.at_ 3 _ rfl⟩
/-- A gear's variable is written anew. -/
def put4 (w : World) (q k : Nat) (a b c d : Int) : World := (((w.setCell ⟨q, k, none⟩ (.int .i64 a)).setCell ⟨q, k + 1, none⟩ (.int .i64 b)).setCell ⟨q, k + 2, none⟩ (.int .i64 c)).setCell ⟨q, k + 3, none⟩ (.int .i64 d)
theorem put4_box {w : World} {q : Nat} {a b c d a2 b2 c2 d2 : Int} (h : Box w q (gC a b c d)) : Box (put4 w q 0 a2 b2 c2 d2) q (gC a2 b2 c2 d2) :=
  (((h.set (k := 0) (.int .i64 a2) (by simp [gC])).set (k := 1) (.int .i64 b2) (by simp [gC])).set (k := 2) (.int .i64 c2) (by simp [gC])).set (k := 3) (.int .i64 d2) (by simp [gC])
theorem put4_keep (w : World) (q k : Nat) (a b c d : Int) : Keep q (q + 1) w (put4 w q k a b c d) :=
  ((((Keep.refl q (q + 1) w).setCell (p := ⟨q, k, none⟩) (Nat.le_refl _) (Nat.lt_succ_self _) _).setCell (p := ⟨q, k + 1, none⟩) (Nat.le_refl _) (Nat.lt_succ_self _) _).setCell (p := ⟨q, k + 2, none⟩) (Nat.le_refl _) (Nat.lt_succ_self _) _).setCell (p := ⟨q, k + 3, none⟩) (Nat.le_refl _) (Nat.lt_succ_self _) _
theorem put4_far {b q : Nat} (h : b ≠ q) (w : World) (o k : Nat) (a1 b1 c1 d1 : Int) : (put4 w q k a1 b1 c1 d1).cell? ⟨b, o, none⟩ = w.cell? ⟨b, o, none⟩ := by
  unfold put4
  rw [cell_far h, cell_far h, cell_far h, cell_far h]
end Go.Proofs.Ytilepehlmjohbaa
