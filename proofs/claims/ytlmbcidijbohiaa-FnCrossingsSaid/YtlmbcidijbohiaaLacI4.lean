/- The program: lists that are filled by a loop over the places. -/
import Derived.Test.YtlmbcidijbohiaaLacI3
import Derived.OwnWalk
namespace Go.Proofs.Ytlmbcidijbohiaa
open Go.RowKit

theorem ow_nil (w : World) (lo hi : Nat) (t : TypeId) : Ow w lo hi t none 0 0 [] := ⟨⟨rfl, .inl ⟨rfl, rfl⟩⟩, fun g hg => by simp [Value.ownBlock] at hg⟩
theorem Ow.raise {w : World} {lo hi hi' n cap : Nat} {t : TypeId} {A : Option Addr} {xs : List Value} (h : Ow w lo hi t A n cap xs) (k : hi ≤ hi') : Ow w lo hi' t A n cap xs := ⟨h.1, fun g hg => Nat.lt_of_lt_of_le (h.2 g hg) k⟩
/-- A call's answer: a list of int64 of its own, and a number. -/
def GivesLN (p : List Int × Int) (w : World) (e : Ending) (w' : World) : Prop :=
  ∃ A cap, e = .returned (.tuple #[.slice A p.1.length cap, .int .i64 p.2]) ∧ Ow w' w.heap.size w'.heap.size 2 A p.1.length cap (ints p.1) ∧ Below w.heap.size w w'
theorem GivesLN.nil {p : List Int × Int} {w w' : World} {z : Int} (hp : p = ([], z)) (hb : Below w.heap.size w w') : GivesLN p w (.returned (.tuple #[.slice none 0 0, .int .i64 z])) w' := by
  subst hp
  exact ⟨none, 0, rfl, ow_nil _ _ _ _, hb⟩
theorem ints_set (zs : List Int) (k : Nat) (z : Int) : (ints zs).set k (.int .i64 z) = ints (zs.set k z) := by simp [ints, List.map_set]
theorem ints_zeros (n : Nat) : List.replicate n (Value.int .i64 0) = ints (List.replicate n 0) := by simp [ints]
theorem infoI64 : (Try.prog.info? 2).map (fun i => (i.zero, i.size, i.bytes)) = some (some (.int .i64 0), 1, 8) := by kernel_rfl
def rotR (n r : Int) (zs : List Int) : List Int × Int := if Lac n zs then if placeB n r then (rotI n r zs, 0) else ([], 2) else ([], 1)
def shiftsR (n : Int) (zs : List Int) : List Int × Int := if Lac n zs then (shiftsI n zs, 0) else ([], 1)
def mirrorR (n : Int) (zs : List Int) : List Int × Int := if Lac n zs then (mirrorI n zs, 0) else ([], 1)
/-- The row that a loop fills, in block g; its variable in block q. -/
structure Row (g q n : Nat) (xs : List Int) (W : World) : Prop where
  gq : g < q
  var : Box W q [.slice (some ⟨g, 0, none⟩) n n]
  row : Ow W g (g + 1) 2 (some ⟨g, 0, none⟩) n n (ints xs)
theorem Row.lo {B g q n : Nat} {xs : List Int} (h : q < B) : Lo B (Row g q n xs) := fun W W' e p => ⟨p.gq, Lo.box h (by simp) W W' e p.var, Lo.ow (by have := p.gq; omega) W W' e p.row⟩
theorem Row.set {g q n k : Nat} {xs : List Int} {W : World} (h : Row g q n xs W) (z : Int) : Row g q n (xs.set k z) (W.setCell ⟨g, k, none⟩ (.int .i64 z)) :=
  ⟨h.gq, h.var.other (by have := h.gq; simp; omega) _, by have := h.row.set_ (k := k) (.int .i64 z); rwa [ints_set] at this⟩
theorem Row.drew {g q n : Nat} {xs : List Int} {W : World} (h : Row g q n xs W) : Row g q n xs W.drew := ⟨h.gq, h.var.drew, h.row.drewN 1⟩
theorem Row.cell {g q n k : Nat} {xs : List Int} {W : World} (h : Row g q n xs W) (hk : k < n) : ∃ u, W.cell? ⟨g, k, none⟩ = some u := by
  have hl := h.row.len
  rw [ints_len] at hl
  exact ⟨_, (h.row.cell hk).trans (ints_at xs k (by omega))⟩
/-- Behind 'make' and the variable's block. -/
theorem Row.start {g n : Nat} {w2 : World} {t : TypeId} (hown : w2.ownsRow g 2 1 (.slice (some ⟨g, 0, none⟩) n n) n (List.replicate n (.int .i64 0))) :
    Row g w2.heap.size n (List.replicate n 0) (w2.alloc (.cells #[.slice (some ⟨g, 0, none⟩) n n] t)) := by
  have hlt := (hown.lt g rfl).2
  have ho : Ow w2 g (g + 1) 2 (some ⟨g, 0, none⟩) n n (ints (List.replicate n 0)) := ⟨by rw [← ints_zeros]; exact hown, fun g' hg' => by
    have : g = g' := by simpa [Value.ownBlock] using hg'
    omega⟩
  exact ⟨hlt, Box.new rfl rfl, ho.below ((Below.refl _ w2).alloc (Nat.le_refl _) _) (by omega)⟩
/-- A call's answer, out of the row that the loop has filled. -/
theorem GivesLN.row {p : List Int × Int} {w W : World} {g q n : Nat} {xs : List Int} (hp : p = (xs, 0)) (h : Row g q n xs W) (hg : w.heap.size ≤ g) (hb : Below w.heap.size w W) : GivesLN p w (.returned (.tuple #[.slice (some ⟨g, 0, none⟩) n n, .int .i64 0])) W := by
  subst hp
  have hl := h.row.len
  rw [ints_len] at hl
  subst hl
  have := h.var.lt
  have := h.gq
  exact ⟨_, _, rfl, (h.row.lower hg).raise (by omega), hb⟩
theorem mirrorAt_tmod {n k : Nat} (hk : k < n) : ((n : Int) - (k : Int)).tmod (n : Int) = ((mirrorAt n k : Nat) : Int) := by
  rw [Int.tmod_eq_emod_of_nonneg (by omega)]
  unfold mirrorAt
  rw [show (n : Int) - k = ((n - k : Nat) : Int) by omega]
  exact (Int.natCast_emod _ _).symm
theorem mirror_tmod {n y : Int} (hy : y < n) (hy0 : 0 ≤ y) : (n - y).tmod n = (-y) % n := by
  rw [Int.tmod_eq_emod_of_nonneg (by omega), show n - y = -y + n by omega, Int.add_emod_right]
theorem cell_far {w : World} {b1 o1 b2 o2 : Nat} {v : Value} (h : b1 ≠ b2) : (w.setCell ⟨b2, o2, none⟩ v).drew.cell? ⟨b1, o1, none⟩ = w.cell? ⟨b1, o1, none⟩ := World.cell?_setCell_other _ _ _ _ (by simp [h])
theorem Rnd.drew {B n₀ : Nat} {w W : World} {J J' : World → Prop} (h : Rnd B n₀ w J W) (hj : J' W.drew) : Rnd B n₀ w J' W.drew := ⟨below_drewN h.b 1, h.s, hj⟩
end Go.Proofs.Ytlmbcidijbohiaa
