/- Opening a law's argument: a ride by value; a ride in a block of the law's own. -/
import Derived.Test.YtbjoekbgejfebaaOpenRi
import Derived.Test.YtbjoekbgejfebaaRides
import Derived.Test.YtbjoekbgejfebaaBox
import Derived.Lib.SmallJoins
namespace Go.Proofs.Ytbjoekbgejfebaa
open Go.ChangeShapes Go.WideShapes Go.ChangeAt Go.RowKit Go.Joins
section
variable {H : Type} {enc : TypeId × Value → H}
set_option maxRecDepth 100000 in
theorem open_ride {W : World} {r : Reach} {b0 : Nat} {v : Value} {d : DataW H} {p : List MemPlace} (hv : Value.okWide Try.prog W r b0 45 v)
    (h : DataW.Trod enc Try.prog W 0 (fun _ => true) true 45 v d p) :
    ∃ x : Rid, v = ridV x ∧ (Lit.int .i64 x.day).wf = true ∧ (Lit.int .i64 x.tens).wf = true := by
  obtain ⟨c0, c1, c2, y0, y1, y2, k, rfl, rfl, rfl, h0, h1, h2⟩ := open_agg3 Try.underlying45 (by kernel_rfl) (by kernel_rfl) hv h
  obtain ⟨q0, e0, -, w0⟩ := DataW.trod_int Try.underlying2 h0
  obtain ⟨q1, e1, -, w1⟩ := DataW.trod_int Try.underlying2 h1
  obtain ⟨q2, e2, -⟩ := DataW.trod_bool Try.underlying4 h2
  simp at e0 e1 e2
  subst e0 e1 e2
  exact ⟨⟨q0, q1, q2⟩, rfl, w0, w1⟩
end
/-- A block of the law's own. -/
def BoxI (q : Nat) (cs : List Value) : Item := fun W lo hi => (lo ≤ q ∧ q < hi) ∧ Box W q cs
theorem BoxI.loc (q : Nat) (cs : List Value) : Loc (BoxI q cs) := fun W W1 lo hi k h => by
  obtain ⟨⟨h1, h2⟩, hb⟩ := h
  have e := k q h1 h2
  refine ⟨⟨h1, h2⟩, ⟨fun j v hv => (World.cell?_of_block e).trans (hb.at_ j v hv), fun j => (World.frozen?_of_block e).trans (hb.fr j), ?_⟩⟩
  have hq : q < W.heap.size := hb.lt
  rw [Array.getElem?_eq_getElem hq] at e
  exact (Array.getElem?_eq_some_iff.1 e).1
/-- What the law's own block holds. -/
theorem Ctx.box {w W : World} {L : List Item} {q i : Nat} {cs : List Value} (c : Ctx w W L) (e : L[i]? = some (BoxI q cs)) : Box W q cs := by
  obtain ⟨lo, hi, h1, h2, h3, h4, -⟩ := c.pick i e
  exact h4.2
end Go.Proofs.Ytbjoekbgejfebaa
