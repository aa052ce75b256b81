/- What a law holds: memory of its own, in blocks that lie apart. No program. -/
import Derived.Test.YtbjoekbgejfebaaMem
namespace Go.Proofs.Ytbjoekbgejfebaa
open Go.RowKit

/-- What is said of a world's blocks from one on and below another, and of no other block. -/
abbrev Item := World → Nat → Nat → Prop
def Loc (P : Item) : Prop := ∀ (W W1 : World) (lo hi : Nat), (∀ k, lo ≤ k → k < hi → W1.heap[k]? = W.heap[k]?) → P W lo hi → P W1 lo hi
/-- Items that hold of a world, the last one topmost, in blocks that lie apart, all from base on and below the top. -/
def Held (base : Nat) (W : World) : List Item → Nat → Prop
  | [], top => base ≤ top
  | P :: L, top => ∃ lo hi, lo ≤ hi ∧ hi ≤ top ∧ Loc P ∧ P W lo hi ∧ Held base W L lo
theorem Held.le {base : Nat} {W : World} : ∀ {L : List Item} {top : Nat}, Held base W L top → base ≤ top
  | [], _, h => h
  | _ :: L, _, ⟨_, _, h1, h2, _, _, h5⟩ => Nat.le_trans (Held.le (L := L) h5) (Nat.le_trans h1 h2)
theorem Held.mono {base : Nat} {W : World} : ∀ {L : List Item} {top top' : Nat}, Held base W L top → top ≤ top' → Held base W L top'
  | [], _, _, h, k => Nat.le_trans h k
  | _ :: _, _, _, ⟨lo, hi, h1, h2, h3⟩, k => ⟨lo, hi, h1, Nat.le_trans h2 k, h3⟩
theorem Held.agree {base : Nat} {W W1 : World} : ∀ {L : List Item} {top : Nat}, Held base W L top → (∀ k, base ≤ k → k < top → W1.heap[k]? = W.heap[k]?) → Held base W1 L top
  | [], _, h, _ => h
  | _ :: _, _, ⟨lo, hi, h1, h2, h3, h4, h5⟩, k => ⟨lo, hi, h1, h2, h3, h3 W W1 lo hi (fun j hj hj2 => k j (Nat.le_trans h5.le hj) (Nat.lt_of_lt_of_le hj2 h2)) h4, h5.agree fun j hj hj2 => k j hj (Nat.lt_of_lt_of_le hj2 (Nat.le_trans h1 h2))⟩
theorem Held.pick {base : Nat} {W : World} {P : Item} : ∀ {L : List Item} {top : Nat} (i : Nat), Held base W L top → L[i]? = some P →
    ∃ lo hi, base ≤ lo ∧ lo ≤ hi ∧ hi ≤ top ∧ P W lo hi ∧ ∀ (W1 : World) (P1 : Item), Loc P1 → P1 W1 lo hi → (∀ k, k < top → (k < lo ∨ hi ≤ k) → W1.heap[k]? = W.heap[k]?) → Held base W1 (L.set i P1) top
  | [], _, i, _, e => by simp at e
  | Q :: L, top, 0, ⟨lo, hi, h1, h2, h3, h4, h5⟩, e => by
    obtain rfl : Q = P := by simpa using e
    exact ⟨lo, hi, h5.le, h1, h2, h4, fun W1 P1 l1 p1 k => ⟨lo, hi, h1, h2, l1, p1, h5.agree fun j _ hj2 => k j (by omega) (.inl hj2)⟩⟩
  | Q :: L, top, i + 1, ⟨lo, hi, h1, h2, h3, h4, h5⟩, e => by
    obtain ⟨lo1, hi1, g1, g2, g3, g4, g5⟩ := h5.pick i (by simpa using e)
    refine ⟨lo1, hi1, g1, g2, by omega, g4, fun W1 P1 l1 p1 k => ⟨lo, hi, h1, h2, h3, h3 W W1 lo hi (fun j hj hj2 => k j (by omega) (.inr (by omega))) h4, g5 W1 P1 l1 p1 fun j hj ho => k j (by omega) ho⟩⟩
/-- What a call from w holds in W: nothing below w's memory has turned, and its own items stand. -/
structure Ctx (w W : World) (L : List Item) : Prop where
  b : Below w.heap.size w W
  h : Held w.heap.size W L W.heap.size
section
variable {w W W1 : World} {L : List Item} {P : Item}
theorem Ctx.start (w : World) : Ctx w w [] := ⟨Below.refl _ _, Nat.le_refl _⟩
theorem Ctx.below (c : Ctx w W L) (b : Below W.heap.size W W1) : Ctx w W1 L :=
  ⟨c.b.trans (b.mono c.b.size), (c.h.agree fun k _ hk => b.block k hk).mono b.size⟩
theorem Ctx.drewN (c : Ctx w W L) (m : Nat) : Ctx w (W.drewN m) L := ⟨below_drewN c.b m, c.h.agree (W1 := W.drewN m) fun _ _ _ => rfl⟩
theorem Ctx.push (c : Ctx w W L) (l : Loc P) (p : P W1 W.heap.size W1.heap.size) (b : Below W.heap.size W W1) : Ctx w W1 (P :: L) :=
  ⟨c.b.trans (b.mono c.b.size), ⟨W.heap.size, W1.heap.size, b.size, Nat.le_refl _, l, p, c.h.agree fun k _ hk => b.block k hk⟩⟩
theorem Ctx.pick (c : Ctx w W L) (i : Nat) (e : L[i]? = some P) : ∃ lo hi, w.heap.size ≤ lo ∧ lo ≤ hi ∧ hi ≤ W.heap.size ∧ P W lo hi ∧ ∀ (W1 : World) (P1 : Item), Loc P1 → P1 W1 lo hi → Keep lo hi W W1 → Ctx w W1 (L.set i P1) := by
  obtain ⟨lo, hi, h1, h2, h3, h4, h5⟩ := c.h.pick i e
  exact ⟨lo, hi, h1, h2, h3, h4, fun W1 P1 l1 p1 k => ⟨c.b.trans (k.below h1 c.b.size), (h5 W1 P1 l1 p1 fun j hj ho => k.block j hj ho).mono k.size⟩⟩
theorem Ctx.rd {A : Option Addr} {n : Nat} {xs : List Value} (c : Ctx w W L) (h : Rd w 0 w.heap.size A n xs) : Rd W 0 W.heap.size A n xs := (h.below c.b (Nat.le_refl _)).mono (Nat.le_refl _) c.b.size
end
/-- A list of the call's own, of elements of one cell. -/
def OwnL (t : TypeId) (A : Option Addr) (n cap : Nat) (xs : List Value) : Item := fun W lo hi => Ow W lo hi t A n cap xs
theorem OwnL.loc (t : TypeId) (A : Option Addr) (n cap : Nat) (xs : List Value) : Loc (OwnL t A n cap xs) := fun _ _ _ _ k h => Ow.of_blocks h k
/-- A call's answer: no memory. -/
def RetV (v : Value) (w : World) (e : Ending) (w' : World) : Prop := e = .returned v ∧ Below w.heap.size w w'
/-- A call's answer: a list of int64 of its own. -/
def RetL (zs : List Int) (w : World) (e : Ending) (w' : World) : Prop :=
  ∃ A cap, e = .returned (.slice A zs.length cap) ∧ Ow w' w.heap.size w'.heap.size 2 A zs.length cap (ints zs) ∧ Below w.heap.size w w'
/-- A call's answer: a list of int64 of its own, and a number. -/
def RetLN (zs : List Int) (z : Int) (w : World) (e : Ending) (w' : World) : Prop :=
  ∃ A cap, e = .returned (.tuple #[.slice A zs.length cap, .int .i64 z]) ∧ Ow w' w.heap.size w'.heap.size 2 A zs.length cap (ints zs) ∧ Below w.heap.size w w'
end Go.Proofs.Ytbjoekbgejfebaa
