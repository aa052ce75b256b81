/- Words for memory: a slice that reads as a list of cells, a slice of the call's own, what stays as it was. No program. -/
import Derived.WalkKit
import Derived.Below
import Derived.Laws.OwnMore
import Derived.OwnWalk
import Derived.Deep.Draws
import Derived.KernelRfl
import Derived.Lib.Hide
namespace Go.Proofs.Ytbjoekbgejfebaa
open Go.RowKit

/-- The slice (A, n), of elements of one cell, reads as xs; its cells lie in a block from lo on and below hi. -/
def Rd (w : World) (lo hi : Nat) (A : Option Addr) (n : Nat) (xs : List Value) : Prop :=
  xs.length = n ∧ (0 < n → ∃ b off, A = some ⟨b, off, none⟩ ∧ lo ≤ b ∧ b < hi ∧ ∀ j u, xs[j]? = some u → w.cell? ⟨b, off + j, none⟩ = some u)

/-- The slice (A, n, cap) is the call's own: it owns the cells xs in a block from lo on and below hi. -/
def Ow (w : World) (lo hi : Nat) (e : TypeId) (A : Option Addr) (n cap : Nat) (xs : List Value) : Prop :=
  w.ownsRow lo e 1 (.slice A n cap) n xs ∧ ∀ g, (Value.slice A n cap).ownBlock = some g → g < hi

/-- Outside the blocks from lo on and below hi nothing that was there has turned. -/
structure Keep (lo hi : Nat) (w w' : World) : Prop where
  os : w'.os = w.os
  tape : w'.tape = w.tape
  output : w'.output = w.output
  size : w.heap.size ≤ w'.heap.size
  block : ∀ k, k < w.heap.size → (k < lo ∨ hi ≤ k) → w'.heap[k]? = w.heap[k]?

section
variable {w w' w2 : World} {lo hi lo' hi' n : Nat} {A : Option Addr} {xs : List Value}

theorem Keep.below {B : Nat} (h : Keep lo hi w w') (hl : B ≤ lo) (hs : B ≤ w.heap.size) : Below B w w' :=
  ⟨h.os, h.tape, h.output, h.size, fun k hk => h.block k (by omega) (.inl (by omega))⟩
theorem Keep.of_below {B : Nat} (h : Below B w w') (hB : w.heap.size ≤ B) (lo hi : Nat) : Keep lo hi w w' :=
  ⟨h.os, h.tape, h.output, h.size, fun k hk _ => h.block k (by omega)⟩
theorem Keep.of_below' {w0 : World} (h : Below w.heap.size w w') (_hs : w0.heap.size ≤ w.heap.size) {lo hi : Nat} : Keep lo hi w w' :=
  ⟨h.os, h.tape, h.output, h.size, fun k hk _ => h.block k hk⟩
theorem Keep.refl (lo hi : Nat) (w : World) : Keep lo hi w w := ⟨rfl, rfl, rfl, Nat.le_refl _, fun _ _ _ => rfl⟩
theorem Keep.trans (h : Keep lo hi w w') (k : Keep lo hi w' w2) : Keep lo hi w w2 :=
  ⟨k.os.trans h.os, k.tape.trans h.tape, k.output.trans h.output, Nat.le_trans h.size k.size, fun i hi' hor => (k.block i (Nat.lt_of_lt_of_le hi' h.size) hor).trans (h.block i hi' hor)⟩
theorem Keep.setCell (h : Keep lo hi w w') {p : Addr} (h1 : lo ≤ p.block) (h2 : p.block < hi) (u : Value) : Keep lo hi w (w'.setCell p u) :=
  h.trans ⟨rfl, rfl, rfl, by simp [World.setCell], fun k _ ho => Below.heap_setCell _ _ _ _ (by omega)⟩
theorem Keep.drewN (h : Keep lo hi w w') (m : Nat) : Keep lo hi w (w'.drewN m) := ⟨h.os, h.tape, h.output, h.size, h.block⟩
theorem below_drewN {B : Nat} {a w : World} (h : Below B a w) (n : Nat) : Below B a (w.drewN n) := ⟨h.os, h.tape, h.output, h.size, h.block⟩

theorem Rd.nil_ (w : World) (lo hi : Nat) (A : Option Addr) : Rd w lo hi A 0 [] := ⟨rfl, fun h => absurd h (by omega)⟩
theorem Rd.mono (h : Rd w lo hi A n xs) (h1 : lo' ≤ lo) (h2 : hi ≤ hi') : Rd w lo' hi' A n xs :=
  ⟨h.1, fun hn => by
    obtain ⟨b, off, e, p, q, hc⟩ := h.2 hn
    exact ⟨b, off, e, by omega, by omega, hc⟩⟩
theorem Rd.of_blocks (h : Rd w lo hi A n xs) (hk : ∀ k, lo ≤ k → k < hi → w'.heap[k]? = w.heap[k]?) : Rd w' lo hi A n xs :=
  ⟨h.1, fun hn => by
    obtain ⟨b, off, e, p, q, hc⟩ := h.2 hn
    exact ⟨b, off, e, p, q, fun j u hu => (World.cell?_of_block (w := w) (hk b p q)).trans (hc j u hu)⟩⟩
theorem Rd.below {B : Nat} (h : Rd w lo hi A n xs) (hb : Below B w w') (hB : hi ≤ B) : Rd w' lo hi A n xs :=
  h.of_blocks fun k _ q => hb.block k (by omega)
theorem Rd.keep (h : Rd w lo hi A n xs) (hk : Keep lo' hi' w w') (hs : hi ≤ w.heap.size) (hd : hi ≤ lo' ∨ hi' ≤ lo) : Rd w' lo hi A n xs :=
  h.of_blocks fun k p q => hk.block k (by omega) (by omega)
theorem Rd.drewN (h : Rd w lo hi A n xs) (m : Nat) : Rd (w.drewN m) lo hi A n xs := h
theorem Rd.len (h : Rd w lo hi A n xs) : xs.length = n := h.1
theorem Rd.at_ {k : Nat} (h : Rd w lo hi A n xs) (hk : k < n) : ∃ b off, A = some ⟨b, off, none⟩ ∧ lo ≤ b ∧ b < hi ∧ ∀ j u, xs[j]? = some u → w.cell? ⟨b, off + j, none⟩ = some u := h.2 (by omega)

theorem Ow.len {e : TypeId} {cap : Nat} (h : Ow w lo hi e A n cap xs) : xs.length = n := by simpa using h.1.1
theorem Ow.le {e : TypeId} {cap : Nat} (h : Ow w lo hi e A n cap xs) : n ≤ cap := by
  rcases h.1.2 with ⟨hv, h0⟩ | ⟨g, cap', cur, hv, hg, hh, hle, _⟩
  · omega
  · injection hv with _ _ e3
    omega
theorem Ow.form {e : TypeId} {cap : Nat} (h : Ow w lo hi e A n cap xs) (hn : 0 < n) : ∃ g, A = some ⟨g, 0, none⟩ ∧ lo ≤ g ∧ g < hi ∧ g < w.heap.size := by
  rcases h.1.2 with ⟨_, h0⟩ | ⟨g, cap', cur, hv, hg, hh, _⟩
  · omega
  · have hA : A = some ⟨g, 0, none⟩ := by injection hv
    subst hA
    have hl := h.1.lt g rfl
    exact ⟨g, rfl, hg, h.2 g rfl, hl.2⟩
theorem Ow.rd {e : TypeId} {cap : Nat} (h : Ow w lo hi e A n cap xs) : Rd w lo hi A n xs := by
  refine ⟨h.len, fun hn => ?_⟩
  obtain ⟨g, rfl, p, q, _⟩ := h.form hn
  exact ⟨g, 0, rfl, p, q, fun j u hu => by
    have := h.1.cells (g := g) rfl j u hu
    by_cases hj : j = 0
    · subst hj; simpa [Addr.add] using this
    · simpa [Addr.add, hj] using this⟩
theorem Ow.of_blocks {e : TypeId} {cap : Nat} (h : Ow w lo hi e A n cap xs) (hk : ∀ k, lo ≤ k → k < hi → w'.heap[k]? = w.heap[k]?) : Ow w' lo hi e A n cap xs := by
  refine ⟨⟨h.1.1, ?_⟩, h.2⟩
  rcases h.1.2 with h0 | ⟨g, cap', cur, hv, hg, hh, r⟩
  · exact .inl h0
  · have hlt : g < hi := h.2 g (by rw [hv]; rfl)
    exact .inr ⟨g, cap', cur, hv, hg, (hk g hg hlt).trans hh, r⟩
theorem Ow.below {e : TypeId} {cap B : Nat} (h : Ow w lo hi e A n cap xs) (hb : Below B w w') (hB : hi ≤ B) : Ow w' lo hi e A n cap xs :=
  h.of_blocks fun k _ q => hb.block k (by omega)
theorem Ow.lower {e : TypeId} {cap : Nat} (h : Ow w lo hi e A n cap xs) (h1 : lo' ≤ lo) : Ow w lo' hi e A n cap xs := by
  refine ⟨⟨h.1.1, ?_⟩, h.2⟩
  rcases h.1.2 with h0 | ⟨g, cap', cur, hv, hg, r⟩
  · exact .inl h0
  · exact .inr ⟨g, cap', cur, hv, by omega, r⟩
theorem Ow.keep {e : TypeId} {cap : Nat} (h : Ow w lo hi e A n cap xs) (hk : Keep lo' hi' w w') (hs : hi ≤ w.heap.size) (hd : hi ≤ lo' ∨ hi' ≤ lo) : Ow w' lo hi e A n cap xs :=
  h.of_blocks fun k p q => hk.block k (by omega) (by omega)
theorem Ow.drewN {e : TypeId} {cap : Nat} (h : Ow w lo hi e A n cap xs) (m : Nat) : Ow (w.drewN m) lo hi e A n cap xs := h
theorem Ow.cell {e : TypeId} {cap g k : Nat} (h : Ow w lo hi e (some ⟨g, 0, none⟩) n cap xs) (hk : k < n) : w.cell? ⟨g, k, none⟩ = xs[k]? := h.1.cellAt k (by omega)
theorem Ow.free {e : TypeId} {cap g : Nat} (h : Ow w lo hi e (some ⟨g, 0, none⟩) n cap xs) (k : Nat) : w.frozen? ⟨g, k, none⟩ = false := h.1.frozenAt k
theorem Ow.set_ {e : TypeId} {cap g k : Nat} (h : Ow w lo hi e (some ⟨g, 0, none⟩) n cap xs) (u : Value) : Ow (w.setCell ⟨g, k, none⟩ u) lo hi e (some ⟨g, 0, none⟩) n cap (xs.set k u) :=
  ⟨(h.1.stored k u).1, h.2⟩
end

theorem ret_bool {a b : Bool} (h : a = b) : Ending.returned (.bool a) = .returned (.bool b) := by rw [h]
theorem ret_int {k : IntKind} {a b : Int} (h : a = b) : Ending.returned (.int k a) = .returned (.int k b) := by rw [h]

/-- Behind a call all old cells read as before (a rule for the walk). -/
theorem bcell {W w1 : World} (hb : Below W.heap.size W w1) : ∀ b o, b < W.heap.size → w1.cell? ⟨b, o, none⟩ = W.cell? ⟨b, o, none⟩ := fun b o h => hb.cell (p := ⟨b, o, none⟩) h

theorem ext_of {xs ys : List Value} (hl : xs.length = ys.length) (h : ∀ j, j < xs.length → xs[j]? = ys[j]?) : xs = ys := by
  apply List.ext_getElem? 
  intro j
  by_cases hj : j < xs.length
  · exact h j hj
  · rw [List.getElem?_eq_none (by omega), List.getElem?_eq_none (by omega)]

def ints (zs : List Int) : List Value := zs.map (Value.int .i64)
theorem ints_len (zs : List Int) : (ints zs).length = zs.length := by simp [ints]
theorem ints_at (zs : List Int) (k : Nat) (h : k < zs.length) : (ints zs)[k]? = some (.int .i64 (zs.getD k 0)) := by
  simp [ints, h]
theorem ints_inj {a b : List Int} (h : ints a = ints b) : a = b := by
  induction a generalizing b with
  | nil => cases b with
    | nil => rfl
    | cons _ _ => simp [ints] at h
  | cons x a ih => cases b with
    | nil => simp [ints] at h
    | cons y b =>
      simp [ints] at h
      rw [h.1, ih (by simpa [ints] using h.2)]
end Go.Proofs.Ytbjoekbgejfebaa
