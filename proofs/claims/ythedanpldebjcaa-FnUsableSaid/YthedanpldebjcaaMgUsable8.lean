/- Words for memory: a slice that reads as a list of cells, a slice of the call's own, what stays as it was. No program. -/
import Derived.WalkKit
import Derived.Below
import Derived.Laws.OwnMore
import Derived.OwnWalk
import Derived.Deep.Draws
import Derived.KernelRfl
import Derived.Lib.Hide
import Derived.Deep.Cut
namespace Go.Proofs.Ythedanpldebjcaa
open Go.RowKit

/-- The slice (A, n), of elements of one cell, reads as xs; its cells lie in a block from lo on and below hi. -/
def Rd (w : World) (lo hi : Nat) (A : Option Addr) (n : Nat) (xs : List Value) : Prop :=
  xs.length = n ∧ (0 < n → ∃ b off, A = some ⟨b, off, none⟩ ∧ lo ≤ b ∧ b < hi ∧ ∀ j u, xs[j]? = some u → w.cell? ⟨b, off + j, none⟩ = some u)

/-- The slice (A, n, cap) is the call's own: it owns the cells xs in a block from lo on and below hi. -/
def Ow (w : World) (lo hi : Nat) (e : TypeId) (A : Option Addr) (n cap : Nat) (xs : List Value) : Prop :=
  w.ownsRow lo e 1 (.slice A n cap) n xs ∧ ∀ g, (Value.slice A n cap).ownBlock = some g → g < hi

/-- Outside the blocks from lo on and below hi nothing that was there has turned. -/
structure Keep (lo hi : Nat) (w w' : World) : Prop where
  os : w'.os = w.os
  tape : w'.tape = w.tape
  output : w'.output = w.output
  size : w.heap.size ≤ w'.heap.size
  block : ∀ k, k < w.heap.size → (k < lo ∨ hi ≤ k) → w'.heap[k]? = w.heap[k]?

section
variable {w w' w2 : World} {lo hi lo' hi' n : Nat} {A : Option Addr} {xs : List Value}

theorem Keep.below {B : Nat} (h : Keep lo hi w w') (hl : B ≤ lo) (hs : B ≤ w.heap.size) : Below B w w' :=
  ⟨h.os, h.tape, h.output, h.size, fun k hk => h.block k (by omega) (.inl (by omega))⟩
theorem Keep.of_below {B : Nat} (h : Below B w w') (hB : w.heap.size ≤ B) (lo hi : Nat) : Keep lo hi w w' :=
  ⟨h.os, h.tape, h.output, h.size, fun k hk _ => h.block k (by omega)⟩
theorem Keep.of_below' {w0 : World} (h : Below w.heap.size w w') (_hs : w0.heap.size ≤ w.heap.size) {lo hi : Nat} : Keep lo hi w w' :=
  ⟨h.os, h.tape, h.output, h.size, fun k hk _ => h.block k hk⟩
theorem Keep.refl (lo hi : Nat) (w : World) : Keep lo hi w w := ⟨rfl, rfl, rfl, Nat.le_refl _, fun _ _ _ => rfl⟩
theorem Keep.trans (h : Keep lo hi w w') (k : Keep lo hi w' w2) : Keep lo hi w w2 :=
  ⟨k.os.trans h.os, k.tape.trans h.tape, k.output.trans h.output, Nat.le_trans h.size k.size, fun i hi' hor => (k.block i (Nat.lt_of_lt_of_le hi' h.size) hor).trans (h.block i hi' hor)⟩
theorem Keep.setCell (h : Keep lo hi w w') {p : Addr} (h1 : lo ≤ p.block) (h2 : p.block < hi) (u : Value) : Keep lo hi w (w'.setCell p u) :=
  h.trans ⟨rfl, rfl, rfl, by simp [World.setCell], fun k _ ho => Below.heap_setCell _ _ _ _ (by omega)⟩
theorem Keep.drewN (h : Keep lo hi w w') (m : Nat) : Keep lo hi w (w'.drewN m) := ⟨h.os, h.tape, h.output, h.size, h.block⟩
theorem below_drewN {B : Nat} {a w : World} (h : Below B a w) (n : Nat) : Below B a (w.drewN n) := ⟨h.os, h.tape, h.output, h.size, h.block⟩

theorem Rd.nil_ (w : World) (lo hi : Nat) (A : Option Addr) : Rd w lo hi A 0 [] := ⟨rfl, fun h => absurd h (by omega)⟩
theorem Rd.mono (h : Rd w lo hi A n xs) (h1 : lo' ≤ lo) (h2 : hi ≤ hi') : Rd w lo' hi' A n xs :=
  ⟨h.1, fun hn => by
    obtain ⟨b, off, e, p, q, hc⟩ := h.2 hn
    exact ⟨b, off, e, by omega, by omega, hc⟩⟩
theorem Rd.of_blocks (h : Rd w lo hi A n xs) (hk : ∀ k, lo ≤ k → k < hi → w'.heap[k]? = w.heap[k]?) : Rd w' lo hi A n xs :=
  ⟨h.1, fun hn => by
    obtain ⟨b, off, e, p, q, hc⟩ := h.2 hn
    exact ⟨b, off, e, p, q, fun j u hu => (World.cell?_of_block (w := w) (hk b p q)).trans (hc j u hu)⟩⟩
theorem Rd.below {B : Nat} (h : Rd w lo hi A n xs) (hb : Below B w w') (hB : hi ≤ B) : Rd w' lo hi A n xs :=
  h.of_blocks fun k _ q => hb.block k (by omega)
theorem Rd.keep (h : Rd w lo hi A n xs) (hk : Keep lo' hi' w w') (hs : hi ≤ w.heap.size) (hd : hi ≤ lo' ∨ hi' ≤ lo) : Rd w' lo hi A n xs :=
  h.of_blocks fun k p q => hk.block k (by omega) (by omega)
theorem Rd.drewN (h : Rd w lo hi A n xs) (m : Nat) : Rd (w.drewN m) lo hi A n xs := h
theorem Rd.len (h : Rd w lo hi A n xs) : xs.length = n := h.1
theorem Rd.at_ {k : Nat} (h : Rd w lo hi A n xs) (hk : k < n) : ∃ b off, A = some ⟨b, off, none⟩ ∧ lo ≤ b ∧ b < hi ∧ ∀ j u, xs[j]? = some u → w.cell? ⟨b, off + j, none⟩ = some u := h.2 (by omega)

theorem Ow.len {e : TypeId} {cap : Nat} (h : Ow w lo hi e A n cap xs) : xs.length = n := by simpa using h.1.1
theorem Ow.le {e : TypeId} {cap : Nat} (h : Ow w lo hi e A n cap xs) : n ≤ cap := by
  rcases h.1.2 with ⟨hv, h0⟩ | ⟨g, cap', cur, hv, hg, hh, hle, _⟩
  · omega
  · injection hv with _ _ e3
    omega
theorem Ow.form {e : TypeId} {cap : Nat} (h : Ow w lo hi e A n cap xs) (hn : 0 < n) : ∃ g, A = some ⟨g, 0, none⟩ ∧ lo ≤ g ∧ g < hi ∧ g < w.heap.size := by
  rcases h.1.2 with ⟨_, h0⟩ | ⟨g, cap', cur, hv, hg, hh, _⟩
  · omega
  · have hA : A = some ⟨g, 0, none⟩ := by injection hv
    subst hA
    have hl := h.1.lt g rfl
    exact ⟨g, rfl, hg, h.2 g rfl, hl.2⟩
theorem Ow.rd {e : TypeId} {cap : Nat} (h : Ow w lo hi e A n cap xs) : Rd w lo hi A n xs := by
  refine ⟨h.len, fun hn => ?_⟩
  obtain ⟨g, rfl, p, q, _⟩ := h.form hn
  exact ⟨g, 0, rfl, p, q, fun j u hu => by
    have := h.1.cells (g := g) rfl j u hu
    by_cases hj : j = 0
    · subst hj; simpa [Addr.add] using this
    · simpa [Addr.add, hj] using this⟩
theorem Ow.of_blocks {e : TypeId} {cap : Nat} (h : Ow w lo hi e A n cap xs) (hk : ∀ k, lo ≤ k → k < hi → w'.heap[k]? = w.heap[k]?) : Ow w' lo hi e A n cap xs := by
  refine ⟨⟨h.1.1, ?_⟩, h.2⟩
  rcases h.1.2 with h0 | ⟨g, cap', cur, hv, hg, hh, r⟩
  · exact .inl h0
  · have hlt : g < hi := h.2 g (by rw [hv]; rfl)
    exact .inr ⟨g, cap', cur, hv, hg, (hk g hg hlt).trans hh, r⟩
theorem Ow.below {e : TypeId} {cap B : Nat} (h : Ow w lo hi e A n cap xs) (hb : Below B w w') (hB : hi ≤ B) : Ow w' lo hi e A n cap xs :=
  h.of_blocks fun k _ q => hb.block k (by omega)
theorem Ow.lower {e : TypeId} {cap : Nat} (h : Ow w lo hi e A n cap xs) (h1 : lo' ≤ lo) : Ow w lo' hi e A n cap xs := by
  refine ⟨⟨h.1.1, ?_⟩, h.2⟩
  rcases h.1.2 with h0 | ⟨g, cap', cur, hv, hg, r⟩
  · exact .inl h0
  · exact .inr ⟨g, cap', cur, hv, by omega, r⟩
theorem Ow.keep {e : TypeId} {cap : Nat} (h : Ow w lo hi e A n cap xs) (hk : Keep lo' hi' w w') (hs : hi ≤ w.heap.size) (hd : hi ≤ lo' ∨ hi' ≤ lo) : Ow w' lo hi e A n cap xs :=
  h.of_blocks fun k p q => hk.block k (by omega) (by omega)
theorem Ow.drewN {e : TypeId} {cap : Nat} (h : Ow w lo hi e A n cap xs) (m : Nat) : Ow (w.drewN m) lo hi e A n cap xs := h
theorem Ow.cell {e : TypeId} {cap g k : Nat} (h : Ow w lo hi e (some ⟨g, 0, none⟩) n cap xs) (hk : k < n) : w.cell? ⟨g, k, none⟩ = xs[k]? := h.1.cellAt k (by omega)
theorem Ow.free {e : TypeId} {cap g : Nat} (h : Ow w lo hi e (some ⟨g, 0, none⟩) n cap xs) (k : Nat) : w.frozen? ⟨g, k, none⟩ = false := h.1.frozenAt k
theorem Ow.set_ {e : TypeId} {cap g k : Nat} (h : Ow w lo hi e (some ⟨g, 0, none⟩) n cap xs) (u : Value) : Ow (w.setCell ⟨g, k, none⟩ u) lo hi e (some ⟨g, 0, none⟩) n cap (xs.set k u) :=
  ⟨(h.1.stored k u).1, h.2⟩
end

theorem ret_bool {a b : Bool} (h : a = b) : Ending.returned (.bool a) = .returned (.bool b) := by rw [h]
theorem ret_int {k : IntKind} {a b : Int} (h : a = b) : Ending.returned (.int k a) = .returned (.int k b) := by rw [h]

/-- Behind a call all old cells read as before (a rule for the walk). -/
theorem bcell {W w1 : World} (hb : Below W.heap.size W w1) : ∀ b o, b < W.heap.size → w1.cell? ⟨b, o, none⟩ = W.cell? ⟨b, o, none⟩ := fun b o h => hb.cell (p := ⟨b, o, none⟩) h

theorem ext_of {xs ys : List Value} (hl : xs.length = ys.length) (h : ∀ j, j < xs.length → xs[j]? = ys[j]?) : xs = ys := by
  apply List.ext_getElem? 
  intro j
  by_cases hj : j < xs.length
  · exact h j hj
  · rw [List.getElem?_eq_none (by omega), List.getElem?_eq_none (by omega)]

def ints (zs : List Int) : List Value := zs.map (Value.int .i64)
theorem ints_len (zs : List Int) : (ints zs).length = zs.length := by simp [ints]
theorem ints_at (zs : List Int) (k : Nat) (h : k < zs.length) : (ints zs)[k]? = some (.int .i64 (zs.getD k 0)) := by
  simp [ints, h]
theorem ints_inj {a b : List Int} (h : ints a = ints b) : a = b := by
  induction a generalizing b with
  | nil => cases b with
    | nil => rfl
    | cons _ _ => simp [ints] at h
  | cons x a ih => cases b with
    | nil => simp [ints] at h
    | cons y b =>
      simp [ints] at h
      rw [h.1, ih (by simpa [ints] using h.2)]
end Go.Proofs.Ythedanpldebjcaa
namespace Go.Proofs.Ythedanpldebjcaa
open Go.RowKit

/-- The block q holds the cells cs, and may be written. -/
structure Box (w : World) (q : Nat) (cs : List Value) : Prop where
  at_ : ∀ k v, cs[k]? = some v → w.cell? ⟨q, k, none⟩ = some v
  fr : ∀ j, w.frozen? ⟨q, j, none⟩ = false
  lt : q < w.heap.size
theorem Box.new {w : World} {cs : Array Value} {t : TypeId} {q : Nat} {l : List Value} (hq : q = w.heap.size) (hl : l = cs.toList) : Box (w.alloc (.cells cs t)) q l := by
  subst hq
  subst hl
  have hh := heap_alloc_new w (.cells cs t)
  refine ⟨fun k v hv => ?_, fun j => ?_, by simp⟩
  · simp only [World.cell?, hh, Option.isSome_none, Bool.false_eq_true, if_false]
    simpa using hv
  · simp only [World.frozen?, hh]
    simp
theorem Box.below {w w1 : World} {q : Nat} {cs : List Value} (h : Box w q cs) (hb : Below w.heap.size w w1) : Box w1 q cs :=
  ⟨fun k v hv => (hb.cell (p := ⟨q, k, none⟩) h.lt).trans (h.at_ k v hv), fun j => (hb.frozen (p := ⟨q, j, none⟩) h.lt).trans (h.fr j), Nat.lt_of_lt_of_le h.lt hb.size⟩
theorem Box.alloc {w : World} {q : Nat} {cs : List Value} (h : Box w q cs) (o : Obj) : Box (w.alloc o) q cs := h.below ((Below.refl _ _).alloc (Nat.le_refl _) o)
theorem Box.drewN {w : World} {q : Nat} {cs : List Value} (h : Box w q cs) (m : Nat) : Box (w.drewN m) q cs := ⟨h.at_, h.fr, h.lt⟩
theorem Box.drew {w : World} {q : Nat} {cs : List Value} (h : Box w q cs) : Box w.drew q cs := ⟨h.at_, h.fr, h.lt⟩
theorem Box.keep {w w1 : World} {q lo hi : Nat} {cs : List Value} (h : Box w q cs) (hk : Keep lo hi w w1) (ho : q < lo ∨ hi ≤ q) : Box w1 q cs := by
  have hb := hk.block q h.lt ho
  refine ⟨fun k v hv => (World.cell?_of_block hb).trans (h.at_ k v hv), fun j => ?_, Nat.lt_of_lt_of_le h.lt hk.size⟩
  have := h.fr j
  simp only [World.frozen?] at this ⊢
  rw [hb]
  exact this
theorem Box.set {w : World} {q k : Nat} {cs : List Value} (h : Box w q cs) (v : Value) (hk : k < cs.length) : Box (w.setCell ⟨q, k, none⟩ v) q (cs.set k v) := by
  refine ⟨fun j u hu => ?_, fun j => ?_, by simpa [World.setCell] using h.lt⟩
  · by_cases hj : j = k
    · subst hj
      have : u = v := by simpa [hk] using hu.symm
      subst this
      exact World.cell?_setCell_same _ _ _ (h.at_ j cs[j] (by simp))
    · rw [World.cell?_setCell_other _ _ _ _ (by simp <;> omega)]
      exact h.at_ j u (by rwa [List.getElem?_set_ne (by omega)] at hu)
  · rw [World.frozen?_setCell]; exact h.fr j
theorem Box.other {w : World} {q : Nat} {cs : List Value} (h : Box w q cs) {p : Addr} (hp : p.block ≠ q) (v : Value) : Box (w.setCell p v) q cs := by
  have hk : Keep p.block (p.block + 1) w (w.setCell p v) := (Keep.refl _ _ w).setCell (Nat.le_refl _) (Nat.lt_succ_self _) v
  exact h.keep hk (by omega)
/-- Forget how the world came about. -/
theorem wp_gen {P : Program} {c : Code} {Q : Exit → Act → World → Prop} {a : Act} {W : World} {R : World → Prop} (h : R W) (k : ∀ w', R w' → Code.wp P c Q a w') : Code.wp P c Q a W := k W h
theorem wpl_gen {P : Program} {A : Array Oper} {Q : Exit → Act → World → Prop} {L : List Oper} {a : Act} {W : World} {R : World → Prop} (h : R W) (k : ∀ w', R w' → wpList P A Q L a w') : wpList P A Q L a W := k W h
theorem calls_gen {P : Program} {f : FuncId} {args : Array Value} {Q : Ending → World → Prop} {W : World} {R : World → Prop} (h : R W) (k : ∀ w', R w' → Calls P f args w' Q) : Calls P f args W Q := k W h
end Go.Proofs.Ythedanpldebjcaa
