/- Two lists of the call's own; make within a region that draws. -/
import Derived.Test.YtpcaakmcjdginaaTruI3
import Derived.Test.YtpcaakmcjdginaaOne
import Derived.OrdersHeld
namespace Go.Proofs.Ytpcaakmcjdginaa
open Go.RowKit
set_option linter.unusedSimpArgs false
set_option linter.unusedVariables false

theorem Ow.block_ {w : World} {lo hi n g cap : Nat} {t : TypeId} {xs : List Value} (h : Ow w lo hi t (some ⟨g, 0, none⟩) n cap xs) : Ow w g (g + 1) t (some ⟨g, 0, none⟩) n cap xs := by
  refine ⟨⟨h.1.1, ?_⟩, fun g' e => ?_⟩
  · rcases h.1.2 with ⟨e, _⟩ | ⟨g', cap', cur, hv, hg, r⟩
    · injection e with e1; cases e1
    · have e : g' = g := by injection hv with e1; injection e1 with e2; injection e2 with e3; exact e3.symm
      subst e
      exact .inr ⟨g', cap', cur, hv, Nat.le_refl _, r⟩
  · have e1 : g = g' := by simpa [Value.ownBlock] using e
    omega
/-- Two lists of the call's own, each in a block of its own. -/
structure Two (w : World) (n g1 c1 : Nat) (xs : List Int) (g2 c2 : Nat) (ys : List Int) (wr : World) : Prop where
  o1 : Ow wr g1 (g1 + 1) 2 (some ⟨g1, 0, none⟩) n c1 (ints xs)
  o2 : Ow wr g2 (g2 + 1) 2 (some ⟨g2, 0, none⟩) n c2 (ints ys)
  ne : g1 ≠ g2
  l1 : w.heap.size ≤ g1
  l2 : w.heap.size ≤ g2
  u1 : g1 < wr.heap.size
  u2 : g2 < wr.heap.size
  b : Below w.heap.size w wr
section
variable {w wr w' : World} {n g1 c1 g2 c2 : Nat} {xs ys zs : List Int}
theorem Two.len (h : Two w n g1 c1 xs g2 c2 ys wr) : xs.length = n := by have := h.o1.len; rwa [ints_len] at this
theorem Two.len2 (h : Two w n g1 c1 xs g2 c2 ys wr) : ys.length = n := by have := h.o2.len; rwa [ints_len] at this
theorem Two.below (h : Two w n g1 c1 xs g2 c2 ys wr) (b : Below wr.heap.size wr w') : Two w n g1 c1 xs g2 c2 ys w' :=
  ⟨h.o1.below b h.u1, h.o2.below b h.u2, h.ne, h.l1, h.l2, Nat.lt_of_lt_of_le h.u1 b.size, Nat.lt_of_lt_of_le h.u2 b.size, h.b.trans (b.mono h.b.size)⟩
theorem Two.drewN (h : Two w n g1 c1 xs g2 c2 ys wr) (m : Nat) : Two w n g1 c1 xs g2 c2 ys (wr.drewN m) := ⟨h.o1, h.o2, h.ne, h.l1, h.l2, h.u1, h.u2, below_drewN h.b m⟩
theorem Two.dev (h : Two w n g1 c1 xs g2 c2 ys wr) (d : Devd wr g1 (g1 + 1) n g1 c1 zs w') : Two w n g1 c1 zs g2 c2 ys w' := by
  have hne := h.ne
  exact ⟨d.ow, h.o2.keep d.kp (Nat.succ_le_of_lt h.u2) (by omega), h.ne, h.l1, h.l2, Nat.lt_of_lt_of_le h.u1 d.kp.size, Nat.lt_of_lt_of_le h.u2 d.kp.size, h.b.trans (d.kp.below h.l1 h.b.size)⟩
theorem Two.ls (h : Two w n g1 c1 xs g2 c2 ys wr) (hf : n ≤ 1048576) : Ls xs (some ⟨g1, 0, none⟩) c1 wr := by
  have hl := h.len
  subst hl
  exact ⟨h.o1.rd.here, h.o1.le, hf⟩
theorem Two.add2 (h : Two w n g1 c1 xs g2 c2 ys wr) (k : Nat) (v : Int) : Two w n g1 c1 xs g2 c2 (addAt ys k v) (wr.setCell ⟨g2, k, none⟩ (.int .i64 (ys.getD k 0 + v))) := by
  have hk := keepAt (Keep.refl g2 (g2 + 1) wr) k (.int .i64 (ys.getD k 0 + v))
  have hne := h.ne
  exact ⟨h.o1.keep hk (Nat.succ_le_of_lt h.u1) (by omega), h.o2.add k v, h.ne, h.l1, h.l2, Nat.lt_of_lt_of_le h.u1 hk.size, Nat.lt_of_lt_of_le h.u2 hk.size, h.b.trans (hk.below h.l2 h.b.size)⟩
theorem Two.last (h : Two w n g1 c1 xs g2 c2 ys wr) : Ow wr w.heap.size wr.heap.size 2 (some ⟨g2, 0, none⟩) n c2 (ints ys) := (h.o2.lower h.l2).raise (Nat.succ_le_of_lt h.u2)
end
/-- 'make' as an operation of a region that draws. -/
theorem op_make_full {P : Program} (w : World) {o : Oper} {a : Act} {K : Act → World → Prop} {Q : Exit → Act → World → Prop}
    (l c : Operand) (t : TypeId) (hop : o.op = Op.makeSlice t l c)
    (base : Nat) (e : TypeId) (i : TypeInfo) (z : Value) (size : Nat) (h1 : P.underlying t = some (.slice e)) (h2 : P.info? e = some i) (h3 : i.zero = some z) (h4 : i.size = size)
    (kl kc : IntKind) (L C : Int) (n : Nat) (hl : a.eval l = .int kl L) (hc : a.eval c = .int kc C) (hL : L = (n : Int)) (hC : C = (n : Int)) (b2 : i.bytes * n ≤ 281474976710656) (b3 : n ≤ maxLen) (b4 : base ≤ w.heap.size)
    (hK : ∀ w', w'.ownsRow base e size (.slice (some ⟨w.heap.size, 0, none⟩) n n) n (madeCells z.cells (n * size)).toList → w.grownBy w' none → K (a.put o.dst (.slice (some ⟨w.heap.size, 0, none⟩) n n)) w') :
    Oper.wp P o a w K Q := by
  obtain ⟨w', hrun, r1, r2⟩ := run_make_full (P := P) w base t e i z size h1 h2 h3 h4 kl kc n b2 b3 b4
  subst hL
  subst hC
  unfold Oper.wp
  simp [execOp, hop, hl, hc, hrun, Result.andThen]
  exact hK w' r1 r2
end Go.Proofs.Ytpcaakmcjdginaa
