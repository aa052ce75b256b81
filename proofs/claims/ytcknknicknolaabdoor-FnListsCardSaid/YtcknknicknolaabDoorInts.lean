/- Contracts of the laws' helpers on lists of int64: toInt64S copies, eqInt64S compares, markInt64S writes, heldInt64S looks. -/
import Derived.Test.YtcknknicknolaabDoorProg
import Derived.Test.YtcknknicknolaabDoorMem
import Derived.WalkKit
import Derived.WalkLawsBesides
import Derived.WalkSpells
import Derived.Deep.QuietTactic
import Derived.BigQuiet
import Derived.Deep.LoopGhost
namespace Go.Proofs.YtcknknicknolaabDoor
open Go.RowKit

theorem infoInt : (Tryd.prog.info? 2).map (fun i => (i.zero, i.size, i.bytes)) = some (some (.int .i64 0), 1, 8) := by kernel_rfl

/-- What a call leaves that hands back a new list of int64. -/
def NewInts (w : World) (zs : List Int) (e : Ending) (w' : World) : Prop :=
  ∃ A cap, e = .returned (.slice A zs.length cap) ∧ Ow w' w.heap.size w'.heap.size 2 A zs.length cap (ints zs) ∧ Below w.heap.size w w'

def AsTo (w : World) (g n : Nat) (zs : List Int) (k : Nat) (wr : World) : Prop :=
  ∃ xs, Ow wr w.heap.size wr.heap.size 2 (some ⟨g, 0, none⟩) n n xs ∧ (∀ j, j < k → xs[j]? = (ints zs)[j]?) ∧ Below w.heap.size w wr

theorem AsTo.step {w wr : World} {g n k : Nat} {zs : List Int} (h : AsTo w g n zs k wr) (hn : zs.length = n) (hk : k < n) :
    AsTo w g n zs (k + 1) (wr.setCell ⟨g, k, none⟩ (.int .i64 (zs.getD k 0))) := by
  obtain ⟨xs, ho, hx, hb⟩ := h
  have hl := ho.len
  obtain ⟨g', e, p, q, r⟩ := ho.form (by omega)
  have : g' = g := by injection e with e; injection e with e; exact e.symm
  subst this
  refine ⟨xs.set k (.int .i64 (zs.getD k 0)), ?_, ?_, hb.setCell p _⟩
  · have := ho.set_ (k := k) (.int .i64 (zs.getD k 0))
    exact ⟨this.1, fun g1 h1 => by simpa [World.setCell] using this.2 g1 h1⟩
  · intro j hj
    by_cases he : j = k
    · subst he
      rw [ints_at zs j (by omega)]
      simp [hl, hk]
    · rw [List.getElem?_set_ne (by omega)]
      exact hx j (by omega)
theorem AsTo.done {w wr : World} {g n : Nat} {zs : List Int} (h : AsTo w g n zs n wr) (hn : zs.length = n) : NewInts w zs (.returned (.slice (some ⟨g, 0, none⟩) n n)) wr := by
  obtain ⟨xs, ho, hx, hb⟩ := h
  have hl := ho.len
  subst hn
  have : xs = ints zs := ext_of (by rw [hl, ints_len]) (fun j hj => hx j (by omega))
  subst this
  exact ⟨_, _, rfl, ho, hb⟩


/-- What a call leaves that only reads: an answer, and at most draws. -/
def Only (v : Value) (w : World) (e : Ending) (w' : World) : Prop := e = .returned v ∧ ∃ m, w' = w.drewN m


def AgreeTo (zs ys : List Int) (k : Nat) : Prop := ∀ j, j < k → zs.getD j 0 = ys.getD j 0
theorem AgreeTo.no {zs ys : List Int} {k : Nat} (h : (zs[k]?.getD 0 != ys[k]?.getD 0) = true) : ¬ zs = ys := by
  rintro rfl
  simp at h
theorem AgreeTo.succ {zs ys : List Int} {k : Nat} (h : AgreeTo zs ys k) (e : (zs[k]?.getD 0 != ys[k]?.getD 0) = false) : AgreeTo zs ys (k + 1) := by
  intro j hj
  by_cases hk : j = k
  · subst hk; simpa using e
  · exact h j (by omega)
theorem AgreeTo.all {zs ys : List Int} (hl : zs.length = ys.length) (h : AgreeTo zs ys zs.length) : zs = ys := by
  apply List.ext_getElem hl
  intro j h1 h2
  have := h j h1
  simpa [h1, h2] using this



/-- The marks k, k + 1, .. of n elements. -/
def marks (k n : Nat) : List Int := (List.range n).map (fun j => ((k + j : Nat) : Int))
theorem marks_len (k n : Nat) : (marks k n).length = n := by simp [marks]
theorem marks_at (k n j : Nat) (h : j < n) : (marks k n).getD j 0 = ((k + j : Nat) : Int) := by simp [marks, h]

/-- Behind markInt64S: the next mark, the marks written, nothing else turned. -/
def Marked (w : World) (lo hi : Nat) (A : Option Addr) (n cap k : Nat) (e : Ending) (w' : World) : Prop :=
  e = .returned (.int .i64 ((k + n : Nat) : Int)) ∧ Ow w' lo hi 2 A n cap (ints (marks k n)) ∧ Keep lo hi w w'

def MarkTo (w : World) (lo hi : Nat) (A : Option Addr) (n cap k : Nat) (j : Nat) (wr : World) : Prop :=
  ∃ xs, Ow wr lo hi 2 A n cap xs ∧ (∀ i, i < j → xs[i]? = some (.int .i64 ((k + i : Nat) : Int))) ∧ Keep lo hi w wr
theorem MarkTo.step {w wr : World} {lo hi g n cap k j : Nat} (h : MarkTo w lo hi (some ⟨g, 0, none⟩) n cap k j wr) (hj : j < n) :
    MarkTo w lo hi (some ⟨g, 0, none⟩) n cap k (j + 1) (wr.setCell ⟨g, j, none⟩ (.int .i64 ((k + j : Nat) : Int))) := by
  obtain ⟨xs, ho, hx, hb⟩ := h
  have hl := ho.len
  obtain ⟨g', e, p, q, r⟩ := ho.form (by omega)
  have : g' = g := by injection e with e; injection e with e; exact e.symm
  subst this
  refine ⟨xs.set j (.int .i64 ((k + j : Nat) : Int)), ho.set_ _, ?_, hb.setCell p q _⟩
  intro i hi2
  by_cases he : i = j
  · subst he
    simp [hl, hj]
  · rw [List.getElem?_set_ne (by omega)]
    exact hx i (by omega)
theorem MarkTo.done {w wr : World} {lo hi n cap k : Nat} {A : Option Addr} (h : MarkTo w lo hi A n cap k n wr) : Marked w lo hi A n cap k (.returned (.int .i64 ((k + n : Nat) : Int))) wr := by
  obtain ⟨xs, ho, hx, hb⟩ := h
  have hl := ho.len
  have : xs = ints (marks k n) := ext_of (by rw [hl, ints_len, marks_len]) (fun j hj => by rw [hx j (by omega), ints_at _ _ (by rw [marks_len]; omega), marks_at k n j (by omega)])
  subst this
  exact ⟨rfl, ho, hb⟩


end Go.Proofs.YtcknknicknolaabDoor
