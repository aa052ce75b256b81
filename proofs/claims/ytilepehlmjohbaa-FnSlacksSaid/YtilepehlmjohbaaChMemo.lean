/- The needs that a chain knows: a map of the call's own, keyed by two numbers of teeth, and the chain itself behind a pointer. -/
import Derived.Test.YtilepehlmjohbaaMgSlacks6
import Derived.Test.YtilepehlmjohbaaTenB
import Derived.Test.YtilepehlmjohbaaMgSlacks3
import Derived.Maps.OwnSet
namespace Go.Proofs.Ytilepehlmjohbaa
open Go.RowKit
set_option linter.unusedSimpArgs false
set_option linter.unusedVariables false

def pairV (a b : Int) : Value := .agg #[.int .i64 a, .int .i64 b]
theorem laidOutP : laidOutB Try.prog = true := by kernel_rfl
theorem keyRow : (95 : TypeId) < Try.prog.types.size := of_decide_eq_true (by kernel_rfl)
theorem keyWide : (match Try.prog.underlying 95 with | some (.array _ _) | some (.struct _) => true | _ => false) = true := by rw [Try.underlying95]
theorem keyed : Go.Maps.Keyed Try.prog 95 := Go.Maps.Keyed.of_law (deep_law_laid laidOutP (m := 2) (by omega) keyRow (by kernel_rfl) keyWide)
theorem cellsKey : Try.prog.cellsOf 95 = 2 := by kernel_rfl
theorem cellsI64 : Try.prog.cellsOf 2 = 1 := by kernel_rfl
theorem keyDeep : Try.prog.keyType 95 = true := by kernel_rfl
theorem zero64 (w : World) : (zeroValue 2).run Try.prog w = .ok (.int .i64 0) w := by kernel_rfl
theorem pair_key_of {P : Program} {k e : TypeId} {f0 f1 : Field} (hk : P.underlying k = some (.struct #[f0, f1])) (he : P.underlying e = some (.int .i64)) (h0 : f0.type = e ∧ f0.offset = 0 ∧ f0.name ≠ "_") (h1 : f1.type = e ∧ f1.offset = 1 ∧ f1.name ≠ "_")
    (hd : P.keyType k = true) (hck : P.cellsOf k = 2) (hce : P.cellsOf e = 1) (hsz : 0 < P.types.size) {a b : Int} (ha : (Lit.int .i64 a).wf = true) (hb : (Lit.int .i64 b).wf = true) : ∃ kl, keyOf P k (pairV a b) = some kl := by
  obtain ⟨m, hm⟩ : ∃ m, P.types.size = m + 1 := ⟨P.types.size - 1, (Nat.succ_pred_eq_of_pos hsz).symm⟩
  unfold keyOf pairV
  rw [hk, hd]
  simp [Value.formed, hk, hck, hce, Program.keyLits, hm, he, ha, hb, Value.cells, h0, h1]
theorem pair_key {a b : Int} (ha : (Lit.int .i64 a).wf = true) (hb : (Lit.int .i64 b).wf = true) : ∃ kl, keyOf Try.prog 95 (pairV a b) = some kl :=
  pair_key_of Try.underlying95 Try.underlying2 ⟨rfl, rfl, by decide⟩ ⟨rfl, rfl, by decide⟩ keyDeep cellsKey cellsI64 (Nat.lt_of_le_of_lt (Nat.zero_le _) keyRow) ha hb
/-- Block B is a map of at most n needs, each of which is as f says. -/
def Memo (w : World) (B n : Nat) (f : Int → Int → Int) : Prop :=
  ∃ D : DataW Unit, w.ownsMap Try.prog 95 (plainElem Try.prog 2) B n D ∧
    ∀ a b kl, keyOf Try.prog 95 (pairV a b) = some kl → Maps.has D kl = true → D.atKey kl (.lit (.int .i64 0)) = .lit (.int .i64 (f a b))
theorem Memo.made (w : World) (f : Int → Int → Int) : Memo (w.alloc (.map #[] 0)) w.heap.size 0 f :=
  ⟨_, World.ownsMap_made w _ _ _, fun a b kl _ h => by simp [Maps.has_eq] at h⟩
theorem Memo.lt {w : World} {B n : Nat} {f : Int → Int → Int} (h : Memo w B n f) : B < w.heap.size := by
  obtain ⟨D, ho, _⟩ := h
  exact ho.lt
theorem Memo.of_block {w w' : World} {B n : Nat} {f : Int → Int → Int} (h : Memo w B n f) (e : w'.heap[B]? = w.heap[B]?) : Memo w' B n f := by
  obtain ⟨D, ⟨es, clock, hb, r⟩, hf⟩ := h
  exact ⟨D, ⟨es, clock, e.trans hb, r⟩, hf⟩
theorem Memo.keep {w w1 : World} {B n lo hi : Nat} {f : Int → Int → Int} (h : Memo w B n f) (hk : Keep lo hi w w1) (ho : B < lo ∨ hi ≤ B) : Memo w1 B n f := h.of_block (hk.block B h.lt ho)
theorem Memo.below {w w1 : World} {B n : Nat} {f : Int → Int → Int} (h : Memo w B n f) (hb : Below w.heap.size w w1) : Memo w1 B n f := h.of_block (hb.block B h.lt)
theorem Memo.drewN {w : World} {B n : Nat} {f : Int → Int → Int} (h : Memo w B n f) (m : Nat) : Memo (w.drewN m) B n f := h
theorem Memo.drew {w : World} {B n : Nat} {f : Int → Int → Int} (h : Memo w B n f) : Memo w.drew B n f := h
theorem Memo.alloc {w : World} {B n : Nat} {f : Int → Int → Int} (h : Memo w B n f) (o : Obj) : Memo (w.alloc o) B n f := h.below ((Below.refl _ _).alloc (Nat.le_refl _) o)
theorem Memo.setCell {w : World} {B n : Nat} {f : Int → Int → Int} (h : Memo w B n f) {p : Addr} (hp : p.block ≠ B) (v : Value) : Memo (w.setCell p v) B n f :=
  h.keep ((Keep.refl p.block (p.block + 1) w).setCell (Nat.le_refl _) (Nat.lt_succ_self _) v) (by omega)
theorem Memo.grow {w w1 : World} {B n : Nat} {ob : Option Nat} {f : Int → Int → Int} (h : Memo w B n f) (k : w.grownBy w1 ob) (hn : some B ≠ ob) : Memo w1 B n f := h.of_block (k.block B h.lt hn)
theorem Memo.put {w' : World} {B n : Nat} {f : Int → Int → Int} {D : DataW Unit} {a b v : Int} {kl : Lit}
    (hown : w'.ownsMap Try.prog 95 (plainElem Try.prog 2) B n (D.put kl (.lit (.int .i64 v)))) (hD : Maps.IsMap D)
    (hkey : keyOf Try.prog 95 (pairV a b) = some kl) (hv : v = f a b)
    (h : ∀ a b kl, keyOf Try.prog 95 (pairV a b) = some kl → Maps.has D kl = true → D.atKey kl (.lit (.int .i64 0)) = .lit (.int .i64 (f a b))) : Memo w' B n f :=
  ⟨_, hown, fun a' b' kl' hk' hh => by
    by_cases e : kl' = kl
    · subst e
      have he := keyed.inj hk' hkey
      obtain ⟨rfl, rfl⟩ : a' = a ∧ b' = b := by simpa [pairV] using he
      rw [Maps.atKey_put_same hD (keyed.key hkey), hv]
    · rw [Maps.atKey_put_other e]
      rw [Maps.has_put_other e] at hh
      exact h a' b' kl' hk' hh⟩
/-- All needs are forgotten. -/
theorem Memo.clear {w : World} {B n : Nat} {f : Int → Int → Int} (h : Memo w B n f) (g : Int → Int → Int) :
    ∃ w', (∀ ty : TypeId, (Builtin.clear_ #[85] ty #[.map (some B)]).run Try.prog w = .ok (.tuple #[]) w') ∧ Memo w' B 0 g ∧ w.mapTurned w' B := by
  obtain ⟨D, ⟨es, clock, hb, F, _, rfl⟩, _⟩ := h
  refine ⟨ChangeMaps.setBlock w B (.map #[] clock), fun ty => ?_, ⟨.map [], ⟨#[], clock, ChangeMaps.heap_setBlock_same hb _, ⟨by simp, MapKept.stamped_empty clock, by simp⟩, Nat.le_refl _, rfl⟩, fun a b kl _ h => by simp [Maps.has_eq] at h⟩, ⟨es, clock, #[], clock, hb, rfl⟩⟩
  simp [Builtin.clear_, run_underlying Try.underlying85, MapKept.run_getObj_map hb, MapKept.run_setObj_map _ hb, Result.andThen, ChangeMaps.setBlock]
theorem keep_turned {w w' : World} {B : Nat} (h : w.mapTurned w' B) : Keep B (B + 1) w w' := by
  have k := h.grown
  exact ⟨k.os, k.tape, k.output, k.size, fun i hi ho => k.block i hi (by simp; omega)⟩
theorem keep_grown {w w' : World} {B : Nat} (k : w.grownBy w' (some B)) : Keep B (B + 1) w w' := ⟨k.os, k.tape, k.output, k.size, fun i hi ho => k.block i hi (by simp; omega)⟩
theorem grown_keep {w w' : World} {B : Nat} (k : Keep B (B + 1) w w') : w.grownBy w' (some B) := ⟨k.os, k.tape, k.output, k.size, fun i hi ho => k.block i hi (by simp at ho; omega)⟩
/-- A chain: its links, its stay, and the needs that it knows. -/
structure Chn (w : World) (q B n : Nat) (l s : Int) : Prop where
  box : Box w q [.int .i64 l, .int .i64 s, .map (some B)]
  memo : Memo w B n (needI s)
  apart : q ≠ B
end Go.Proofs.Ytilepehlmjohbaa
