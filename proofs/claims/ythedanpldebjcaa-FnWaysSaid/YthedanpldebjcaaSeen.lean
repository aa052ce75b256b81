/- The gears that are seen: a map of the call's own, keyed by gears, each with the way to it. -/
import Derived.Test.YthedanpldebjcaaGearI3
import Derived.Test.YthedanpldebjcaaTenB
import Derived.Test.YthedanpldebjcaaPlainShift5
import Derived.Maps.OwnSet
namespace Go.Proofs.Ythedanpldebjcaa
open Go.RowKit
set_option linter.unusedSimpArgs false
set_option linter.unusedVariables false

theorem laidOutG : laidOutB Try.prog = true := by kernel_rfl
theorem keyRowG : (76 : TypeId) < Try.prog.types.size := of_decide_eq_true (by kernel_rfl)
theorem keyWideG : (match Try.prog.underlying 76 with | some (.array _ _) | some (.struct _) => true | _ => false) = true := by rw [Try.underlying76]
set_option maxRecDepth 100000 in
theorem keyedG : Go.Maps.Keyed Try.prog 76 := Go.Maps.Keyed.of_law (deep_law_laid laidOutG (m := 2) (by omega) keyRowG (by kernel_rfl) keyWideG)
theorem cellsGear : Try.prog.cellsOf 76 = 4 := by kernel_rfl
theorem cellsG64 : Try.prog.cellsOf 2 = 1 := by kernel_rfl
theorem keyDeepG : Try.prog.keyType 76 = true := by kernel_rfl
theorem zeroRowG (w : World) : (zeroValue 24).run Try.prog w = .ok (.slice none 0 0) w := by kernel_rfl
theorem quad_key_of {P : Program} {k e : TypeId} {f0 f1 f2 f3 : Field} (hk : P.underlying k = some (.struct #[f0, f1, f2, f3])) (he : P.underlying e = some (.int .i64)) (h0 : f0.type = e ∧ f0.offset = 0 ∧ f0.name ≠ "_") (h1 : f1.type = e ∧ f1.offset = 1 ∧ f1.name ≠ "_") (h2 : f2.type = e ∧ f2.offset = 2 ∧ f2.name ≠ "_") (h3 : f3.type = e ∧ f3.offset = 3 ∧ f3.name ≠ "_")
    (hd : P.keyType k = true) (hck : P.cellsOf k = 4) (hce : P.cellsOf e = 1) (hsz : 0 < P.types.size) {a b c d : Int} (ha : (Lit.int .i64 a).wf = true) (hb : (Lit.int .i64 b).wf = true) (hc : (Lit.int .i64 c).wf = true) (hd4 : (Lit.int .i64 d).wf = true) : ∃ kl, keyOf P k (gV a b c d) = some kl := by
  obtain ⟨m, hm⟩ : ∃ m, P.types.size = m + 1 := ⟨P.types.size - 1, (Nat.succ_pred_eq_of_pos hsz).symm⟩
  unfold keyOf gV
  rw [hk, hd]
  simp [Value.formed, hk, hck, hce, Program.keyLits, hm, he, ha, hb, hc, hd4, Value.cells, h0, h1, h2, h3]
theorem quad_key {a b c d : Int} (ha : (Lit.int .i64 a).wf = true) (hb : (Lit.int .i64 b).wf = true) (hc : (Lit.int .i64 c).wf = true) (hd : (Lit.int .i64 d).wf = true) : ∃ kl, keyOf Try.prog 76 (gV a b c d) = some kl :=
  quad_key_of Try.underlying76 Try.underlying2 ⟨rfl, rfl, by decide⟩ ⟨rfl, rfl, by decide⟩ ⟨rfl, rfl, by decide⟩ ⟨rfl, rfl, by decide⟩ keyDeepG cellsGear cellsG64 (Nat.lt_of_le_of_lt (Nat.zero_le _) keyRowG) ha hb hc hd
/-- How an element reads: as the value that it is. -/
def heldE (v : Value) : Option (DataW Value × List MemPlace) := some (.held v, [])
/-- The keys of gears. -/
def Keys (x : Trn) (key : Gr → Lit) : Prop := ∀ g, GOk x g → keyOf Try.prog 76 (gearV x g) = some (key g)
theorem keys_ex {x : Trn} (hx : Train x) : ∃ key : Gr → Lit, Keys x key := by
  have h : ∀ g : Gr, ∃ l : Lit, GOk x g → keyOf Try.prog 76 (gearV x g) = some l := fun g => by
    by_cases hg : GOk x g
    · have h1 := hx.fb hg
      have h2 := hx.rb hg
      have h3 := hx.f.few
      have h4 := hx.r.few
      have h5 := hg.1
      have h6 := hg.2
      obtain ⟨kl, h⟩ := quad_key (a := g.1) (b := g.2) (c := fI x g.1) (d := rI x g.2) (WalkArith.wf_i64 (by omega)) (WalkArith.wf_i64 (by omega)) (WalkArith.wf_i64 (by omega)) (WalkArith.wf_i64 (by omega))
      exact ⟨kl, fun _ => h⟩
    · exact ⟨.bool false, fun h => absurd h hg⟩
  exact ⟨fun g => Classical.choose (h g), fun g hg => Classical.choose_spec (h g) hg⟩
section
variable {x : Trn} {key : Gr → Lit}
theorem gk_of (K : Keys x key) {g : Gr} (hg : GOk x g) : keyOf Try.prog 76 (gearV x g) = some (key g) := K g hg
theorem gk_inj (K : Keys x key) {a b : Gr} (ha : GOk x a) (hb : GOk x b) (e : key a = key b) : a = b := by
  have h1 := gk_of K ha
  rw [e] at h1
  have h2 := keyedG.inj h1 (gk_of K hb)
  unfold gearV gV at h2
  simp only [Value.agg.injEq, Array.mk.injEq, List.cons.injEq, Value.int.injEq, true_and] at h2
  exact Prod.ext (by omega) (by omega)
theorem gk_ne (K : Keys x key) {a b : Gr} (ha : GOk x a) (hb : GOk x b) (h : a ≠ b) : key a ≠ key b := fun e => h (gk_inj K ha hb e)
end
theorem Ow.heapAt {w : World} {lo hi n cap g : Nat} {e : TypeId} {A : Option Addr} {xs : List Value} (h : Ow w lo hi e A n cap xs) (hg : (Value.slice A n cap).ownBlock = some g) : ∃ cur, w.heap[g]? = some (.cells cur e (0, 0)) := by
  rcases h.1.2 with ⟨hv, _⟩ | ⟨g2, cap2, cur, hv, _, hh, _⟩
  · rw [hv] at hg; simp [Value.ownBlock] at hg
  · rw [hv] at hg
    obtain rfl : g2 = g := by simpa [Value.ownBlock] using hg
    exact ⟨cur, hh⟩
/-- A list that lies in a row of the call's own. -/
structure Rw (w : World) (base : Nat) (zs : List Int) (v : Value) : Prop where
  ex : ∃ A c, v = .slice A zs.length c ∧ Ow w base w.heap.size 2 A zs.length c (ints zs)
  nil : zs = [] → v = .slice none 0 0
theorem Rw.kept {w w1 : World} {base : Nat} {zs : List Int} {v : Value} {ob : Option Nat} (h : Rw w base zs v) (k : w.grownBy w1 ob) (ho : ∀ g, ob = some g → ∀ cur, w.heap[g]? ≠ some (.cells cur 2 (0, 0))) : Rw w1 base zs v := by
  have hn := h.nil
  obtain ⟨A, c, rfl, o⟩ := h.ex
  refine ⟨⟨A, c, rfl, o.1.kept k ?_, fun g hg => Nat.lt_of_lt_of_le (o.2 g hg) k.size⟩, hn⟩
  cases hb : (Value.slice A zs.length c).ownBlock with
  | none => exact .inl rfl
  | some g =>
    refine .inr fun e => ?_
    obtain ⟨cur, hc⟩ := o.heapAt hb
    exact ho g e.symm cur hc
theorem Rw.none_ (w : World) (base : Nat) : Rw w base [] (.slice none 0 0) := ⟨⟨none, 0, rfl, ow_nil _ _ _ _⟩, fun _ => rfl⟩
theorem grownB_ {B : Nat} {w w1 : World} (h : Below B w w1) (hB : w.heap.size ≤ B) : w.grownBy w1 none := ⟨h.os, h.tape, h.output, h.size, fun i hi _ => h.block i (by omega)⟩
/-- Block B is a map: to each gear of L the way of ws at its place, to each gear of X something. -/
structure Seen (x : Trn) (key : Gr → Lit) (base B n : Nat) (L X : List Gr) (ws : List (List Int)) (D : DataW Value) (w : World) : Prop where
  own : w.ownsMap Try.prog 76 heldE B n D
  size : Maps.size D = L.length + X.length
  has : ∀ g, GOk x g → Maps.has D (key g) = (L.contains g || X.contains g)
  len : ws.length = L.length
  at_ : ∀ k, k < L.length → ∃ v, D.atKey (key (L.getD k (0, 0))) (.held (.slice none 0 0)) = .held v ∧ Rw w base (ws.getD k []) v
  ok : ∀ g ∈ L, GOk x g
section
variable {x : Trn} {key : Gr → Lit} {base B n : Nat} {L X : List Gr} {ws : List (List Int)} {D : DataW Value} {w w1 : World}
theorem Seen.not_cells (h : Seen x key base B n L X ws D w) (t : TypeId) : ∀ cur, w.heap[B]? ≠ some (.cells cur t (0, 0)) := by
  obtain ⟨es, clock, hb, _⟩ := h.own
  intro cur e
  rw [hb] at e
  simp at e
theorem Seen.lt (h : Seen x key base B n L X ws D w) : B < w.heap.size := h.own.lt
theorem Seen.kept {ob : Option Nat} (h : Seen x key base B n L X ws D w) (k : w.grownBy w1 ob) (hB : some B ≠ ob) (ho : ∀ g, ob = some g → ∀ cur, w.heap[g]? ≠ some (.cells cur 2 (0, 0))) : Seen x key base B n L X ws D w1 :=
  ⟨h.own.kept k hB, h.size, h.has, h.len, fun i hi => by
    obtain ⟨v, h1, h2⟩ := h.at_ i hi
    exact ⟨v, h1, h2.kept k ho⟩, h.ok⟩
theorem Seen.below (h : Seen x key base B n L X ws D w) (b : Below w.heap.size w w1) : Seen x key base B n L X ws D w1 := h.kept (grownB_ b (Nat.le_refl _)) (by simp) (fun g e => by simp at e)
theorem Seen.drewN (h : Seen x key base B n L X ws D w) (m : Nat) : Seen x key base B n L X ws D (w.drewN m) := h.below (below_drewN (Below.refl _ _) m)
theorem Seen.drew (h : Seen x key base B n L X ws D w) : Seen x key base B n L X ws D w.drew := h.drewN 1
theorem Seen.alloc (h : Seen x key base B n L X ws D w) (o : Obj) : Seen x key base B n L X ws D (w.alloc o) := h.below ((Below.refl _ _).alloc (Nat.le_refl _) o)
theorem getD_gl {l : List Gr} {v : Gr} {i : Nat} (h : i < l.length) : (l ++ [v]).getD i (0, 0) = l.getD i (0, 0) := getD_l h
/-- A gear that was not there is put in, with its way. -/
theorem Seen.put (h : Seen x key base B n L X ws D w) (K : Keys x key) {g : Gr} (hg : GOk x g) (h1 : L.contains g = false) (h2 : X.contains g = false) {zs : List Int} {v : Value} (hr : Rw w base zs v)
    (hown : w1.ownsMap Try.prog 76 heldE B (n + 1) (D.put (key g) (.held v))) (k : w.grownBy w1 (some B)) : Seen x key base B (n + 1) (L ++ [g]) X (ws ++ [zs]) (D.put (key g) (.held v)) w1 := by
  have hm := h.own.isMap
  have hh : Maps.has D (key g) = false := by rw [h.has g hg, h1, h2]; rfl
  have hc : ∀ b, some B = some b → ∀ cur, w.heap[b]? ≠ some (.cells cur 2 (0, 0)) := fun b e cur => by
    obtain rfl : B = b := by simpa using e
    exact h.not_cells _ cur
  refine ⟨hown, ?_, fun u hu => ?_, by simp [h.len], fun i hi => ?_, fun u hu => ?_⟩
  · rw [Maps.size_put (h.own.tidy keyedG), hh, h.size]
    simp
    omega
  · by_cases e : u = g
    · subst e
      rw [Maps.has_put_same hm (keyedG.key (gk_of K hg))]
      simp
    · rw [Maps.has_put_other (gk_ne K hu hg e), h.has u hu]
      simp only [List.contains_eq_mem, List.mem_append, List.mem_singleton, e, or_false]
  · rw [List.length_append] at hi
    rcases Nat.lt_or_ge i L.length with hl | hl
    · rw [getD_l hl, getD_l (by rw [h.len]; exact hl)]
      obtain ⟨u, e1, e2⟩ := h.at_ i hl
      have hmem : L.getD i (0, 0) ∈ L := by
        rw [List.getD_eq_getElem?_getD, List.getElem?_eq_getElem hl]
        exact List.getElem_mem hl
      refine ⟨u, ?_, e2.kept k hc⟩
      rw [Maps.atKey_put_other (gk_ne K (h.ok _ hmem) hg (fun e => ?_))]
      · exact e1
      · rw [e] at hmem
        simp [List.contains_eq_mem, hmem] at h1
    · have hi2 : i = L.length := by simp at hi; omega
      rw [getD_r hi2, getD_r (by rw [h.len]; exact hi2)]
      exact ⟨v, Maps.atKey_put_same hm (keyedG.key (gk_of K hg)) _ _, hr.kept k hc⟩
  · rcases List.mem_append.1 hu with hu | hu
    · exact h.ok u hu
    · rw [List.mem_singleton] at hu
      rw [hu]; exact hg
/-- A crossed gear is put in. -/
theorem Seen.cross (h : Seen x key base B n L X ws D w) (K : Keys x key) {g : Gr} (hg : GOk x g) (h1 : L.contains g = false) (h2 : X.contains g = false) {v : Value}
    (hown : w1.ownsMap Try.prog 76 heldE B (n + 1) (D.put (key g) (.held v))) (k : w.grownBy w1 (some B)) : Seen x key base B (n + 1) L (X ++ [g]) ws (D.put (key g) (.held v)) w1 := by
  have hm := h.own.isMap
  have hh : Maps.has D (key g) = false := by rw [h.has g hg, h1, h2]; rfl
  have hc : ∀ b, some B = some b → ∀ cur, w.heap[b]? ≠ some (.cells cur 2 (0, 0)) := fun b e cur => by
    obtain rfl : B = b := by simpa using e
    exact h.not_cells _ cur
  refine ⟨hown, ?_, fun u hu => ?_, h.len, fun i hl => ?_, h.ok⟩
  · rw [Maps.size_put (h.own.tidy keyedG), hh, h.size]
    simp
    omega
  · by_cases e : u = g
    · subst e
      rw [Maps.has_put_same hm (keyedG.key (gk_of K hg))]
      simp
    · rw [Maps.has_put_other (gk_ne K hu hg e), h.has u hu]
      simp only [List.contains_eq_mem, List.mem_append, List.mem_singleton, e, or_false]
  · obtain ⟨u, e1, e2⟩ := h.at_ i hl
    have hmem : L.getD i (0, 0) ∈ L := by
      rw [List.getD_eq_getElem?_getD, List.getElem?_eq_getElem hl]
      exact List.getElem_mem hl
    refine ⟨u, ?_, e2.kept k hc⟩
    rw [Maps.atKey_put_other (gk_ne K (h.ok _ hmem) hg (fun e => ?_))]
    · exact e1
    · rw [e] at hmem
      simp [List.contains_eq_mem, hmem] at h1
/-- A crossed gear is struck out again. -/
theorem Seen.strike {g : Gr} (h : Seen x key base B n L (g :: X) ws D w) (K : Keys x key) (hg : GOk x g) (h1 : L.contains g = false) (h2 : X.contains g = false)
    (hown : w1.ownsMap Try.prog 76 heldE B n (D.del (key g))) (k : w.grownBy w1 (some B)) : Seen x key base B n L X ws (D.del (key g)) w1 := by
  have hh : Maps.has D (key g) = true := by rw [h.has g hg]; simp
  have hc : ∀ b, some B = some b → ∀ cur, w.heap[b]? ≠ some (.cells cur 2 (0, 0)) := fun b e cur => by
    obtain rfl : B = b := by simpa using e
    exact h.not_cells _ cur
  refine ⟨hown, ?_, fun u hu => ?_, h.len, fun i hl => ?_, h.ok⟩
  · have := Maps.size_del (k := key g) (h.own.tidy keyedG)
    rw [hh, h.size] at this
    simp at this
    omega
  · by_cases e : u = g
    · subst e
      rw [Maps.has_del_same, h1, h2]
      rfl
    · rw [Maps.has_del_other (gk_ne K hu hg e), h.has u hu]
      simp only [List.contains_eq_mem, List.mem_cons, e, false_or]
  · obtain ⟨u, e1, e2⟩ := h.at_ i hl
    have hmem : L.getD i (0, 0) ∈ L := by
      rw [List.getD_eq_getElem?_getD, List.getElem?_eq_getElem hl]
      exact List.getElem_mem hl
    refine ⟨u, ?_, e2.kept k hc⟩
    rw [Maps.atKey_del_other (gk_ne K (h.ok _ hmem) hg (fun e => ?_))]
    · exact e1
    · rw [e] at hmem
      simp [List.contains_eq_mem, hmem] at h1
end
theorem Seen.made (x : Trn) (key : Gr → Lit) (w : World) (base : Nat) : Seen x key base w.heap.size 0 [] [] [] (.map []) (w.alloc (.map #[] 0)) :=
  ⟨World.ownsMap_made w _ _ _, rfl, fun g _ => by simp [Maps.has_eq], rfl, fun k hk => absurd hk (Nat.not_lt_zero _), fun g hg => by simp at hg⟩
end Go.Proofs.Ythedanpldebjcaa
