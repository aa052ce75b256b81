/- Opening a law's arguments: a list of rides that came in, and a ride. -/
import Derived.Test.YtbjoekbgejfebaaOpenI
import Derived.Test.YtbjoekbgejfebaaRideM
import Derived.Deep.Slices
import Derived.Deep.Fields
import Derived.ChangeSame
import Derived.Lib.SmallJoins
namespace Go.Proofs.Ytbjoekbgejfebaa
open Go.ChangeShapes Go.WideShapes Go.ChangeAt Go.RowKit Go.Joins Go.Deep
section
variable {H : Type} {enc : TypeId × Value → H} {P : Program} {w : World} {base : Nat} {spare : Nat → Bool} {held : Bool}
/-- A list of structs of one cell each field: the cells, and each field's reading. -/
theorem open_list_fields {t e : TypeId} {fs : Array Field} {fuel : Nat} {cs : List Value} {x : DataW H × List MemPlace} (ht : P.underlying t = some (.slice e)) (he : P.underlying e = some (.struct fs))
    (hone : oneCellFields P fs = true) (hC : P.cellsOf e = fs.size) (h : DataW.trod enc P w base spare held fuel t cs = some x) :
    (cs = [.slice none 0 0] ∧ x = (.nil, [])) ∨
    ∃ (a : Addr) (len cap m : Nat) (D : Nat → DataW H) (Pl : List MemPlace), cs = [.slice (some a) len cap] ∧ base ≤ a.block ∧ len ≤ cap ∧ cap ≤ maxLen ∧ m = (if spare a.block then cap else len) ∧
      x = (.slice ((List.range len).map D) ((List.range (m - len)).map fun j => D (len + j)), Pl) ∧
      ∀ i, i < m → ∀ (j : Nat) (f : Field), fs[j]? = some f → ∃ (v : Value) (y : DataW H × List MemPlace) (n : Nat), w.cell? (a.add (i * fs.size + j)) = some v ∧ DataW.trod enc P w base spare held n f.type [v] = some y := by
  rcases open_slice ht h with h0 | ⟨a, len, cap, m, n, D, Pl, hcs, hb, hl, hm, hmm, hx, hi⟩
  · exact .inl h0
  · refine .inr ⟨a, len, cap, m, D, _, hcs, hb, hl, hm, hmm, hx, fun i him => ?_⟩
    obtain ⟨cs', hc, ht'⟩ := hi i him
    rw [hC] at hc
    obtain ⟨ys, n', hn', hy, hlen, hyl, hf⟩ := DataW.trod_struct he ht'
    obtain ⟨_, hcl, hat⟩ := World.cells?_some hc
    intro j f hj
    obtain ⟨ho, hk⟩ := hone_of hone j f hj
    have hjl : j < fs.size := (Array.getElem?_eq_some_iff.1 hj).1
    have hcell := hat j hjl
    have hv : cs'[j]? = some (cs'[j]'(by omega)) := List.getElem?_eq_getElem (by omega)
    have h1 := hf j f hj
    rw [ho, hk] at h1
    have hone' : (cs'.drop j).take 1 = [cs'[j]'(by omega)] := by
      rw [List.drop_eq_getElem_cons (by omega)]
      rfl
    rw [hone'] at h1
    have hys : ys[j]? = some (ys[j]'(by omega)) := List.getElem?_eq_getElem (by omega)
    refine ⟨_, _, n', ?_, h1.trans hys⟩
    rw [← Go.Deep.add_add, hcell, hv]
end
theorem list_of {Q : Nat → Rid → Prop} : ∀ n : Nat, (∀ i, i < n → ∃ r, Q i r) → ∃ xs : List Rid, xs.length = n ∧ ∀ i, i < n → Q i (xs.getD i rid0)
  | 0, _ => ⟨[], rfl, fun i h => absurd h (by omega)⟩
  | n + 1, h => by
    obtain ⟨xs, hl, hx⟩ := list_of n fun i hi => h i (by omega)
    obtain ⟨r, hr⟩ := h n (by omega)
    refine ⟨xs ++ [r], by simp [hl], fun i hi => ?_⟩
    by_cases e : i = n
    · subst e
      have : (xs ++ [r]).getD i rid0 = r := by simp [List.getD, ← hl]
      rwa [this]
    · have : (xs ++ [r]).getD i rid0 = xs.getD i rid0 := by simp [List.getD, List.getElem?_append_left (show i < xs.length by omega)]
      rw [this]
      exact hx i (by omega)
section
variable {H : Type} {enc : TypeId × Value → H}
set_option maxRecDepth 100000 in
theorem open_rides {W : World} {a0 : Option Addr} {len cap : Nat} {d : DataW H} {p : List MemPlace}
    (h : DataW.Trod enc Try.prog W 0 (fun _ => true) true 41 (.slice a0 len cap) d p) :
    (∃ xs : List Rid, xs.length = len ∧ RdR W 0 W.heap.size a0 xs ∧ ∀ r ∈ xs, (Lit.int .i64 r.day).wf = true ∧ (Lit.int .i64 r.tens).wf = true) ∧ len ≤ cap ∧ Places d len := by
  obtain ⟨fuel, hf⟩ := h
  rcases open_list_fields Try.underlying41 Try.underlying45 (by kernel_rfl) (by kernel_rfl) hf with ⟨hcs, hx⟩ | ⟨a, l, c, m, D, Pl, hcs, _, hl, hm, hmm, hx, hi⟩
  · simp [Value.cells] at hcs
    obtain ⟨rfl, rfl, rfl⟩ := hcs
    exact ⟨⟨[], rfl, Rd.nil_ _ _ _ _, by simp⟩, Nat.le_refl _, .inl rfl⟩
  · simp [Value.cells] at hcs
    obtain ⟨rfl, rfl, rfl⟩ := hcs
    simp only [Prod.mk.injEq] at hx
    have hmm' : m = cap := by simpa using hmm
    refine ⟨?_, hl, .inr ⟨_, _, hx.1, by simp; try omega⟩⟩
    obtain ⟨xs, hxl, hxs⟩ := list_of (Q := fun i r => W.cell? (a.add (i * 3)) = some (.int .i64 r.day) ∧ W.cell? (a.add (i * 3 + 1)) = some (.int .i64 r.tens) ∧ W.cell? (a.add (i * 3 + 2)) = some (.bool r.wet) ∧ (Lit.int .i64 r.day).wf = true ∧ (Lit.int .i64 r.tens).wf = true) len fun i hil => by
      obtain ⟨v0, y0, n0, c0, t0⟩ := hi i (by omega) 0 _ rfl
      obtain ⟨v1, y1, n1, c1, t1⟩ := hi i (by omega) 1 _ rfl
      obtain ⟨v2, y2, n2, c2, t2⟩ := hi i (by omega) 2 _ rfl
      obtain ⟨q0, e0, -, w0⟩ := DataW.trod_int Try.underlying2 t0
      obtain ⟨q1, e1, -, w1⟩ := DataW.trod_int Try.underlying2 t1
      obtain ⟨q2, e2, -⟩ := DataW.trod_bool Try.underlying4 t2
      simp at e0 e1 e2
      subst e0 e1 e2
      exact ⟨⟨q0, q1, q2⟩, c0, c1, c2, w0, w1⟩
    refine ⟨xs, hxl, rd_of_cells (rids_len xs |>.trans rfl) fun j u hu => ?_, fun r hr => ?_⟩
    · have hj : j < xs.length * 3 := by
        have := (List.getElem?_eq_some_iff.1 hu).1
        rwa [rids_len] at this
      obtain ⟨i, k, rfl, hk⟩ : ∃ i k, j = i * 3 + k ∧ k < 3 := ⟨j / 3, j % 3, by omega, by omega⟩
      rw [rids_at (by omega) hk] at hu
      obtain ⟨c0, c1, c2, -⟩ := hxs i (by omega)
      have h3 : k = 0 ∨ k = 1 ∨ k = 2 := by omega
      rcases h3 with rfl | rfl | rfl
      · exact c0.trans hu
      · exact c1.trans hu
      · exact c2.trans hu
    · obtain ⟨i, hi2, rfl⟩ := List.getElem_of_mem hr
      have := (hxs i (by omega)).2.2.2
      simpa [List.getD, hi2] using this
end
end Go.Proofs.Ytbjoekbgejfebaa
