/- Opening a law's arguments: a struct with lists of int64 that came in: a drive train. -/
import Derived.Test.YthedanpldebjcaaOpenI
import Derived.Lib.SmallJoins
namespace Go.Proofs.Ythedanpldebjcaa
open Go.ChangeShapes Go.WideShapes Go.ChangeAt Go.RowKit Go.Joins
section
variable {H : Type} {enc : TypeId × Value → H}
/-- A field that is a list of int64. -/
theorem open_field_ints {W : World} {k : Nat} {v : Value} {y : DataW H × List MemPlace} (h : DataW.trod enc Try.prog W 0 (fun _ => true) true k 24 [v] = some y) :
    ∃ A len cap, v = .slice A len cap ∧ (∃ zs, Rd W 0 W.heap.size A len (ints zs)) ∧ len ≤ cap ∧ len ≤ maxLen := by
  rcases open_ints Try.underlying24 Try.underlying2 (by kernel_rfl) h with ⟨hcs, hx⟩ | ⟨x, l, c, zs, hcs, _, hl, hm, hz, hx, hcell, hwz⟩
  · simp at hcs
    subst hcs
    exact ⟨none, 0, 0, rfl, ⟨[], Rd.nil_ _ _ _ _⟩, Nat.le_refl _, Nat.zero_le _⟩
  · simp at hcs
    subst hcs
    have hz' : zs.length = c := by simpa using hz
    refine ⟨some x, l, c, rfl, ⟨zs.take l, rd_of_cells (by rw [ints_len, List.length_take]; omega) fun i u hu => ?_⟩, hl, by omega⟩
    have hi : i < (zs.take l).length := by
      have := (List.getElem?_eq_some_iff.1 hu).1
      rwa [ints_len] at this
    rw [ints_at _ _ hi] at hu
    rw [← hu]
    have hi2 : i < l := by rw [List.length_take] at hi; omega
    rw [hcell i (by omega)]
    simp [hi2]
set_option maxRecDepth 100000 in
theorem open_train {W : World} {r : Reach} {b0 : Nat} {v : Value} {d : DataW H} {p : List MemPlace} (hv : Value.okWide Try.prog W r b0 53 v)
    (h : DataW.Trod enc Try.prog W 0 (fun _ => true) true 53 v d p) :
    ∃ (A B : Option Addr) (n c m d : Nat) (q : Int) (zf zr : List Int), v = .agg #[.slice A n c, .slice B m d, .int .i64 q] ∧ Rd W 0 W.heap.size A n (ints zf) ∧ n ≤ c ∧ n ≤ maxLen ∧ Rd W 0 W.heap.size B m (ints zr) ∧ m ≤ d ∧ m ≤ maxLen ∧ (Lit.int .i64 q).wf = true := by
  obtain ⟨c0, c1, c2, y0, y1, y2, k, rfl, rfl, rfl, h0, h1, h2⟩ := open_agg3 Try.underlying53 (by kernel_rfl) (by kernel_rfl) hv h
  obtain ⟨A, n, c, rfl, ⟨zf, hf⟩, hl, hm⟩ := open_field_ints h0
  obtain ⟨B, m, d, rfl, ⟨zr, hr⟩, hl2, hm2⟩ := open_field_ints h1
  obtain ⟨q, e2, -, w2⟩ := DataW.trod_int Try.underlying2 h2
  simp at e2
  subst e2
  exact ⟨A, B, n, c, m, d, q, zf, zr, rfl, hf, hl, hm, hr, hl2, hm2, w2⟩
end
end Go.Proofs.Ythedanpldebjcaa
