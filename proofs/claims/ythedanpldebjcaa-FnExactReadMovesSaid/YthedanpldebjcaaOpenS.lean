/- Opening a law's arguments: a list of strings that came in. -/
import Derived.Test.YthedanpldebjcaaOpen
import Derived.Test.YthedanpldebjcaaBas
namespace Go.Proofs.Ythedanpldebjcaa
open Go.ChangeShapes Go.WideShapes Go.ChangeAt Go.RowKit
section
variable {H : Type} {enc : TypeId × Value → H}
theorem open_list_strs {W : World} {a0 : Option Addr} {len cap : Nat} {d : DataW H} {p : List MemPlace}
    (h : DataW.Trod enc Try.prog W 0 (fun _ => true) true 116 (.slice a0 len cap) d p) :
    (∃ zs : List ByteArray, Rd W 0 W.heap.size a0 len (bas zs) ∧ ∀ z ∈ zs, z.size ≤ maxLen) ∧ len ≤ cap ∧ Places d len := by
  obtain ⟨fuel, hf⟩ := h
  rcases open_strings Try.underlying116 Try.underlying9 (by kernel_rfl) hf with ⟨hcs, hx⟩ | ⟨x, l, c, zs, hcs, _, hl, hm, hz, hx, hcell, hwz⟩
  · simp [Value.cells] at hcs
    obtain ⟨rfl, rfl, rfl⟩ := hcs
    exact ⟨⟨[], Rd.nil_ _ _ _ _, fun z hz => by cases hz⟩, Nat.le_refl _, .inl rfl⟩
  · simp [Value.cells] at hcs
    obtain ⟨rfl, rfl, rfl⟩ := hcs
    simp only [Prod.mk.injEq] at hx
    have hz' : zs.length = cap := by simpa using hz
    refine ⟨⟨zs.take len, rd_of_cells (by rw [bas_len, List.length_take]; omega) fun i u hu => ?_, fun z hz => hwz z (List.mem_of_mem_take hz)⟩, hl, .inr ⟨_, _, hx.1, ?_⟩⟩
    · have hi : i < (zs.take len).length := by
        have := (List.getElem?_eq_some_iff.1 hu).1
        rwa [bas_len] at this
      have hi2 : i < len := by rw [List.length_take] at hi; omega
      rw [hcell i (by omega)]
      rw [← hu, bas_at _ _ hi]
      simp [hi2]
    · simp [strs]; omega
end
end Go.Proofs.Ythedanpldebjcaa
