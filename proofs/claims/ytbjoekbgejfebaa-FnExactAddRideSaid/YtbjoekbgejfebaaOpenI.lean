/- Opening a law's arguments: a list of int64 that came in. -/
import Derived.Test.YtbjoekbgejfebaaOpen
namespace Go.Proofs.Ytbjoekbgejfebaa
open Go.ChangeShapes Go.WideShapes Go.ChangeAt Go.RowKit
section
variable {H : Type} {enc : TypeId × Value → H}
theorem open_list_ints {W : World} {a0 : Option Addr} {len cap : Nat} {d : DataW H} {p : List MemPlace}
    (h : DataW.Trod enc Try.prog W 0 (fun _ => true) true 29 (.slice a0 len cap) d p) :
    (∃ zs, Rd W 0 W.heap.size a0 len (ints zs)) ∧ len ≤ cap ∧ Places d len := by
  obtain ⟨fuel, hf⟩ := h
  rcases open_ints Try.underlying29 Try.underlying2 (by kernel_rfl) hf with ⟨hcs, hx⟩ | ⟨x, l, c, zs, hcs, _, hl, hm, hz, hx, hcell, hwz⟩
  · simp [Value.cells] at hcs
    obtain ⟨rfl, rfl, rfl⟩ := hcs
    exact ⟨⟨[], Rd.nil_ _ _ _ _⟩, Nat.le_refl _, .inl rfl⟩
  · simp [Value.cells] at hcs
    obtain ⟨rfl, rfl, rfl⟩ := hcs
    simp only [Prod.mk.injEq] at hx
    have hz' : zs.length = cap := by simpa using hz
    refine ⟨⟨zs.take len, rd_of_cells (by rw [ints_len, List.length_take]; omega) fun i u hu => ?_⟩, hl, .inr ⟨_, _, hx.1, ?_⟩⟩
    · have hi : i < (zs.take len).length := by
        have := (List.getElem?_eq_some_iff.1 hu).1
        rwa [ints_len] at this
      rw [ints_at _ _ hi] at hu
      rw [← hu]
      have hi2 : i < len := by rw [List.length_take] at hi; omega
      rw [hcell i (by omega)]
      simp [hi2]
    · simp [lits]; omega

end
end Go.Proofs.Ytbjoekbgejfebaa
