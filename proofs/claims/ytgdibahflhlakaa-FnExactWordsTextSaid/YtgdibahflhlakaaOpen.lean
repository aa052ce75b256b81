/- Opening a law's arguments: a list of int64 or of strings that came in reads as cells ('Rd'); its length is within the form's reach. -/
import Derived.Test.YtgdibahflhlakaaRows
import Derived.Test.YtgdibahflhlakaaMem
import Derived.WalkKit
import Derived.ProofKit
import Derived.OpenShut
import Derived.ShutString
import Derived.ChangeOld
import Derived.Below
import Derived.SizedLaws
import Derived.SliceStrings
namespace Go.Proofs.Ytgdibahflhlakaa
open Go.ChangeShapes Go.WideShapes Go.ChangeAt Go.RowKit

theorem own : ownKnob Try.prog.godebug = none := by kernel_rfl
theorem laidOut : laidOutB Try.prog = true := by kernel_rfl

theorem cell_lt {w : World} {b o : Nat} {s : Option Nat} {v : Value} (h : w.cell? ⟨b, o, s⟩ = some v) : b < w.heap.size := by
  rcases Nat.lt_or_ge b w.heap.size with hlt | hge
  · exact hlt
  · unfold World.cell? at h
    rw [Array.getElem?_eq_none hge] at h
    cases h

section
variable {H : Type} {enc : TypeId × Value → H}
/-- What is known of a slice's datum: nothing is read, or its places are at least its length. -/
def Places (d : DataW H) (len : Nat) : Prop := len = 0 ∨ ∃ E S, d = DataW.slice E S ∧ len ≤ E.length + S.length

theorem rd_of_cells {W : World} {a : Addr} {len : Nat} {xs : List Value} (hx : xs.length = len) (hc : ∀ i u, xs[i]? = some u → W.cell? (a.add i) = some u) : Rd W 0 W.heap.size (some a) len xs := by
  refine ⟨hx, fun hn => ?_⟩
  obtain ⟨b, off, spot⟩ := a
  have h0 := hc 0 xs[0] (List.getElem?_eq_getElem (by omega))
  have hspot : spot = none := by simpa [Addr.add] using World.cell?_spot h0
  subst hspot
  refine ⟨b, off, rfl, Nat.zero_le _, cell_lt (by simpa [Addr.add] using h0), fun j u hu => ?_⟩
  have := hc j u hu
  by_cases hj : j = 0
  · subst hj; simpa [Addr.add] using this
  · simpa [Addr.add, hj] using this

theorem open_list_ints {W : World} {a0 : Option Addr} {len cap : Nat} {d : DataW H} {p : List MemPlace}
    (h : DataW.Trod enc Try.prog W 0 (fun _ => true) true 24 (.slice a0 len cap) d p) :
    (∃ zs, Rd W 0 W.heap.size a0 len (ints zs)) ∧ len ≤ cap ∧ Places d len := by
  obtain ⟨fuel, hf⟩ := h
  rcases open_ints Try.underlying24 Try.underlying2 (by kernel_rfl) hf with ⟨hcs, hx⟩ | ⟨x, l, c, zs, hcs, _, hl, hm, hz, hx, hcell, hwz⟩
  · simp [Value.cells] at hcs
    obtain ⟨rfl, rfl, rfl⟩ := hcs
    exact ⟨⟨[], Rd.nil_ _ _ _ _⟩, Nat.le_refl _, .inl rfl⟩
  · simp [Value.cells] at hcs
    obtain ⟨rfl, rfl, rfl⟩ := hcs
    simp only [Prod.mk.injEq] at hx
    have hz' : zs.length = cap := by simpa using hz
    refine ⟨⟨zs.take len, rd_of_cells (by rw [ints_len, List.length_take]; omega) fun i u hu => ?_⟩, hl, .inr ⟨_, _, hx.1, ?_⟩⟩
    · have hi : i < (zs.take len).length := by
        have := (List.getElem?_eq_some_iff.1 hu).1
        rwa [ints_len] at this
      rw [ints_at _ _ hi] at hu
      rw [← hu]
      have hi2 : i < len := by rw [List.length_take] at hi; omega
      rw [hcell i (by omega)]
      simp [hi2]
    · simp [lits]; omega

theorem open_list_strs {W : World} {a0 : Option Addr} {len cap : Nat} {d : DataW H} {p : List MemPlace}
    (h : DataW.Trod enc Try.prog W 0 (fun _ => true) true 33 (.slice a0 len cap) d p) :
    (∃ zs : List ByteArray, Rd W 0 W.heap.size a0 len (zs.map Value.string) ∧ ∀ z ∈ zs, z.size ≤ maxLen) ∧ len ≤ cap ∧ Places d len := by
  obtain ⟨fuel, hf⟩ := h
  rcases open_strings Try.underlying33 Try.underlying9 (by kernel_rfl) hf with ⟨hcs, hx⟩ | ⟨x, l, c, zs, hcs, _, hl, hm, hz, hx, hcell, hwz⟩
  · simp [Value.cells] at hcs
    obtain ⟨rfl, rfl, rfl⟩ := hcs
    exact ⟨⟨[], Rd.nil_ _ _ _ _, fun z hz => by cases hz⟩, Nat.le_refl _, .inl rfl⟩
  · simp [Value.cells] at hcs
    obtain ⟨rfl, rfl, rfl⟩ := hcs
    simp only [Prod.mk.injEq] at hx
    have hz' : zs.length = cap := by simpa using hz
    refine ⟨⟨zs.take len, rd_of_cells (by rw [List.length_map, List.length_take]; omega) fun i u hu => ?_, fun z hz => hwz z (List.mem_of_mem_take hz)⟩, hl, .inr ⟨_, _, hx.1, ?_⟩⟩
    · have hi : i < (zs.take len).length := by
        have := (List.getElem?_eq_some_iff.1 hu).1
        rwa [List.length_map] at this
      have hi2 : i < len := by rw [List.length_take] at hi; omega
      rw [hcell i (by omega)]
      rw [← hu]
      simp [hi2, show i < zs.length by omega]
    · simp [strs]; omega
end
end Go.Proofs.Ytgdibahflhlakaa
