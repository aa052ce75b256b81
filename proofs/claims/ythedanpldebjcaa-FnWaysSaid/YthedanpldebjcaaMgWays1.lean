/- Opening a law's arguments: a list of int64 or of strings that came in reads as cells ('Rd'); its length is within the form's reach. -/
import Derived.Test.YthedanpldebjcaaRows
import Derived.Test.YthedanpldebjcaaMem
import Derived.WalkKit
import Derived.ProofKit
import Derived.OpenShut
import Derived.ShutString
import Derived.ChangeOld
import Derived.Below
import Derived.SizedLaws
import Derived.SliceStrings
namespace Go.Proofs.Ythedanpldebjcaa
open Go.ChangeShapes Go.WideShapes Go.ChangeAt Go.RowKit

theorem own : ownKnob Try.prog.godebug = none := by kernel_rfl
theorem laidOut : laidOutB Try.prog = true := by kernel_rfl

theorem cell_lt {w : World} {b o : Nat} {s : Option Nat} {v : Value} (h : w.cell? ⟨b, o, s⟩ = some v) : b < w.heap.size := by
  rcases Nat.lt_or_ge b w.heap.size with hlt | hge
  · exact hlt
  · unfold World.cell? at h
    rw [Array.getElem?_eq_none hge] at h
    cases h

section
variable {H : Type} {enc : TypeId × Value → H}
/-- What is known of a slice's datum: nothing is read, or its places are at least its length. -/
def Places (d : DataW H) (len : Nat) : Prop := len = 0 ∨ ∃ E S, d = DataW.slice E S ∧ len ≤ E.length + S.length

theorem rd_of_cells {W : World} {a : Addr} {len : Nat} {xs : List Value} (hx : xs.length = len) (hc : ∀ i u, xs[i]? = some u → W.cell? (a.add i) = some u) : Rd W 0 W.heap.size (some a) len xs := by
  refine ⟨hx, fun hn => ?_⟩
  obtain ⟨b, off, spot⟩ := a
  have h0 := hc 0 xs[0] (List.getElem?_eq_getElem (by omega))
  have hspot : spot = none := by simpa [Addr.add] using World.cell?_spot h0
  subst hspot
  refine ⟨b, off, rfl, Nat.zero_le _, cell_lt (by simpa [Addr.add] using h0), fun j u hu => ?_⟩
  have := hc j u hu
  by_cases hj : j = 0
  · subst hj; simpa [Addr.add] using this
  · simpa [Addr.add, hj] using this

end
end Go.Proofs.Ythedanpldebjcaa
namespace Go.Proofs.Ythedanpldebjcaa
open Go.ChangeShapes Go.WideShapes Go.ChangeAt Go.RowKit
/-- Bytes as cells. -/
def byts (zs : List Int) : List Value := zs.map (Value.int .u8)
theorem byts_len (zs : List Int) : (byts zs).length = zs.length := by simp [byts]
theorem byts_at (zs : List Int) (k : Nat) (h : k < zs.length) : (byts zs)[k]? = some (.int .u8 (zs.getD k 0)) := by simp [byts, h]
section
variable {H : Type} {enc : TypeId × Value → H}
theorem open_list_bytes {W : World} {a0 : Option Addr} {len cap : Nat} {d : DataW H} {p : List MemPlace}
    (h : DataW.Trod enc Try.prog W 0 (fun _ => true) true 22 (.slice a0 len cap) d p) :
    (∃ zs, Rd W 0 W.heap.size a0 len (byts zs) ∧ ∀ z ∈ zs, 0 ≤ z ∧ z ≤ 255) ∧ len ≤ cap ∧ Places d len := by
  obtain ⟨fuel, hf⟩ := h
  rcases open_ints Try.underlying22 Try.underlying5 (by kernel_rfl) hf with ⟨hcs, hx⟩ | ⟨x, l, c, zs, hcs, _, hl, hm, hz, hx, hcell, hwz⟩
  · simp [Value.cells] at hcs
    obtain ⟨rfl, rfl, rfl⟩ := hcs
    exact ⟨⟨[], Rd.nil_ _ _ _ _, fun z hz => by cases hz⟩, Nat.le_refl _, .inl rfl⟩
  · simp [Value.cells] at hcs
    obtain ⟨rfl, rfl, rfl⟩ := hcs
    simp only [Prod.mk.injEq] at hx
    have hz' : zs.length = cap := by simpa using hz
    refine ⟨⟨zs.take len, rd_of_cells (by rw [byts_len, List.length_take]; omega) fun i u hu => ?_, fun z hz => ?_⟩, hl, .inr ⟨_, _, hx.1, ?_⟩⟩
    · have hi : i < (zs.take len).length := by
        have := (List.getElem?_eq_some_iff.1 hu).1
        rwa [byts_len] at this
      rw [byts_at _ _ hi] at hu
      rw [← hu]
      have hi2 : i < len := by rw [List.length_take] at hi; omega
      rw [hcell i (by omega)]
      simp [hi2]
    · exact bounds_u8 (hwz z (List.mem_of_mem_take hz))
    · simp [lits]; omega

end
end Go.Proofs.Ythedanpldebjcaa
