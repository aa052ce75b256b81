/- Opening a law's arguments: a list of int64 or of strings that came in reads as cells ('Rd'); its length is within the form's reach. -/
import Derived.Test.YtbjoekbgejfebaaRows
import Derived.Test.YtbjoekbgejfebaaMem
import Derived.WalkKit
import Derived.ProofKit
import Derived.OpenShut
import Derived.ShutString
import Derived.ChangeOld
import Derived.Below
import Derived.SizedLaws
import Derived.SliceStrings
namespace Go.Proofs.Ytbjoekbgejfebaa
open Go.ChangeShapes Go.WideShapes Go.ChangeAt Go.RowKit

theorem own : ownKnob Try.prog.godebug = none := by kernel_rfl
theorem laidOut : laidOutB Try.prog = true := by kernel_rfl

theorem cell_lt {w : World} {b o : Nat} {s : Option Nat} {v : Value} (h : w.cell? ⟨b, o, s⟩ = some v) : b < w.heap.size := by
  rcases Nat.lt_or_ge b w.heap.size with hlt | hge
  · exact hlt
  · unfold World.cell? at h
    rw [Array.getElem?_eq_none hge] at h
    cases h

section
variable {H : Type} {enc : TypeId × Value → H}
/-- What is known of a slice's datum: nothing is read, or its places are at least its length. -/
def Places (d : DataW H) (len : Nat) : Prop := len = 0 ∨ ∃ E S, d = DataW.slice E S ∧ len ≤ E.length + S.length

theorem rd_of_cells {W : World} {a : Addr} {len : Nat} {xs : List Value} (hx : xs.length = len) (hc : ∀ i u, xs[i]? = some u → W.cell? (a.add i) = some u) : Rd W 0 W.heap.size (some a) len xs := by
  refine ⟨hx, fun hn => ?_⟩
  obtain ⟨b, off, spot⟩ := a
  have h0 := hc 0 xs[0] (List.getElem?_eq_getElem (by omega))
  have hspot : spot = none := by simpa [Addr.add] using World.cell?_spot h0
  subst hspot
  refine ⟨b, off, rfl, Nat.zero_le _, cell_lt (by simpa [Addr.add] using h0), fun j u hu => ?_⟩
  have := hc j u hu
  by_cases hj : j = 0
  · subst hj; simpa [Addr.add] using this
  · simpa [Addr.add, hj] using this

end
end Go.Proofs.Ytbjoekbgejfebaa
