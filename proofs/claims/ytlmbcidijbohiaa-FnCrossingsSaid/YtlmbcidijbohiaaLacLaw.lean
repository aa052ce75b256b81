/- What chapter 6's drawn laws hold. -/
import Derived.Test.YtlmbcidijbohiaaDrawLac2
namespace Go.Proofs.Ytlmbcidijbohiaa
open Go.RowKit

theorem below_of_drewN {W W1 : World} {d : Nat} (h : W1 = W.drewN d) : Below W.heap.size W W1 := by subst h; exact below_drewN (Below.refl _ _) d
/-- A list that lies somewhere. -/
structure Ls (zs : List Int) (B : Option Addr) (c : Nat) (W : World) : Prop where
  rd : Rd W 0 W.heap.size B zs.length (ints zs)
  le : zs.length ≤ c
  few : zs.length ≤ 1000
theorem Ls.below {zs : List Int} {B : Option Addr} {c : Nat} {W W1 : World} (h : Ls zs B c W) (b : Below W.heap.size W W1) : Ls zs B c W1 := ⟨(h.rd.below b (Nat.le_refl _)).mono (Nat.le_refl _) b.size, h.le, h.few⟩
theorem lst0 {W W1 : World} {zs : List Int} {B : Option Addr} {c : Nat} (o : Ow W1 W.heap.size W1.heap.size 2 B zs.length c (ints zs)) (hf : zs.length ≤ 1000) : Ls zs B c W1 := ⟨o.rd.mono (Nat.zero_le _) (Nat.le_refl _), o.le, hf⟩
theorem Lst.ls {lo : Nat} {zs : List Int} {B : Option Addr} {c : Nat} {W : World} (h : Lst lo zs B c W) : Ls zs B c W := ⟨h.rd.mono (Nat.zero_le _) (Nat.le_refl _), h.le, Nat.le_trans h.few (by omega)⟩
end Go.Proofs.Ytlmbcidijbohiaa
