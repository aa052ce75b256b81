/- Contracts of the small functions on intervals. -/
import Derived.Test.YtcknknicknolaabDoorProg
import Derived.Test.YtcknknicknolaabDoorPlainIv
import Derived.Test.YtcknknicknolaabDoorMem
import Derived.WalkKit
import Derived.WalkLawsBesides
import Derived.WalkSpells
import Derived.Below
import Derived.Deep.QuietTactic
import Derived.BigQuiet
import Derived.Deep.RegionHeld3
import Derived.StillTailTactics
import Derived.KernelRfl
import Derived.Lib.Hide
namespace Go.Proofs.YtcknknicknolaabDoor
open Go.RowKit

/-- An interval as a value. -/
abbrev ivV (a b : Int) : Value := .agg #[.int .i64 a, .int .i64 b]
/-- What a call leaves that answers a Bool, an interval, or an interval with a code. -/
def NewBool (w : World) (b : Bool) (e : Ending) (w' : World) : Prop := e = .returned (.bool b) ∧ Below w.heap.size w w'
def NewIv (w : World) (a b : Int) (e : Ending) (w' : World) : Prop := e = .returned (ivV a b) ∧ Below w.heap.size w w'
def NewR (w : World) (r : Iv) (e : Ending) (w' : World) : Prop := e = .returned (.tuple #[ivV r.lo r.hi, .int .i64 r.code]) ∧ Below w.heap.size w w'
theorem ret_iv {a b c d : Int} (h : a = c) (k : b = d) : Ending.returned (ivV a b) = .returned (ivV c d) := by rw [h, k]
theorem ret_r {a b c : Int} {r : Iv} (h : r = ⟨a, b, c⟩) : Ending.returned (.tuple #[ivV a b, .int .i64 c]) = .returned (.tuple #[ivV r.lo r.hi, .int .i64 r.code]) := by rw [h]

theorem in_any (n a b : Int) (w : World) :
    Calls Tryd.prog 72 #[.int .i64 n, .int .i64 a, .int .i64 b] w fun e w' => e = .returned (.bool (decide (a ≤ n) && decide (n ≤ b))) ∧ w = w' := by
  by_cases h1 : a ≤ n
  · go_enter Tryd.func72, Tryd.ntmps72
    go_wp2
    go_ret
    exact ⟨by simp [h1], rfl⟩
  · go_enter Tryd.func72, Tryd.ntmps72
    go_wp2
    go_ret
    exact ⟨by simp; intro; omega, rfl⟩

theorem isValid (a b : Int) (w : World) : Calls Tryd.prog 52 #[ivV a b] w (NewBool w (vldB a b)) := by
  by_cases h1 : -1000000000 ≤ a
  · by_cases h2 : a ≤ b
    · by_cases h3 : b ≤ 1000000000
      · have hb := vldB_mk ⟨h1, h2, h3⟩
        rw [hb]
        clear hb
        go_enter Tryd.func52, Tryd.ntmps52
        go_wp2_with fail
        go_ret
        exact ⟨rfl, (Below.refl _ _).alloc (Nat.le_refl _) _⟩
      · have hb := vldB_no (a := a) (b := b) (by omega)
        rw [hb]
        clear hb
        go_enter Tryd.func52, Tryd.ntmps52
        go_wp2_with fail
        go_ret
        exact ⟨rfl, (Below.refl _ _).alloc (Nat.le_refl _) _⟩
    · have hb := vldB_no (a := a) (b := b) (by omega)
      rw [hb]
      clear hb
      go_enter Tryd.func52, Tryd.ntmps52
      go_wp2_with fail
      go_ret
      exact ⟨rfl, (Below.refl _ _).alloc (Nat.le_refl _) _⟩
  · have hb := vldB_no (a := a) (b := b) (by omega)
    rw [hb]
    clear hb
    go_enter Tryd.func52, Tryd.ntmps52
    go_wp2_with fail
    go_ret
    exact ⟨rfl, (Below.refl _ _).alloc (Nat.le_refl _) _⟩

theorem implIsInterval (a b : Int) (w : World) : Calls Tryd.prog 22 #[ivV a b] w (NewBool w (vldB a b)) := by
  go_enter Tryd.func22, Tryd.ntmps22
  go_wp2_with fail
  refine (isValid a b _).mono ?_
  rintro e w1 ⟨rfl, b1⟩
  go_wp2_with fail
  go_ret
  exact ⟨rfl, ((Below.refl _ _).alloc (Nat.le_refl _) _).trans (b1.mono (by simp))⟩

theorem specIsInterval (a b : Int) (w : World) : Calls Tryd.prog 54 #[ivV a b] w (NewBool w (vldB a b)) := by
  have e : vldB a b = ((decide (-1000000000 ≤ a) && decide (a ≤ 1000000000)) && (decide (a ≤ b) && decide (b ≤ 1000000000))) := by
    unfold vldB
    rw [Bool.eq_iff_iff]
    simp
    omega
  have k1 := in_any a (-1000000000) 1000000000
  have k2 := in_any b a 1000000000
  rw [e]
  clear e
  cases h1 : (decide (-1000000000 ≤ a) && decide (a ≤ 1000000000))
  · rw [h1] at k1
    have K1 := Go.Lib.hid k1
    clear k1 k2 h1
    go_enter Tryd.func54, Tryd.ntmps54
    go_wp2_with fail
    refine (K1.out _).mono ?_
    rintro e w' ⟨rfl, rfl⟩
    go_wp2_with fail
    go_ret
    exact ⟨rfl, (Below.refl _ _).alloc (Nat.le_refl _) _⟩
  · rw [h1] at k1
    rw [Bool.true_and]
    generalize (decide (a ≤ b) && decide (b ≤ 1000000000)) = B at k2 ⊢
    have K1 := Go.Lib.hid k1
    have K2 := Go.Lib.hid k2
    clear k1 k2 h1
    go_enter Tryd.func54, Tryd.ntmps54
    go_wp2_with fail
    refine (K1.out _).mono ?_
    rintro e w' ⟨rfl, rfl⟩
    go_wp2_with fail
    refine (K2.out _).mono ?_
    rintro e w' ⟨rfl, rfl⟩
    go_wp2_with fail
    go_ret
    exact ⟨rfl, (Below.refl _ _).alloc (Nat.le_refl _) _⟩
end Go.Proofs.YtcknknicknolaabDoor
