/- Contracts of spec.l01Measure, spec.MeasureText and impl.MeasureText: both write the same text of a measure. -/
import Derived.Test.YtcphhcnomaociabDoorDec
import Derived.Test.YtcphhcnomaociabDoorVals
import Derived.Test.YtcphhcnomaociabDoorShelf
import Derived.WalkKit
import Derived.WalkLawsBesides
import Derived.WalkSpells
import Derived.Lib.LaidTab
import Derived.Lib.SmallJoins
namespace Go.Proofs.YtcphhcnomaociabDoor
open Go.RowKit

/-- The text of a measure of at least 0, and of any measure. -/
def measP (n : Nat) : List UInt8 := Go.Lib.decDigits (n / 10) ++ [46] ++ Go.Lib.decDigits (n % 10)
def measL (z : Int) : List UInt8 := if z < 0 then 45 :: measP (-z).toNat else measP z.toNat

theorem measP_len (n : Nat) (h : n ≤ 1000000000000000000) : (measP n).length ≤ 41 := by
  have h1 := dec_len (n / 10) (by omega)
  have h2 := dec_len (n % 10) (by omega)
  unfold measP
  simp only [List.length_append, List.length_cons, List.length_nil]
  omega
theorem measL_len (z : Int) (h : -1000000000000 ≤ z) (h2 : z ≤ 1000000000000) : (measL z).length ≤ 42 := by
  unfold measL
  split
  · have := measP_len (-z).toNat (by omega)
    simp only [List.length_cons]; omega
  · have := measP_len z.toNat (by omega)
    omega
theorem measP_split (z : Int) (h : 0 ≤ z) : measP z.toNat = Go.Lib.decDigits (z / 10).toNat ++ [46] ++ Go.Lib.decDigits (z % 10).toNat := by
  unfold measP
  have e1 : z.toNat / 10 = (z / 10).toNat := by omega
  have e2 : z.toNat % 10 = (z % 10).toNat := by omega
  rw [e1, e2]
theorem measL_pos {z : Int} (h : ¬ z < 0) : measL z = measP z.toNat := by unfold measL; rw [if_neg h]
theorem measL_neg {z : Int} (h : z < 0) : measL z = 45 :: measP (-z).toNat := by unfold measL; rw [if_pos h]

theorem dec (z : Int) (w : World) (h0 : 0 ≤ z) (h1 : z ≤ 1000000000000000000) :
    Calls Tryd.prog 44 #[.int .i64 z] w (NewStr w (Go.Lib.decDigits z.toNat)) :=
  dec_any z.toNat z w h0 (by omega) h1

theorem measPos (z : Int) (w : World) (h0 : 0 ≤ z) (h1 : z ≤ 1000000000000) :
    Calls Tryd.prog 45 #[.int .i64 z] w (NewStr w (measL z)) := by
  have l1 := dec_len (z / 10).toNat (by omega)
  have l2 := dec_len (z % 10).toNat (by omega)
  have k1 := add_str (Go.Lib.decDigits (z / 10).toNat) [46] (by simp; omega)
  have k2 := add_str (Go.Lib.decDigits (z / 10).toNat ++ [46]) (Go.Lib.decDigits (z % 10).toNat) (by simp; omega)
  go_enter Tryd.func45, Tryd.ntmps45
  go_wp2_with fail
  refine (dec (z / 10) _ (by omega) (by omega)).mono ?_
  rintro e w1 ⟨rfl, hb1⟩
  go_wp2_with fail
  refine (dec (z % 10) _ (by omega) (by omega)).mono ?_
  rintro e w2 ⟨rfl, hb2⟩
  go_wp2_with fail
  go_ret
  exact ⟨by rw [measL_pos (by omega), measP_split z h0]; simp, hb1.trans (hb2.mono hb1.size)⟩

theorem specMeasure (z : Int) (w : World) (h0 : -1000000000000 ≤ z) (h1 : z ≤ 1000000000000) :
    Calls Tryd.prog 45 #[.int .i64 z] w (NewStr w (measL z)) := by
  by_cases hn : z < 0
  · have l1 := measL_len (-z) (by omega) (by omega)
    have k1 := add_str [45] (measL (-z)) (by simp; omega)
    go_enter Tryd.func45, Tryd.ntmps45
    go_wp2_with fail
    refine (measPos (-z) _ (by omega) (by omega)).mono ?_
    rintro e w1 ⟨rfl, hb1⟩
    go_wp2_with fail
    go_ret
    exact ⟨by rw [measL_neg hn, measL_pos (by omega)]; rfl, hb1⟩
  · exact measPos z w (by omega) h1

/-- What MeasureText hands back in both programs. -/
def MeasEnd (w : World) (z : Int) (e : Ending) (w' : World) : Prop :=
  Below w.heap.size w w' ∧ e = .returned (.tuple (if okVal z then #[.string ⟨(measL z).toArray⟩, .int .i64 0] else #[.string ⟨#[]⟩, .int .i64 2]))


theorem below_grow {w : World} {k : Nat} {os : Array Obj} : Below w.heap.size w (Go.Sort.grow (w.drewN k) os) :=
  ⟨rfl, rfl, rfl, by simp [Go.Sort.grow], fun i hi => by simp [Go.Sort.grow, Array.getElem?_append, hi]⟩

/-- The table that FormatInt reads. -/
def Tab (w : World) : Prop := Go.Lib.TabIs Tryd.prog w "internal/strconv.uint64pow10" .u64 Go.Lib.pow10Tab
theorem gPow : Tryd.prog.globalNamed "internal/strconv.uint64pow10" = some 0 := by kernel_rfl
theorem Tab.below {w w' : World} (h : Tab w) (hb : Below w.heap.size w w') : Tab w' := Go.Joins.tab_stays gPow h hb (Nat.le_refl _)

theorem itoa_pos (z : Int) (h : 0 ≤ z) : Go.Lib.itoa z = Go.Lib.decDigits z.toNat := by
  unfold Go.Lib.itoa; rw [if_neg (by omega)]
theorem format (z : Int) (w : World) (ht : Tab w) (h0 : 0 ≤ z) (h1 : z ≤ 1000000000000000000) :
    Calls Tryd.prog 19 #[.int .i64 z, .int .i64 10] w (NewStr w (Go.Lib.decDigits z.toNat)) :=
  (Tryd.strconv_FormatInt_10 z (by omega) (by omega) w ht).mono fun e w' ⟨he, k, os, hw⟩ => by
    subst hw; subst he
    exact ⟨by rw [itoa_pos z h0], below_grow⟩

theorem implMeasureText (z : Int) (w : World) (ht : Tab w) :
    Calls Tryd.prog 20 #[.int .i64 z] w (MeasEnd w z) := by
  cases hb : okVal z
  · go_enter Tryd.func20, Tryd.ntmps20
    go_wp2_with (go_at_call 37; refine (isValue _ _).mono ?_; rintro e w' ⟨rfl, rfl⟩)
    go_ret2
    exact ⟨Below.refl _ _, by rw [hb]; rfl⟩
  · have hr := hb
    unfold okVal at hr
    simp only [Bool.and_eq_true, decide_eq_true_eq] at hr
    obtain ⟨h0, h1⟩ := hr
    by_cases hn : z < 0
    · obtain ⟨y, rfl⟩ : ∃ y, z = -y := ⟨-z, by omega⟩
      have hy : 0 < y := by omega
      have l1 := dec_len (y / 10).toNat (by omega)
      have l2 := dec_len (y % 10).toNat (by omega)
      have k0 := add_str [45] (Go.Lib.decDigits (y / 10).toNat) (by simp; omega)
      have k1 := add_str (45 :: Go.Lib.decDigits (y / 10).toNat) [46] (by simp; omega)
      have k2 := add_str (45 :: (Go.Lib.decDigits (y / 10).toNat ++ [46])) (Go.Lib.decDigits (y % 10).toNat) (by simp; omega)
      go_enter Tryd.func20, Tryd.ntmps20
      go_wp2_with (go_at_call 37; refine (isValue _ _).mono ?_; rintro e w' ⟨rfl, rfl⟩)
      refine (format (y / 10) _ ht (by omega) (by omega)).mono ?_
      rintro e w1 ⟨rfl, hb1⟩
      go_wp2_with fail
      refine (format (y % 10) _ (ht.below hb1) (by omega) (by omega)).mono ?_
      rintro e w2 ⟨rfl, hb2⟩
      go_wp2_with fail
      go_ret2
      exact ⟨hb1.trans (hb2.mono hb1.size), by rw [hb, if_pos rfl, measL_neg hn, measP_split _ (by omega)]; simp⟩
    · have l1 := dec_len (z / 10).toNat (by omega)
      have l2 := dec_len (z % 10).toNat (by omega)
      have k0 := add_str [] (Go.Lib.decDigits (z / 10).toNat) (by simp; omega)
      have k1 := add_str (Go.Lib.decDigits (z / 10).toNat) [46] (by simp; omega)
      have k2 := add_str (Go.Lib.decDigits (z / 10).toNat ++ [46]) (Go.Lib.decDigits (z % 10).toNat) (by simp; omega)
      go_enter Tryd.func20, Tryd.ntmps20
      go_wp2_with (go_at_call 37; refine (isValue _ _).mono ?_; rintro e w' ⟨rfl, rfl⟩)
      refine (format (z / 10) _ ht (by omega) (by omega)).mono ?_
      rintro e w1 ⟨rfl, hb1⟩
      go_wp2_with fail
      refine (format (z % 10) _ (ht.below hb1) (by omega) (by omega)).mono ?_
      rintro e w2 ⟨rfl, hb2⟩
      go_wp2_with fail
      go_ret2
      exact ⟨hb1.trans (hb2.mono hb1.size), by rw [hb, if_pos rfl, measL_pos (by omega), measP_split _ (by omega)]; simp⟩
end Go.Proofs.YtcphhcnomaociabDoor
