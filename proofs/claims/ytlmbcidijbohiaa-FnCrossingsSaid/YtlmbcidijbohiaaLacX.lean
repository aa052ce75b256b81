/- The contracts of chapter 6 in the forms that the exact laws' walks want. -/
import Derived.Test.YtlmbcidijbohiaaLacS5
import Derived.Test.YtlmbcidijbohiaaLacIShiftsOf
import Derived.Test.YtlmbcidijbohiaaLacIMirrorLacing
import Derived.Test.YtlmbcidijbohiaaLacIRotateLacing
import Derived.Test.YtlmbcidijbohiaaHold
namespace Go.Proofs.Ytlmbcidijbohiaa
open Go.RowKit
set_option linter.unusedVariables false
section
variable (n : Int) (A : Option Addr) (c : Nat) (zs : List Int)
theorem xsIsLacing (w : World) (lo hi : Nat) (h : Rd w lo hi A zs.length (ints zs)) (hz : zs.length ≤ 1048576) (hc : zs.length ≤ c) : Calls Try.prog 42 #[.int .i64 n, .slice A zs.length c] w (RetV (.bool (decide (Lac n zs))) w) := specIsLacing n A c zs w lo hi h hc
theorem xiIsLacing (w : World) (lo hi : Nat) (h : Rd w lo hi A zs.length (ints zs)) (hz : zs.length ≤ 1048576) (hc : zs.length ≤ c) : Calls Try.prog 25 #[.int .i64 n, .slice A zs.length c] w (RetV (.bool (decide (Lac n zs))) w) := implIsLacing n A c zs w lo hi h
theorem xsUsualLacing (k : Int) (w : World) : Calls Try.prog 23 #[.int .i64 n, .int .i64 k] w (RetLN (usualR n k).1 (usualR n k).2 w) := specUsual n k w
theorem xiUsualLacing (k : Int) (w : World) : Calls Try.prog 22 #[.int .i64 n, .int .i64 k] w (RetLN (usualR n k).1 (usualR n k).2 w) := implUsual n k w
theorem xsShiftsOf (w : World) (lo hi : Nat) (h : Rd w lo hi A zs.length (ints zs)) (hz : zs.length ≤ 1048576) (hc : zs.length ≤ c) : Calls Try.prog 18 #[.int .i64 n, .slice A zs.length c] w (RetLN (shiftsR n zs).1 (shiftsR n zs).2 w) := specShifts n A c zs w lo hi h hc
theorem xiShiftsOf (w : World) (lo hi : Nat) (h : Rd w lo hi A zs.length (ints zs)) (hz : zs.length ≤ 1048576) (hc : zs.length ≤ c) : Calls Try.prog 17 #[.int .i64 n, .slice A zs.length c] w (RetLN (shiftsR n zs).1 (shiftsR n zs).2 w) := implShiftsOf n A c zs w lo hi h
theorem xsCrossingsOf (p : Int) (w : World) (lo hi : Nat) (h : Rd w lo hi A zs.length (ints zs)) (hz : zs.length ≤ 1048576) (hc : zs.length ≤ c) : Calls Try.prog 28 #[.int .i64 n, .slice A zs.length c, .int .i64 p] w (RetV (.tuple #[.int .i64 (crossR n zs p).1, .int .i64 (crossR n zs p).2]) w) := specCrossings n A c zs p w lo hi h hc
theorem xiCrossingsOf (p : Int) (w : World) (lo hi : Nat) (h : Rd w lo hi A zs.length (ints zs)) (hz : zs.length ≤ 1048576) (hc : zs.length ≤ c) : Calls Try.prog 27 #[.int .i64 n, .slice A zs.length c, .int .i64 p] w (RetV (.tuple #[.int .i64 (crossR n zs p).1, .int .i64 (crossR n zs p).2]) w) := implCrossings n A c zs p w lo hi h
theorem xsEvenCrossings (w : World) (lo hi : Nat) (h : Rd w lo hi A zs.length (ints zs)) (hz : zs.length ≤ 1048576) (hc : zs.length ≤ c) : Calls Try.prog 31 #[.int .i64 n, .slice A zs.length c] w (RetV (.tuple #[.int .i64 (evenR n zs).1, .int .i64 (evenR n zs).2]) w) := specEven n A c zs w lo hi h hc
theorem xiEvenCrossings (w : World) (lo hi : Nat) (h : Rd w lo hi A zs.length (ints zs)) (hz : zs.length ≤ 1048576) (hc : zs.length ≤ c) : Calls Try.prog 30 #[.int .i64 n, .slice A zs.length c] w (RetV (.tuple #[.int .i64 (evenR n zs).1, .int .i64 (evenR n zs).2]) w) := implEven n A c zs w lo hi h
theorem xsMirrorLacing (w : World) (lo hi : Nat) (h : Rd w lo hi A zs.length (ints zs)) (hz : zs.length ≤ 1048576) (hc : zs.length ≤ c) : Calls Try.prog 20 #[.int .i64 n, .slice A zs.length c] w (RetLN (mirrorR n zs).1 (mirrorR n zs).2 w) := specMirror n A c zs w lo hi h hc
theorem xiMirrorLacing (w : World) (lo hi : Nat) (h : Rd w lo hi A zs.length (ints zs)) (hz : zs.length ≤ 1048576) (hc : zs.length ≤ c) : Calls Try.prog 19 #[.int .i64 n, .slice A zs.length c] w (RetLN (mirrorR n zs).1 (mirrorR n zs).2 w) := implMirrorLacing n A c zs w lo hi h
theorem xsRotateLacing (r : Int) (w : World) (lo hi : Nat) (h : Rd w lo hi A zs.length (ints zs)) (hz : zs.length ≤ 1048576) (hc : zs.length ≤ c) : Calls Try.prog 41 #[.int .i64 n, .slice A zs.length c, .int .i64 r] w (RetLN (rotR n r zs).1 (rotR n r zs).2 w) := specRotate n A c zs r w lo hi h hc
theorem xiRotateLacing (r : Int) (w : World) (lo hi : Nat) (h : Rd w lo hi A zs.length (ints zs)) (hz : zs.length ≤ 1048576) (hc : zs.length ≤ c) : Calls Try.prog 39 #[.int .i64 n, .slice A zs.length c, .int .i64 r] w (RetLN (rotR n r zs).1 (rotR n r zs).2 w) := implRotateLacing n A c zs r w lo hi h
theorem xsMovesBetween (B : Option Addr) (d : Nat) (ys : List Int) (w : World) (lo hi : Nat) (h : Rd w lo hi A zs.length (ints zs)) (hz : zs.length ≤ 1048576) (hc : zs.length ≤ c) (lo2 hi2 : Nat) (h2 : Rd w lo2 hi2 B ys.length (ints ys)) (hz2 : ys.length ≤ 1048576) (hc2 : ys.length ≤ d) : Calls Try.prog 34 #[.int .i64 n, .slice A zs.length c, .slice B ys.length d] w (RetLN (movesR n zs ys).1 (movesR n zs ys).2 w) := specMoves n A c B d zs ys w lo hi lo2 hi2 h h2 hc hc2
theorem xiMovesBetween (B : Option Addr) (d : Nat) (ys : List Int) (w : World) (lo hi : Nat) (h : Rd w lo hi A zs.length (ints zs)) (hz : zs.length ≤ 1048576) (hc : zs.length ≤ c) (lo2 hi2 : Nat) (h2 : Rd w lo2 hi2 B ys.length (ints ys)) (hz2 : ys.length ≤ 1048576) (hc2 : ys.length ≤ d) : Calls Try.prog 33 #[.int .i64 n, .slice A zs.length c, .slice B ys.length d] w (RetLN (movesR n zs ys).1 (movesR n zs ys).2 w) := implMoves n A c B d zs ys w lo hi lo2 hi2 h h2
theorem xsSwapSpokes (k l : Int) (w : World) (lo hi : Nat) (h : Rd w lo hi A zs.length (ints zs)) (hz : zs.length ≤ 1048576) (hc : zs.length ≤ c) : Calls Try.prog 37 #[.int .i64 n, .slice A zs.length c, .int .i64 k, .int .i64 l] w (RetLN (swapR n zs k l).1 (swapR n zs k l).2 w) := specSwap n A c zs k l w lo hi h hc
theorem xiSwapSpokes (k l : Int) (w : World) (lo hi : Nat) (h : Rd w lo hi A zs.length (ints zs)) (hz : zs.length ≤ 1048576) (hc : zs.length ≤ c) : Calls Try.prog 36 #[.int .i64 n, .slice A zs.length c, .int .i64 k, .int .i64 l] w (RetLN (swapR n zs k l).1 (swapR n zs k l).2 w) := implSwap n A c zs k l w lo hi h
end
theorem Lac.few {n : Int} {zs : List Int} (h : Lac n zs) : zs.length ≤ 24 := by have := h.len; have := h.rim.hi; omega
theorem usualR_few (n k : Int) : (usualR n k).1.length ≤ 1048576 := by
  unfold usualR
  split
  · rename_i hh
    have := (holes6_bd hh).2.1
    split
    · show (usualI n k).length ≤ _; rw [usualI_len]; omega
    · exact Nat.zero_le _
  · exact Nat.zero_le _
theorem shiftsR_few (n : Int) (zs : List Int) : (shiftsR n zs).1.length ≤ 1048576 := by
  unfold shiftsR
  split
  · rename_i hh
    show (shiftsI n zs).length ≤ _; rw [shiftsI_len]; have := hh.few; omega
  · exact Nat.zero_le _
theorem mirrorR_few (n : Int) (zs : List Int) : (mirrorR n zs).1.length ≤ 1048576 := by
  unfold mirrorR
  split
  · rename_i hh
    show (mirrorI n zs).length ≤ _; rw [mirrorI_len]; have := hh.few; omega
  · exact Nat.zero_le _
theorem rotR_few (n r : Int) (zs : List Int) : (rotR n r zs).1.length ≤ 1048576 := by
  unfold rotR
  split
  · rename_i hh
    split
    · show (rotI n r zs).length ≤ _; rw [rotI_len]; have := hh.few; omega
    · exact Nat.zero_le _
  · exact Nat.zero_le _
theorem movesR_few (n : Int) (xs ys : List Int) : (movesR n xs ys).1.length ≤ 1048576 := by
  unfold movesR
  split
  · rename_i hh
    show (movesI xs ys _).length ≤ _
    have := movesI_len xs ys (List.range xs.length)
    have := hh.1.few
    simp at *
    omega
  · exact Nat.zero_le _
theorem swapR_few (n : Int) (zs : List Int) (k l : Int) : (swapR n zs k l).1.length ≤ 1048576 := by
  unfold swapR
  split
  · rename_i hh
    split
    · show (swapI zs _ _).length ≤ _; rw [swapI_len]; have := hh.few; omega
    · exact Nat.zero_le _
  · exact Nat.zero_le _
end Go.Proofs.Ytlmbcidijbohiaa
