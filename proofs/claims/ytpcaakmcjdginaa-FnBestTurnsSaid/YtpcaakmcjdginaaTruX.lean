/- The contracts of chapter 8 in the forms that the exact laws' walks want. -/
import Derived.Test.YtpcaakmcjdginaaTruS7
import Derived.Test.YtpcaakmcjdginaaTruI5
import Derived.Test.YtpcaakmcjdginaaTruI7
namespace Go.Proofs.Ytpcaakmcjdginaa
open Go.RowKit
set_option linter.unusedVariables false
theorem just_retv {v : Value} {w w' : World} {e : Ending} (h : Just v w e w') : RetV v w e w' := by
  obtain ⟨rfl, rfl⟩ := h
  exact ⟨rfl, Below.refl _ _⟩
theorem afterR_len (zs s ts : List Int) : (afterR zs s ts).1.length ≤ 1048576 := by
  unfold afterR
  split
  · split
    · split
      · rename_i h
        have := (devB_iff.1 h).hi
        show (afterI _ _ _).length ≤ _
        omega
      · exact Nat.zero_le _
    · exact Nat.zero_le _
  · exact Nat.zero_le _
theorem undoR_len (ts : List Int) : (undoR ts).1.length ≤ 1048576 := by
  unfold undoR
  split
  · rename_i h
    have h2 : ts.length ≤ 10 := by
      have := (Bool.and_eq_true _ _ ▸ h).1
      simpa using this
    show (negI ts).length ≤ _
    rw [negI_len]
    omega
  · exact Nat.zero_le _
theorem byR_len (zs s : List Int) (m : Int) : (byR zs s m).1.length ≤ 1048576 := by
  unfold byR
  split
  · rename_i h
    have := (devB_iff.1 (Bool.and_eq_true _ _ ▸ h).1).hi
    split
    · show (trueTo _ _ _ _).length ≤ _
      rw [trueTo_len]
      simp
      omega
    · exact Nat.zero_le _
  · exact Nat.zero_le _
theorem leastR_len (zs s : List Int) (t : Int) : (leastR zs s t).1.length ≤ 1048576 := by
  by_cases h : (leastR zs s t).2 = 0
  · have hk := least_ok (zs := zs) (e := s) (tol := t) (p := (leastR zs s t).1) (by rw [← h])
    have h1 := hk.len
    have h2 := hk.dev.hi
    omega
  · unfold leastR at h ⊢
    split at h
    · rename_i h1
      rw [if_pos h1]
      split at h
      · rename_i h2
        rw [if_pos h2]
        split at h
        · exact absurd rfl h
        · rename_i h3
          rw [if_neg h3]
          exact Nat.zero_le _
      · rename_i h2
        rw [if_neg h2]
        exact Nat.zero_le _
    · rename_i h1
      rw [if_neg h1]
      exact Nat.zero_le _
section
variable (A : Option Addr) (c : Nat) (zs : List Int)
theorem xsAreDeviations (w : World) (lo hi : Nat) (h : Rd w lo hi A zs.length (ints zs)) (hz : zs.length ≤ 1048576) (hc : zs.length ≤ c) : Calls Try.prog 42 #[.slice A zs.length c] w (RetV (.bool (devB zs)) w) := (specDev A c zs w (Ls.of h hc hz)).mono fun _ _ h => just_retv h
theorem xiAreDeviations (w : World) (lo hi : Nat) (h : Rd w lo hi A zs.length (ints zs)) (hz : zs.length ≤ 1048576) (hc : zs.length ≤ c) : Calls Try.prog 39 #[.slice A zs.length c] w (RetV (.bool (devB zs)) w) := (implDev A c zs w (Ls.of h hc hz)).mono fun _ _ h => just_retv h
theorem xsIsEffect (w : World) (lo hi : Nat) (h : Rd w lo hi A zs.length (ints zs)) (hz : zs.length ≤ 1048576) (hc : zs.length ≤ c) : Calls Try.prog 27 #[.slice A zs.length c] w (RetV (.bool (effB zs)) w) := (specEff A c zs w (Ls.of h hc hz)).mono fun _ _ h => just_retv h
theorem xiIsEffect (w : World) (lo hi : Nat) (h : Rd w lo hi A zs.length (ints zs)) (hz : zs.length ≤ 1048576) (hc : zs.length ≤ c) : Calls Try.prog 26 #[.slice A zs.length c] w (RetV (.bool (effB zs)) w) := (implEff A c zs w (Ls.of h hc hz)).mono fun _ _ h => just_retv h
theorem xsWorstPlace (w : World) (lo hi : Nat) (h : Rd w lo hi A zs.length (ints zs)) (hz : zs.length ≤ 1048576) (hc : zs.length ≤ c) : Calls Try.prog 36 #[.slice A zs.length c] w (RetV (.tuple #[.int .i64 (worstR zs).1, .int .i64 (worstR zs).2]) w) := specWorst A c zs w (Ls.of h hc hz)
theorem xiWorstPlace (w : World) (lo hi : Nat) (h : Rd w lo hi A zs.length (ints zs)) (hz : zs.length ≤ 1048576) (hc : zs.length ≤ c) : Calls Try.prog 35 #[.slice A zs.length c] w (RetV (.tuple #[.int .i64 (worstR zs).1, .int .i64 (worstR zs).2]) w) := implWorst A c zs w (Ls.of h hc hz)
theorem xsDishAfter (w : World) (lo hi : Nat) (h : Rd w lo hi A zs.length (ints zs)) (hz : zs.length ≤ 1048576) (hc : zs.length ≤ c) : Calls Try.prog 38 #[.slice A zs.length c] w (RetV (.tuple #[.int .i64 (dishR zs).1, .int .i64 (dishR zs).2]) w) := specDish A c zs w (Ls.of h hc hz)
theorem xiDishAfter (w : World) (lo hi : Nat) (h : Rd w lo hi A zs.length (ints zs)) (hz : zs.length ≤ 1048576) (hc : zs.length ≤ c) : Calls Try.prog 37 #[.slice A zs.length c] w (RetV (.tuple #[.int .i64 (dishR zs).1, .int .i64 (dishR zs).2]) w) := implDish A c zs w (Ls.of h hc hz)
theorem xsUndoPlan (w : World) (lo hi : Nat) (h : Rd w lo hi A zs.length (ints zs)) (hz : zs.length ≤ 1048576) (hc : zs.length ≤ c) : Calls Try.prog 24 #[.slice A zs.length c] w (RetLN (undoR zs).1 (undoR zs).2 w) := specUndo A c zs w (Ls.of h hc hz)
theorem xiUndoPlan (w : World) (lo hi : Nat) (h : Rd w lo hi A zs.length (ints zs)) (hz : zs.length ≤ 1048576) (hc : zs.length ≤ c) : Calls Try.prog 23 #[.slice A zs.length c] w (RetLN (undoR zs).1 (undoR zs).2 w) := implUndo A c zs w (Ls.of h hc hz)
theorem xsIsTrue (p : Int) (w : World) (lo hi : Nat) (h : Rd w lo hi A zs.length (ints zs)) (hz : zs.length ≤ 1048576) (hc : zs.length ≤ c) : Calls Try.prog 47 #[.slice A zs.length c, .int .i64 p] w (RetV (.tuple #[.bool (trueR zs p).1, .int .i64 (trueR zs p).2]) w) := specIsTrue A c zs p w (Ls.of h hc hz)
theorem xiIsTrue (p : Int) (w : World) (lo hi : Nat) (h : Rd w lo hi A zs.length (ints zs)) (hz : zs.length ≤ 1048576) (hc : zs.length ≤ c) : Calls Try.prog 28 #[.slice A zs.length c, .int .i64 p] w (RetV (.tuple #[.bool (trueR zs p).1, .int .i64 (trueR zs p).2]) w) := implIsTrue A c zs p w (Ls.of h hc hz)
theorem xsAfterPlan (B : Option Addr) (b : Nat) (s : List Int) (C : Option Addr) (e : Nat) (ts : List Int) (w : World) (lo hi : Nat) (h : Rd w lo hi A zs.length (ints zs)) (hz : zs.length ≤ 1048576) (hc : zs.length ≤ c) (lo2 hi2 : Nat) (h2 : Rd w lo2 hi2 B s.length (ints s)) (hz2 : s.length ≤ 1048576) (hc2 : s.length ≤ b) (lo3 hi3 : Nat) (h3 : Rd w lo3 hi3 C ts.length (ints ts)) (hz3 : ts.length ≤ 1048576) (hc3 : ts.length ≤ e) : Calls Try.prog 21 #[.slice A zs.length c, .slice B s.length b, .slice C ts.length e] w (RetLN (afterR zs s ts).1 (afterR zs s ts).2 w) := specAfterPlan A c zs B b s C e ts w (Ls.of h hc hz) (Ls.of h2 hc2 hz2) (Ls.of h3 hc3 hz3) _ rfl
theorem xsBestTurn (B : Option Addr) (b : Nat) (s : List Int) (w : World) (lo hi : Nat) (h : Rd w lo hi A zs.length (ints zs)) (hz : zs.length ≤ 1048576) (hc : zs.length ≤ c) (lo2 hi2 : Nat) (h2 : Rd w lo2 hi2 B s.length (ints s)) (hz2 : s.length ≤ 1048576) (hc2 : s.length ≤ b) : Calls Try.prog 31 #[.slice A zs.length c, .slice B s.length b] w (RetV (.tuple #[.int .i64 (bestR zs s).1, .int .i64 (bestR zs s).2.1, .int .i64 (bestR zs s).2.2]) w) := specBestTurn A c zs B b s w (Ls.of h hc hz) (Ls.of h2 hc2 hz2) _ rfl
theorem xsTrueByTurns (B : Option Addr) (b : Nat) (s : List Int) (m : Int) (w : World) (lo hi : Nat) (h : Rd w lo hi A zs.length (ints zs)) (hz : zs.length ≤ 1048576) (hc : zs.length ≤ c) (lo2 hi2 : Nat) (h2 : Rd w lo2 hi2 B s.length (ints s)) (hz2 : s.length ≤ 1048576) (hc2 : s.length ≤ b) : Calls Try.prog 34 #[.slice A zs.length c, .slice B s.length b, .int .i64 m] w (RetLN (byR zs s m).1 (byR zs s m).2 w) := specBy A c zs B b s m w (Ls.of h hc hz) (Ls.of h2 hc2 hz2) _ rfl
theorem xsLeastPlan (B : Option Addr) (b : Nat) (s : List Int) (m : Int) (w : World) (lo hi : Nat) (h : Rd w lo hi A zs.length (ints zs)) (hz : zs.length ≤ 1048576) (hc : zs.length ≤ c) (lo2 hi2 : Nat) (h2 : Rd w lo2 hi2 B s.length (ints s)) (hz2 : s.length ≤ 1048576) (hc2 : s.length ≤ b) : Calls Try.prog 18 #[.slice A zs.length c, .slice B s.length b, .int .i64 m] w (RetLN (leastR zs s m).1 (leastR zs s m).2 w) := specLeast A c zs B b s m w (Ls.of h hc hz) (Ls.of h2 hc2 hz2) _ rfl
theorem xiAfterPlan (B : Option Addr) (b : Nat) (s : List Int) (C : Option Addr) (e : Nat) (ts : List Int) (w : World) (lo hi : Nat) (h : Rd w lo hi A zs.length (ints zs)) (hz : zs.length ≤ 1048576) (hc : zs.length ≤ c) (lo2 hi2 : Nat) (h2 : Rd w lo2 hi2 B s.length (ints s)) (hz2 : s.length ≤ 1048576) (hc2 : s.length ≤ b) (lo3 hi3 : Nat) (h3 : Rd w lo3 hi3 C ts.length (ints ts)) (hz3 : ts.length ≤ 1048576) (hc3 : ts.length ≤ e) : Calls Try.prog 20 #[.slice A zs.length c, .slice B s.length b, .slice C ts.length e] w (RetLN (afterR zs s ts).1 (afterR zs s ts).2 w) := implAfterPlan A c zs B b s C e ts w (Ls.of h hc hz) (Ls.of h2 hc2 hz2) (Ls.of h3 hc3 hz3) _ rfl
theorem xiBestTurn (B : Option Addr) (b : Nat) (s : List Int) (w : World) (lo hi : Nat) (h : Rd w lo hi A zs.length (ints zs)) (hz : zs.length ≤ 1048576) (hc : zs.length ≤ c) (lo2 hi2 : Nat) (h2 : Rd w lo2 hi2 B s.length (ints s)) (hz2 : s.length ≤ 1048576) (hc2 : s.length ≤ b) : Calls Try.prog 30 #[.slice A zs.length c, .slice B s.length b] w (RetV (.tuple #[.int .i64 (bestR zs s).1, .int .i64 (bestR zs s).2.1, .int .i64 (bestR zs s).2.2]) w) := implBestTurn A c zs B b s w (Ls.of h hc hz) (Ls.of h2 hc2 hz2) _ rfl
theorem xiTrueByTurns (B : Option Addr) (b : Nat) (s : List Int) (m : Int) (w : World) (lo hi : Nat) (h : Rd w lo hi A zs.length (ints zs)) (hz : zs.length ≤ 1048576) (hc : zs.length ≤ c) (lo2 hi2 : Nat) (h2 : Rd w lo2 hi2 B s.length (ints s)) (hz2 : s.length ≤ 1048576) (hc2 : s.length ≤ b) : Calls Try.prog 33 #[.slice A zs.length c, .slice B s.length b, .int .i64 m] w (RetLN (byR zs s m).1 (byR zs s m).2 w) := implBy A c zs B b s m w (Ls.of h hc hz) (Ls.of h2 hc2 hz2) _ rfl
theorem xiLeastPlan (B : Option Addr) (b : Nat) (s : List Int) (m : Int) (w : World) (lo hi : Nat) (h : Rd w lo hi A zs.length (ints zs)) (hz : zs.length ≤ 1048576) (hc : zs.length ≤ c) (lo2 hi2 : Nat) (h2 : Rd w lo2 hi2 B s.length (ints s)) (hz2 : s.length ≤ 1048576) (hc2 : s.length ≤ b) : Calls Try.prog 17 #[.slice A zs.length c, .slice B s.length b, .int .i64 m] w (RetLN (leastR zs s m).1 (leastR zs s m).2 w) := implLeast A c zs B b s m w (Ls.of h hc hz) (Ls.of h2 hc2 hz2) _ rfl
end
end Go.Proofs.Ytpcaakmcjdginaa
