/- The counts of a wheel, added up and looked through. No program. -/
import Derived.Test.YtabcbecmieolhaaPlainSpoke3
import Derived.Test.YtabcbecmieolhaaSpoke5
namespace Go.Proofs.Ytabcbecmieolhaa

def totTo (zss : List (List Int)) : Nat → Int
  | 0 => 0
  | k + 1 => totTo zss k + (rowAt zss k).getD 1 0
def fndTo (zss : List (List Int)) (l : Int) : Nat → Bool
  | 0 => false
  | k + 1 => fndTo zss l k || (rowAt zss k).getD 0 0 == l
theorem counts_ok {w : Wh} (h : wheelB w = true) : (countsL w).length ≤ 2 ∧ (∀ i, i < (countsL w).length → (rowAt (countsL w) i).length = 2 ∧ 0 ≤ (rowAt (countsL w) i).getD 1 0 ∧ (rowAt (countsL w) i).getD 1 0 ≤ 48) ∧
    totTo (countsL w) (countsL w).length = w.h.n ∧ ∀ r, fndTo (countsL w) (spLen w r) (countsL w).length = true := by
  obtain ⟨⟨n0, n1, n2⟩, -⟩ := wheel_bd h
  rcases counts_sum h with ⟨e, e2⟩ | ⟨a, b, e, e2, e3⟩
  · rw [e]
    refine ⟨by simp, fun i hi => ?_, by simp [totTo, rowAt], fun r => ?_⟩
    · obtain rfl : i = 0 := by simp at hi; omega
      simp [rowAt]; omega
    · cases r <;> simp [fndTo, rowAt, e2]
  · rw [e]
    refine ⟨by simp, fun i hi => ?_, ?_, fun r => ?_⟩
    · simp at hi
      rcases Nat.lt_or_ge i 1 with h1 | h1
      · obtain rfl : i = 0 := by omega
        simp [rowAt]; omega
      · obtain rfl : i = 1 := by omega
        simp [rowAt]; omega
    · simp [totTo, rowAt]; omega
    · rcases e3 r with h1 | h1 <;> simp [fndTo, rowAt, h1]
theorem tot_bd {zss : List (List Int)} {n : Nat} (h : ∀ i, i < n → (rowAt zss i).length = 2 ∧ 0 ≤ (rowAt zss i).getD 1 0 ∧ (rowAt zss i).getD 1 0 ≤ 48) : ∀ k, k ≤ n → 0 ≤ totTo zss k ∧ totTo zss k ≤ 48 * k
  | 0, _ => by simp [totTo]
  | k + 1, hk => by
    have h1 := tot_bd h k (by omega)
    have h2 := h k (by omega)
    unfold totTo
    omega
theorem spoke_codes (x : Wh) (r : Bool) : ∃ l s zss e, lenA x r = (l, e) ∧ sqSA x r = (s, e) ∧ cntA x = (zss, e) ∧ ((e = 1 ∧ wheelB x = false) ∨ (e = 0 ∧ wheelB x = true ∧ l = spLen x r ∧ s = spSq x r ∧ zss = countsL x)) := by
  unfold lenA sqSA cntA
  cases hb : wheelB x
  · exact ⟨0, 0, [], 1, rfl, rfl, rfl, .inl ⟨rfl, rfl⟩⟩
  · exact ⟨_, _, _, 0, rfl, rfl, rfl, .inr ⟨rfl, rfl, rfl, rfl, rfl⟩⟩
theorem near_bd {l s : Int} (h0 : 388 ≤ l) (h1 : l ≤ 4132) (h2 : (2 * (l + 12) - 1) * (2 * (l + 12) - 1) ≤ s) (h3 : s < (2 * (l + 12) + 1) * (2 * (l + 12) + 1)) : 0 ≤ (2 * (l + 12) - 1) * (2 * (l + 12) - 1) ∧ (2 * (l + 12) - 1) * (2 * (l + 12) - 1) ≤ 100000000 ∧ 0 ≤ (2 * (l + 12) + 1) * (2 * (l + 12) + 1) ∧ (2 * (l + 12) + 1) * (2 * (l + 12) + 1) ≤ 100000000 ∧ 0 ≤ s := by
  have e1 := Int.mul_le_mul (a := 2 * (l + 12) + 1) (b := 2 * (l + 12) + 1) (c := 10000) (d := 10000) (by omega) (by omega) (by omega) (by omega)
  have e2 := sq0 (2 * (l + 12) - 1)
  have e3 := sq0 (2 * (l + 12) + 1)
  omega
end Go.Proofs.Ytabcbecmieolhaa
