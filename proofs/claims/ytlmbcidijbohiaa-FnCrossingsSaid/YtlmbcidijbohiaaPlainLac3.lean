/- How many others a spoke crosses: counted by distance, and by place. No program. -/
import Derived.Test.YtlmbcidijbohiaaPlainLac2
namespace Go.Proofs.Ytlmbcidijbohiaa
open Go.RowKit

/-- The place that is i + 1 places behind k. -/
def far (m k i : Nat) : Nat := (k + (i + 1)) % m
def cntD (n : Int) (zs : List Int) (k j : Nat) : Nat := (List.range j).countP fun i => crossD n zs k (far zs.length k i) ((i : Int) + 1)
theorem cntD_succ (n : Int) (zs : List Int) (k j : Nat) : cntD n zs k (j + 1) = cntD n zs k j + if crossD n zs k (far zs.length k j) ((j : Int) + 1) then 1 else 0 := by
  simp [cntD, List.range_succ, List.countP_append]
theorem cntD_le (n : Int) (zs : List Int) (k j : Nat) : cntD n zs k j ≤ j := Nat.le_trans List.countP_le_length (by simp)
theorem far_low {m k i : Nat} (h : k + (i + 1) < m) : far m k i = k + (i + 1) := Nat.mod_eq_of_lt h
theorem far_high {m k i : Nat} (hk : k < m) (hi : i + 1 < m) (h : m ≤ k + (i + 1)) : far m k i = k + (i + 1) - m := by
  unfold far
  rw [Nat.mod_eq_sub_mod h]
  exact Nat.mod_eq_of_lt (by omega)
theorem far_lt {m k i : Nat} (hm : 0 < m) : far m k i < m := Nat.mod_lt _ hm
theorem cross_far {n : Int} {zs : List Int} {k i : Nat} (hn : (zs.length : Int) = n) (hk : k < zs.length) (hi : i + 1 < zs.length) : crossD n zs k (far zs.length k i) ((i : Int) + 1) = othersB n zs k (far zs.length k i) := by
  have hne : far zs.length k i ≠ k := by
    by_cases h : k + (i + 1) < zs.length
    · rw [far_low h]; omega
    · rw [far_high hk hi (by omega)]; omega
  have hd : ((far zs.length k i : Int) - k + n) % n = (i : Int) + 1 := by
    rw [behind_mod (by omega) (by have := far_lt (m := zs.length) (k := k) (i := i) (by omega); omega) hne]
    by_cases h : k + (i + 1) < zs.length
    · rw [far_low h, if_pos (by omega)]; omega
    · rw [far_high hk hi (by omega), if_neg (by omega)]; omega
  simp [othersB, hne, crossB, hd]
theorem cntD_all {n : Int} {zs : List Int} {k : Nat} (hn : (zs.length : Int) = n) (hk : k < zs.length) : cntD n zs k (zs.length - 1) = countAt n zs k := by
  obtain ⟨r, hr⟩ : ∃ r, zs.length = k + (1 + r) := ⟨zs.length - 1 - k, by omega⟩
  have e1 : cntD n zs k (zs.length - 1) = (List.range (r + k)).countP fun i => othersB n zs k (far zs.length k i) := by
    unfold cntD
    rw [show zs.length - 1 = r + k by omega]
    apply List.countP_congr
    intro i hi
    have : i < r + k := by simpa using hi
    rw [cross_far hn hk (by omega)]
  rw [e1, List.range_add, List.countP_append, List.countP_map]
  unfold countAt
  rw [hr, List.range_add, List.countP_append, List.countP_map, List.range_add, List.countP_append, List.countP_map]
  have a1 : (List.range r).countP (fun i => othersB n zs k (far (k + (1 + r)) k i)) = (List.range r).countP ((othersB n zs k ∘ fun x => k + x) ∘ fun x => 1 + x) := by
    apply List.countP_congr
    intro i hi
    have : i < r := by simpa using hi
    simp only [Function.comp]
    rw [far_low (by omega), show k + (i + 1) = k + (1 + i) by omega]
  have a2 : (List.range k).countP ((fun i => othersB n zs k (far (k + (1 + r)) k i)) ∘ fun x => r + x) = (List.range k).countP (othersB n zs k) := by
    apply List.countP_congr
    intro i hi
    have : i < k := by simpa using hi
    simp only [Function.comp]
    rw [far_high (by omega) (by omega) (by omega), show k + (r + i + 1) - (k + (1 + r)) = i by omega]
  have a3 : (List.range 1).countP (othersB n zs k ∘ fun x => k + x) = 0 := by simp [othersB]
  rw [a1, a2, a3]
  omega
end Go.Proofs.Ytlmbcidijbohiaa
