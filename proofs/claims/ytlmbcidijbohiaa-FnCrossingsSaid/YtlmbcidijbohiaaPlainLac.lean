/- Lacings in numbers. No program. -/
import Derived.Test.YtlmbcidijbohiaaMem
namespace Go.Proofs.Ytlmbcidijbohiaa
open Go.RowKit

/-- May a flange have n holes? -/
def holes6 (n : Int) : Bool := decide (n = 6) || decide (n = 8) || decide (n = 10) || decide (n = 12) || decide (n = 16) || decide (n = 18) || decide (n = 20) || decide (n = 24)
theorem holes6_bd {n : Int} (h : holes6 n = true) : 6 ≤ n ∧ n ≤ 24 ∧ n % 2 = 0 := by
  simp [holes6] at h
  omega
def placeB (n k : Int) : Bool := decide (0 ≤ k) && decide (k ≤ n - 1)
theorem placeB_iff {n k : Int} : placeB n k = true ↔ 0 ≤ k ∧ k < n := by simp [placeB]; omega
/-- A lacing with n numbers. -/
structure Lac (n : Int) (zs : List Int) : Prop where
  ok : holes6 n = true
  len : (zs.length : Int) = n
  rng : ∀ x ∈ zs, 0 ≤ x ∧ x < n
  nd : zs.Nodup
instance (n : Int) (zs : List Int) : Decidable (Lac n zs) :=
  decidable_of_iff (holes6 n = true ∧ (zs.length : Int) = n ∧ (∀ x ∈ zs, 0 ≤ x ∧ x < n) ∧ zs.Nodup) ⟨fun ⟨a, b, c, d⟩ => ⟨a, b, c, d⟩, fun ⟨a, b, c, d⟩ => ⟨a, b, c, d⟩⟩
/-- The holes of the places ks. -/
def holesAt (zs : List Int) (ks : List Nat) : List Int := ks.map fun k => zs.getD k 0
theorem holesAt_range (zs : List Int) : holesAt zs (List.range zs.length) = zs := by
  apply List.ext_getElem
  · simp [holesAt]
  · intro i h1 h2
    simp [holesAt, h2]
theorem holesAt_take (zs : List Int) {k : Nat} (h : k ≤ zs.length) : holesAt zs (List.range k) = zs.take k := by
  apply List.ext_getElem
  · simp [holesAt, h]
  · intro i h1 h2
    have : i < zs.length := by simp [holesAt] at h1; omega
    simp [holesAt, this]
/-- So far the list may be a lacing. -/
structure Fit (n : Int) (ys : List Int) : Prop where
  rng : ∀ x ∈ ys, 0 ≤ x ∧ x < n
  nd : ys.Nodup
theorem Fit.nil (n : Int) : Fit n [] := ⟨by simp, by simp⟩
theorem Fit.snoc {n : Int} {ys : List Int} {x : Int} (h : Fit n ys) (h0 : 0 ≤ x) (h1 : x < n) (hn : x ∉ ys) : Fit n (ys ++ [x]) := by
  refine ⟨fun y hy => ?_, ?_⟩
  · rcases List.mem_append.1 hy with hy | hy
    · exact h.rng y hy
    · have : y = x := by simpa using hy
      subst this; exact ⟨h0, h1⟩
  · rw [List.nodup_append]
    exact ⟨h.nd, by simp, fun a ha b hb e => by
      have : b = x := by simpa using hb
      subst this; subst e; exact hn ha⟩
theorem Lac.fit {n : Int} {zs : List Int} (h : Lac n zs) {k : Nat} : Fit n (zs.take k) :=
  ⟨fun x hx => h.rng x (List.mem_of_mem_take hx), h.nd.sublist (List.take_sublist _ _)⟩
/-- Which holes are taken, of 24. -/
def takenL (ys : List Int) : List Value := (List.range 24).map fun (j : Nat) => .bool (decide ((j : Int) ∈ ys))
theorem takenL_len (ys : List Int) : (takenL ys).length = 24 := by simp [takenL]
theorem takenL_at (ys : List Int) {j : Nat} (h : j < 24) : (takenL ys)[j]? = some (.bool (decide ((j : Int) ∈ ys))) := by simp [takenL, h]
theorem takenL_snoc (ys : List Int) {j : Nat} : (takenL ys).set j (.bool true) = takenL (ys ++ [(j : Int)]) := by
  apply List.ext_getElem
  · simp [takenL]
  · intro i h1 h2
    simp only [takenL, List.getElem_set, List.getElem_map, List.getElem_range, List.mem_append, List.mem_singleton]
    by_cases hj : j = i
    · subst hj; simp
    · have : ¬ (i : Int) = j := by omega
      simp [hj, this]
end Go.Proofs.Ytlmbcidijbohiaa
