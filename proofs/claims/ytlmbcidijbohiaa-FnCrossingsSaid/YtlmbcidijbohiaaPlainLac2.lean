/- Shifts, crossings, lacings turned, in numbers. No program. -/
import Derived.Test.YtlmbcidijbohiaaPlainLac
namespace Go.Proofs.Ytlmbcidijbohiaa
open Go.RowKit

/-- The number in -n / 2..n / 2 - 1 that differs from z - k by a multiple of n. -/
def shiftI (n k z : Int) : Int := (z - k + n / 2) % n - n / 2
theorem shiftI_low {n k z : Int} (hn : 0 < n) (he : n % 2 = 0) (h0 : -n < z - k) (h1 : z - k < -(n / 2)) : shiftI n k z = z - k + n := by
  have : (z - k + n / 2) % n = z - k + n / 2 + n := by
    rw [← Int.add_emod_right (z - k + n / 2) n]
    exact Int.emod_eq_of_lt (by omega) (by omega)
  unfold shiftI
  omega
theorem shiftI_high {n k z : Int} (hn : 0 < n) (he : n % 2 = 0) (h0 : z - k < n) (h1 : n / 2 ≤ z - k) : shiftI n k z = z - k - n := by
  have : (z - k + n / 2) % n = z - k + n / 2 - n := by
    rw [← Int.sub_emod_right (z - k + n / 2) n]
    exact Int.emod_eq_of_lt (by omega) (by omega)
  unfold shiftI
  omega
theorem shiftI_mid {n k z : Int} (hn : 0 < n) (h0 : -(n / 2) ≤ z - k) (he : n % 2 = 0) (h1 : z - k < n / 2) : shiftI n k z = z - k := by
  have : (z - k + n / 2) % n = z - k + n / 2 := Int.emod_eq_of_lt (by omega) (by omega)
  unfold shiftI
  omega
theorem shiftI_bd {n k z : Int} (hn : 0 < n) (he : n % 2 = 0) : -(n / 2) ≤ shiftI n k z ∧ shiftI n k z < n / 2 := by
  have h0 := Int.emod_nonneg (z - k + n / 2) (show n ≠ 0 by omega)
  have h1 := Int.emod_lt_of_pos (z - k + n / 2) hn
  unfold shiftI
  omega
/-- The shift of the spoke at the place k. -/
def shAt (n : Int) (zs : List Int) (k : Nat) : Int := shiftI n k (zs.getD k 0)
/-- Does the spoke at k cross the one that is d places behind it, at l? -/
def crossD (n : Int) (zs : List Int) (k l : Nat) (d : Int) : Bool := decide (shAt n zs k - shAt n zs l > d) || decide (shAt n zs k - shAt n zs l < d - n)
def crossB (n : Int) (zs : List Int) (k l : Nat) : Bool := crossD n zs k l (((l : Int) - k + n) % n)
def othersB (n : Int) (zs : List Int) (k l : Nat) : Bool := decide (l ≠ k) && crossB n zs k l
/-- How many other spokes the spoke at k crosses. -/
def countAt (n : Int) (zs : List Int) (k : Nat) : Nat := (List.range zs.length).countP (othersB n zs k)
theorem behind_mod {n : Int} {k l : Nat} (hk : (k : Int) < n) (hl : (l : Int) < n) (h : l ≠ k) : ((l : Int) - k + n) % n = if k < l then (l : Int) - k else (l : Int) - k + n := by
  by_cases h1 : k < l
  · rw [if_pos h1, Int.add_emod_right]
    exact Int.emod_eq_of_lt (by omega) (by omega)
  · rw [if_neg h1]
    exact Int.emod_eq_of_lt (by omega) (by omega)
/-- The usual lacing. -/
def usualI (n c : Int) : List Int := (List.range n.toNat).map fun (k : Nat) => (if k % 2 = 1 then (k : Int) - c else k + c) % n
def shiftsI (n : Int) (zs : List Int) : List Int := (List.range zs.length).map (shAt n zs)
def mirrorAt (n k : Nat) : Nat := (n - k) % n
def mirrorI (n : Int) (zs : List Int) : List Int := (List.range zs.length).map fun (j : Nat) => (- zs.getD (mirrorAt zs.length j) 0) % n
def rotI (n r : Int) (zs : List Int) : List Int := zs.map fun x => (x + r) % n
def movesI (xs ys : List Int) (ks : List Nat) : List Int := (ks.filter fun k => decide (xs.getD k 0 ≠ ys.getD k 0)).map fun (k : Nat) => (k : Int)
def swapI (zs : List Int) (k l : Nat) : List Int := (zs.set k (zs.getD l 0)).set l (zs.getD k 0)

/-- The numbers f k stored at the places pos k, one after another. -/
def setAll (pos : Nat → Nat) (f : Nat → Int) (xs : List Int) (ks : List Nat) : List Int := ks.foldl (fun ys k => ys.set (pos k) (f k)) xs
theorem setAll_nil (pos : Nat → Nat) (f : Nat → Int) (xs : List Int) : setAll pos f xs [] = xs := rfl
theorem setAll_snoc (pos : Nat → Nat) (f : Nat → Int) (xs : List Int) (ks : List Nat) (k : Nat) : setAll pos f xs (ks ++ [k]) = (setAll pos f xs ks).set (pos k) (f k) := by simp [setAll]
theorem setAll_len (pos : Nat → Nat) (f : Nat → Int) : ∀ (ks : List Nat) (xs : List Int), (setAll pos f xs ks).length = xs.length
  | [], _ => rfl
  | k :: ks, xs => (setAll_len pos f ks (xs.set (pos k) (f k))).trans (by simp)
theorem setAll_get (pos : Nat → Nat) (f : Nat → Int) (xs : List Int) {m : Nat} (inj : ∀ a b, a < m → b < m → pos a = pos b → a = b) : ∀ (j : Nat), j ≤ m → ∀ k, k < j → pos k < xs.length → (setAll pos f xs (List.range j))[pos k]? = some (f k)
  | 0, _, k, h, _ => by omega
  | j + 1, hj, k, h, hp => by
    rw [List.range_succ, setAll_snoc, List.getElem?_set]
    by_cases hk : k = j
    · subst hk
      rw [if_pos rfl, if_pos (by rw [setAll_len]; exact hp)]
    · rw [if_neg (fun e => hk (inj k j (by omega) (by omega) e.symm)), setAll_get pos f xs inj j (by omega) k (by omega) hp]
theorem setAll_id (f : Nat → Int) (m : Nat) : setAll (fun k => k) f (List.replicate m 0) (List.range m) = (List.range m).map f := by
  apply List.ext_getElem?
  intro j
  by_cases hj : j < m
  · rw [setAll_get (fun k => k) f _ (m := m) (fun _ _ _ _ e => e) m (Nat.le_refl _) j hj (by simpa using hj)]
    simp [hj]
  · rw [List.getElem?_eq_none (by rw [setAll_len]; simp; omega), List.getElem?_eq_none (by simp; omega)]
theorem mirrorAt_lt {n k : Nat} (hn : 0 < n) : mirrorAt n k < n := Nat.mod_lt _ hn
theorem mirrorAt_pos {n k : Nat} (hk : 0 < k) (hkn : k < n) : mirrorAt n k = n - k := Nat.mod_eq_of_lt (by omega)
theorem mirrorAt_zero (n : Nat) : mirrorAt n 0 = 0 := by simp [mirrorAt]
theorem mirrorAt_inv {n k : Nat} (hk : k < n) : mirrorAt n (mirrorAt n k) = k := by
  by_cases h : k = 0
  · subst h; rw [mirrorAt_zero, mirrorAt_zero]
  · rw [mirrorAt_pos (by omega) hk, mirrorAt_pos (by omega) (by omega)]; omega
theorem setAll_mirror (f : Nat → Int) (m : Nat) : setAll (mirrorAt m) f (List.replicate m 0) (List.range m) = (List.range m).map fun j => f (mirrorAt m j) := by
  apply List.ext_getElem?
  intro j
  by_cases hj : j < m
  · have h := setAll_get (mirrorAt m) f (List.replicate m 0) (m := m) (fun a b ha hb e => by rw [← mirrorAt_inv ha, e, mirrorAt_inv hb]) m (Nat.le_refl _) (mirrorAt m j) (mirrorAt_lt (by omega)) (by rw [mirrorAt_inv hj]; simpa using hj)
    rw [mirrorAt_inv hj] at h
    rw [h]
    simp [hj]
  · rw [List.getElem?_eq_none (by rw [setAll_len]; simp; omega), List.getElem?_eq_none (by simp; omega)]
theorem rotI_eq (n r : Int) (zs : List Int) : rotI n r zs = (List.range zs.length).map fun k => (zs.getD k 0 + r) % n := by
  apply List.ext_getElem
  · simp [rotI]
  · intro i h1 h2
    have : i < zs.length := by simpa [rotI] using h1
    simp [rotI, this]
theorem movesI_snoc (xs ys : List Int) (ks : List Nat) (k : Nat) : movesI xs ys (ks ++ [k]) = movesI xs ys ks ++ if xs.getD k 0 ≠ ys.getD k 0 then [(k : Int)] else [] := by
  unfold movesI
  rw [List.filter_append, List.map_append]
  congr 1
  by_cases h : xs.getD k 0 ≠ ys.getD k 0
  · rw [if_pos h, List.filter_cons, if_pos (decide_eq_true h)]; rfl
  · rw [if_neg h, List.filter_cons, if_neg (fun e => h (of_decide_eq_true e))]; rfl
theorem movesI_len (xs ys : List Int) (ks : List Nat) : (movesI xs ys ks).length ≤ ks.length := by
  simp only [movesI, List.length_map]
  exact List.length_filter_le _ _
theorem usualI_len (n c : Int) : (usualI n c).length = n.toNat := by simp [usualI]
theorem shiftsI_len (n : Int) (zs : List Int) : (shiftsI n zs).length = zs.length := by simp [shiftsI]
theorem mirrorI_len (n : Int) (zs : List Int) : (mirrorI n zs).length = zs.length := by simp [mirrorI]
theorem rotI_len (n r : Int) (zs : List Int) : (rotI n r zs).length = zs.length := by simp [rotI]
theorem swapI_len (zs : List Int) (k l : Nat) : (swapI zs k l).length = zs.length := by simp [swapI]
end Go.Proofs.Ytlmbcidijbohiaa
