/- Tensions in numbers: the least, the greatest; the answers' lengths. No program. -/
import Derived.Test.YtbjoekbgejfebaaPlainTen
namespace Go.Proofs.Ytbjoekbgejfebaa

def minTo (zs : List Int) (k : Nat) : Int := (zs.take k).foldl min (zs.getD 0 0)
def maxTo (zs : List Int) (k : Nat) : Int := (zs.take k).foldl max (zs.getD 0 0)
theorem minTo_succ {zs : List Int} {k : Nat} (hk : k < zs.length) : minTo zs (k + 1) = min (minTo zs k) (zs.getD k 0) := by
  unfold minTo
  rw [take_succ hk, List.foldl_append]
  rfl
theorem maxTo_succ {zs : List Int} {k : Nat} (hk : k < zs.length) : maxTo zs (k + 1) = max (maxTo zs k) (zs.getD k 0) := by
  unfold maxTo
  rw [take_succ hk, List.foldl_append]
  rfl
theorem minTo_zero (zs : List Int) : minTo zs 0 = zs.getD 0 0 := by simp [minTo]
theorem maxTo_zero (zs : List Int) : maxTo zs 0 = zs.getD 0 0 := by simp [maxTo]
theorem minTo_one {zs : List Int} (h : 0 < zs.length) : minTo zs 1 = zs.getD 0 0 := by rw [minTo_succ h, minTo_zero]; omega
theorem maxTo_one {zs : List Int} (h : 0 < zs.length) : maxTo zs 1 = zs.getD 0 0 := by rw [maxTo_succ h, maxTo_zero]; omega
theorem minTo_le {zs : List Int} : ∀ {k : Nat}, k ≤ zs.length → ∀ i, i < k → minTo zs k ≤ zs.getD i 0
  | 0, _, i, hi => by omega
  | k + 1, hk, i, hi => by
    rw [minTo_succ (by omega)]
    by_cases h : i = k
    · subst h; omega
    · have := minTo_le (zs := zs) (k := k) (by omega) i (by omega); omega
theorem maxTo_ge {zs : List Int} : ∀ {k : Nat}, k ≤ zs.length → ∀ i, i < k → zs.getD i 0 ≤ maxTo zs k
  | 0, _, i, hi => by omega
  | k + 1, hk, i, hi => by
    rw [maxTo_succ (by omega)]
    by_cases h : i = k
    · subst h; omega
    · have := maxTo_ge (zs := zs) (k := k) (by omega) i (by omega); omega
theorem minTo_bd {a b : Int} {zs : List Int} (h : rngB a b zs = true) (h0 : 0 < zs.length) : ∀ k, k ≤ zs.length → a ≤ minTo zs k ∧ minTo zs k ≤ b
  | 0, _ => by rw [minTo_zero]; exact rngB_at h h0
  | k + 1, hk => by
    rw [minTo_succ (by omega)]
    have h1 := minTo_bd h h0 k (by omega)
    have h2 := rngB_at h (k := k) (by omega)
    omega
theorem maxTo_bd {a b : Int} {zs : List Int} (h : rngB a b zs = true) (h0 : 0 < zs.length) : ∀ k, k ≤ zs.length → a ≤ maxTo zs k ∧ maxTo zs k ≤ b
  | 0, _ => by rw [maxTo_zero]; exact rngB_at h h0
  | k + 1, hk => by
    rw [maxTo_succ (by omega)]
    have h1 := maxTo_bd h h0 k (by omega)
    have h2 := rngB_at h (k := k) (by omega)
    omega
def spreadR (zs : List Int) : Int × Int := if tenB zs then (maxTo zs zs.length - minTo zs zs.length, 0) else (0, 1)
theorem per_start {s : List Int} (h : 0 < s.length) : 2 * (s.take (0 + 1)).sum - s.getD 0 0 = s.getD 0 0 := by
  rw [sum_take_succ h]
  simp
  omega
theorem per_succ {s : List Int} {k : Nat} (h : k + 1 < s.length) : 2 * (s.take (k + 1 + 1)).sum - s.getD 0 0 = (2 * (s.take (k + 1)).sum - s.getD 0 0) + 2 * s.getD (k + 1) 0 := by
  rw [sum_take_succ h]
  omega
theorem per_end {s : List Int} {k : Nat} (h : k + 1 = s.length) : 2 * (s.take (k + 1)).sum - s.getD 0 0 = gainI s := by
  rw [h, List.take_length]
  rfl
theorem per_bd {s : List Int} (h : rngB (-200) 200 s = true) (h4 : s.length ≤ 4) (h1 : 1 ≤ s.length) {k : Nat} (hk : k ≤ s.length) : -2000 ≤ 2 * (s.take k).sum - s.getD 0 0 ∧ 2 * (s.take k).sum - s.getD 0 0 ≤ 2000 := by
  have := sum_take_bd h k hk
  have := rngB_at h (k := 0) h1
  omega
def codeT (zs s ts : List Int) : Int := if tenB zs && stiffB s then if rngB (-100) 100 ts && decide (ts.length = zs.length) then 0 else 2 else 1
theorem turnAllR_len (zs s ts : List Int) : (turnAllR zs s ts).1.length ≤ 1048576 := by
  unfold turnAllR
  split
  · split
    · split
      · rename_i h
        have := (tenB_iff.1 h).hi
        show (allTo _ _ _ _ _).length ≤ _
        omega
      · exact Nat.zero_le _
    · exact Nat.zero_le _
  · exact Nat.zero_le _
theorem turnNipR_len (zs s : List Int) (p q : Int) : (turnNipR zs s p q).1.length ≤ 1048576 := by
  unfold turnNipR
  split
  · split
    · split
      · rename_i h
        have := (tenB_iff.1 h).hi
        show (turn1 _ _ _ _ _).length ≤ _
        omega
      · exact Nat.zero_le _
    · exact Nat.zero_le _
  · exact Nat.zero_le _
theorem outR_len (zs : List Int) (pc : Int) : (outR zs pc).1.length ≤ 1048576 := by
  unfold outR
  split
  · rename_i h
    have := (tenB_iff.1 h).hi
    split
    · have := idxI_len (farB (meanI zs) pc) zs zs.length
      show (idxI _ _ _).length ≤ _
      omega
    · exact Nat.zero_le _
  · exact Nat.zero_le _
theorem slackR_len (zs : List Int) (l : Int) : (slackR zs l).1.length ≤ 1048576 := by
  unfold slackR
  split
  · rename_i h
    have := (tenB_iff.1 h).hi
    split
    · have := idxI_len (fun t => decide (t < l)) zs zs.length
      dsimp only
      omega
    · exact Nat.zero_le _
  · exact Nat.zero_le _
end Go.Proofs.Ytbjoekbgejfebaa
