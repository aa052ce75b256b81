/- Chains in numbers, as the program reckons them: the least links at once, the greatest stay by halving, the greatest and the least of a rising list. No program. -/
import Derived.Test.YtilepehlmjohbaaMgSlacks3
import Derived.Test.YtilepehlmjohbaaPlainTen2
namespace Go.Proofs.Ytilepehlmjohbaa
set_option linter.unusedSimpArgs false
set_option linter.unusedVariables false

theorem ceilI_le {n d k : Int} (hd : 0 < d) : ceilI n d ≤ k ↔ n ≤ k * d := by
  unfold ceilI
  have h : -k ≤ (-n) / d ↔ -k * d ≤ -n := Int.le_ediv_iff_mul_le hd
  rw [Int.neg_mul] at h
  omega
theorem lnTo_fast (need : Int) : ∀ (m k : Nat), lnTo need (2 * (k : Int)) m = if max (k : Int) (ceilI need 2000) < (k : Int) + (m : Int) then (2 * max (k : Int) (ceilI need 2000), 0) else (0, 4)
  | 0, k => by
    rw [if_neg (by omega)]
    rfl
  | m + 1, k => by
    have h := ceilI_le (n := need) (d := 2000) (k := k) (by decide)
    show (if need ≤ 1000 * (2 * (k : Int)) then (2 * (k : Int), 0) else lnTo need (2 * (k : Int) + 2) m) = _
    by_cases hq : need ≤ 1000 * (2 * (k : Int))
    · have : ceilI need 2000 ≤ k := h.2 (by omega)
      rw [if_pos hq, show max (k : Int) (ceilI need 2000) = k by omega, if_pos (by omega)]
    · have hk : (k : Int) < ceilI need 2000 := by
        by_cases h1 : ceilI need 2000 ≤ k
        · have := h.1 h1; omega
        · omega
      rw [if_neg hq, show 2 * (k : Int) + 2 = 2 * ((k + 1 : Nat) : Int) by omega, lnTo_fast need m (k + 1)]
      rw [show max ((k + 1 : Nat) : Int) (ceilI need 2000) = ceilI need 2000 by omega, show max (k : Int) (ceilI need 2000) = ceilI need 2000 by omega]
      by_cases hl : ceilI need 2000 < ((k + 1 : Nat) : Int) + (m : Int)
      · rw [if_pos hl, if_pos (by omega)]
      · rw [if_neg hl, if_neg (by omega)]
theorem linksR_fast {s f r : Int} (h : (stayB s && ringsB f r) = true) : linksR s f r = if 200 < max 40 (2 * ceilI (needI s f r) 2000) then (0, 4) else (max 40 (2 * ceilI (needI s f r) 2000), 0) := by
  unfold linksR
  rw [if_pos h]
  have e := lnTo_fast (needI s f r) 81 20
  rw [show 2 * ((20 : Nat) : Int) = 40 by rfl] at e
  rw [e]
  by_cases h1 : 200 < max 40 (2 * ceilI (needI s f r) 2000)
  · rw [if_pos h1, if_neg (by omega)]
  · rw [if_neg h1, if_pos (by omega), show 2 * max ((20 : Nat) : Int) (ceilI (needI s f r) 2000) = max 40 (2 * ceilI (needI s f r) 2000) by omega]
theorem needI_swap (s f r : Int) : needI s f r = needI s r f := by
  unfold needI
  rw [show (r - f) * (r - f) = (f - r) * (f - r) by rw [show r - f = -(f - r) by omega, Int.neg_mul_neg], Int.add_comm r f]
theorem needI_pair (s f r : Int) : needI s (min f r) (max f r) = needI s f r := by
  rcases Int.le_total f r with h | h
  · rw [show min f r = f by omega, show max f r = r by omega]
  · rw [show min f r = r by omega, show max f r = f by omega, needI_swap]
theorem needI_up {s f r : Int} (h : Legs s f r) (h1 : s + 1 ≤ 6000) : needI s f r ≤ needI (s + 1) f r := by
  have h5 := h.s0
  have q := sq_bd h
  have b := ceilI_bd (n := (f - r) * (f - r) * 127 * 1000000000) (d := 39478418 * (s + 1)) (X := 3000) (by omega) (by omega) (by omega)
  have i2 := (ceilI_le (n := (f - r) * (f - r) * 127 * 1000000000) (d := 39478418 * (s + 1)) (k := ceilI ((f - r) * (f - r) * 127 * 1000000000) (39478418 * (s + 1))) (by omega)).1 (Int.le_refl _)
  have i1 := (ceilI_le (n := 2000 * (s + 1)) (d := 127) (k := ceilI (2000 * (s + 1)) 127) (by decide)).1 (Int.le_refl _)
  have j1 : ceilI (2000 * s) 127 ≤ ceilI (2000 * (s + 1)) 127 - 15 := (ceilI_le (by decide)).2 (by omega)
  have j2 : ceilI ((f - r) * (f - r) * 127 * 1000000000) (39478418 * s) ≤ ceilI ((f - r) * (f - r) * 127 * 1000000000) (39478418 * (s + 1)) + 15 := by
    refine (ceilI_le (by omega)).2 ?_
    generalize ceilI ((f - r) * (f - r) * 127 * 1000000000) (39478418 * (s + 1)) = c at *
    generalize (f - r) * (f - r) * 127 * 1000000000 = n at *
    have e1 : c * (39478418 * (s + 1)) = 39478418 * (c * s) + 39478418 * c := by
      rw [Int.mul_left_comm c 39478418 (s + 1), Int.mul_add c s 1, Int.mul_one, Int.mul_add]
    have e2 : (c + 15) * (39478418 * s) = 39478418 * (c * s) + 39478418 * (15 * s) := by
      rw [Int.mul_left_comm (c + 15) 39478418 s, Int.add_mul c 15 s, Int.mul_add]
    omega
  unfold needI
  omega
theorem needI_mono {s f r : Int} (h : Legs s f r) : ∀ m : Nat, s + m ≤ 6000 → needI s f r ≤ needI (s + m) f r
  | 0, _ => by simp
  | m + 1, hm => by
    have h1 := needI_mono h m (by omega)
    have h0 := h.s0
    have h2 := needI_up (s := s + m) (f := f) (r := r) ⟨by omega, by omega, h.f0, h.f1, h.r0, h.r1⟩ (by omega)
    rw [show s + ((m + 1 : Nat) : Int) = s + m + 1 by omega]
    omega
/-- What a search by halving is after: the first m at which the chain does not suffice. -/
theorem sty_skip {l f r : Int} {k : Nat} (hno : ∀ m : Nat, k ≤ m → m ≤ 3000 → ¬ needI (3000 + m) f r ≤ 1000 * l) : ∀ d : Nat, k + d ≤ 3001 → styTo l f r (3000 + ((k + d : Nat) : Int) - 1) (k + d) = styTo l f r (3000 + (k : Int) - 1) k
  | 0, _ => rfl
  | d + 1, hd => by
    rw [← sty_skip hno d (by omega), show k + (d + 1) = (k + d) + 1 by omega]
    show (if needI (3000 + ((k + d + 1 : Nat) : Int) - 1) f r ≤ 1000 * l then _ else styTo l f r (3000 + ((k + d + 1 : Nat) : Int) - 1 - 1) (k + d)) = _
    rw [show 3000 + ((k + d + 1 : Nat) : Int) - 1 = 3000 + ((k + d : Nat) : Int) by omega, if_neg (hno (k + d) (by omega) (by omega))]
theorem stayR_found {l f r : Int} {k : Nat} (hb : (linksB l && ringsB f r) = true) (hk : k ≤ 3001) (hyes : ∀ m : Nat, m < k → needI (3000 + m) f r ≤ 1000 * l) (hno : ∀ m : Nat, k ≤ m → m ≤ 3000 → ¬ needI (3000 + m) f r ≤ 1000 * l) :
    stayR l f r = if k = 0 then (0, 4) else (3000 + (k : Int) - 1, 0) := by
  unfold stayR
  rw [if_pos hb]
  have e := sty_skip hno (3001 - k) (by omega)
  rw [show k + (3001 - k) = 3001 by omega] at e
  rw [show (6000 : Int) = 3000 + ((3001 : Nat) : Int) - 1 by rfl, e]
  cases k with
  | zero => rfl
  | succ j =>
    rw [if_neg (by omega)]
    show (if needI (3000 + ((j + 1 : Nat) : Int) - 1) f r ≤ 1000 * l then _ else _) = _
    have := hyes j (by omega)
    rw [show 3000 + ((j + 1 : Nat) : Int) - 1 = 3000 + (j : Int) by omega, if_pos this]
theorem maxTo_rise {lo hi most : Int} {zs : List Int} (h : Teeth lo hi most zs) : ∀ k, k + 1 ≤ zs.length → maxTo zs (k + 1) = zs.getD k 0
  | 0, hk => maxTo_one (by omega)
  | k + 1, hk => by
    rw [maxTo_succ (by omega), maxTo_rise h k (by omega)]
    have := h.rise k (by omega)
    omega
theorem minTo_rise {lo hi most : Int} {zs : List Int} (h : Teeth lo hi most zs) : ∀ k, k + 1 ≤ zs.length → minTo zs (k + 1) = zs.getD 0 0
  | 0, hk => minTo_one (by omega)
  | k + 1, hk => by
    rw [minTo_succ (by omega), minTo_rise h k (by omega)]
    have := h.up 0 (k + 1) (by omega) (by omega)
    omega
theorem maxTo_last {lo hi most : Int} {zs : List Int} (h : Teeth lo hi most zs) : maxTo zs zs.length = zs.getD (zs.length - 1) 0 := by
  have := h.one
  have e := maxTo_rise h (zs.length - 1) (by omega)
  rwa [show zs.length - 1 + 1 = zs.length by omega] at e
theorem minTo_first {lo hi most : Int} {zs : List Int} (h : Teeth lo hi most zs) : minTo zs zs.length = zs.getD 0 0 := by
  have := h.one
  have e := minTo_rise h (zs.length - 1) (by omega)
  rwa [show zs.length - 1 + 1 = zs.length by omega] at e
end Go.Proofs.Ytilepehlmjohbaa
