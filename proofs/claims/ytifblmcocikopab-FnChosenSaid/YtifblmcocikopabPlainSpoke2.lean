/- Stocks, ranges, crosses and shares in numbers. No program. -/
import Derived.Test.YtifblmcocikopabPlainSpoke
namespace Go.Proofs.Ytifblmcocikopab

/-- Is number i of a list in 0..n - 1 and above the one before it? -/
def riseAt (L : List Int) (n : Int) (i : Nat) : Bool := inB (L.getD i 0) 0 (n - 1) && (decide (i = 0) || decide (L.getD (i - 1) 0 < L.getD i 0))
def riseTo (L : List Int) (n : Int) (k : Nat) : Bool := (List.range k).all (riseAt L n)
def stockB (L : List Int) : Bool := riseTo L 5001 L.length && decide (L.length ≤ 30)
theorem riseTo_next (L : List Int) (n : Int) (k : Nat) : riseTo L n (k + 1) = (riseTo L n k && riseAt L n k) := by
  unfold riseTo
  rw [List.range_succ, List.all_append, List.all_cons, List.all_nil, Bool.and_true]
theorem riseTo_iff {L : List Int} {n : Int} {k : Nat} : riseTo L n k = true ↔ ∀ i, i < k → riseAt L n i = true := by
  unfold riseTo
  rw [List.all_eq_true]
  exact ⟨fun h i hi => h i (List.mem_range.2 hi), fun h i hi => h i (List.mem_range.1 hi)⟩
theorem riseTo_no {L : List Int} {n : Int} {k m : Nat} (hk : k < m) (h : riseAt L n k = false) : riseTo L n m = false := by
  cases e : riseTo L n m
  · rfl
  · have := riseTo_iff.1 e k hk
    rw [h] at this
    cases this
theorem rise_lt {L : List Int} {n : Int} {m : Nat} (h : riseTo L n m = true) : ∀ j, j < m → ∀ i, i < j → L.getD i 0 < L.getD j 0 := by
  intro j
  induction j with
  | zero => intro _ i hi; omega
  | succ j ih =>
    intro hj i hi
    have h1 := riseTo_iff.1 h (j + 1) hj
    unfold riseAt at h1
    rw [Bool.and_eq_true, Bool.or_eq_true, decide_eq_true_iff, decide_eq_true_iff] at h1
    have h2 : L.getD j 0 < L.getD (j + 1) 0 := by
      rcases h1.2 with h | h
      · omega
      · exact h
    rcases Nat.lt_or_ge i j with h3 | h3
    · have := ih (by omega) i h3; omega
    · obtain rfl : i = j := by omega
      exact h2
theorem rise_ge {L : List Int} {n : Int} {m i : Nat} (h : riseTo L n m = true) (hi : i < m) : 0 ≤ L.getD i 0 ∧ L.getD i 0 ≤ n - 1 := by
  have h1 := riseTo_iff.1 h i hi
  unfold riseAt at h1
  rw [Bool.and_eq_true] at h1
  exact inB_iff.1 h1.1
/-- The last one of the first k numbers that is near a length, or -1. -/
def choTo (L : List Int) (m : Int) : Nat → Int
  | 0 => -1
  | k + 1 => if inB (L.getD k 0) (m - 20) (m + 10) then L.getD k 0 else choTo L m k
def choL (L : List Int) (m : Int) : Int := choTo L m L.length
theorem choTo_spec {L : List Int} {m : Int} : ∀ {k : Nat}, riseTo L 5001 k = true →
    (choTo L m k = -1 ∧ ∀ i, i < k → inB (L.getD i 0) (m - 20) (m + 10) = false) ∨
    (0 ≤ choTo L m k ∧ inB (choTo L m k) (m - 20) (m + 10) = true ∧ (∃ i, i < k ∧ choTo L m k = L.getD i 0) ∧ ∀ i, i < k → choTo L m k < L.getD i 0 → ¬ L.getD i 0 ≤ m + 10)
  | 0, _ => .inl ⟨rfl, fun i hi => absurd hi (by omega)⟩
  | k + 1, h => by
    have hk : riseTo L 5001 k = true := riseTo_iff.2 fun i hi => riseTo_iff.1 h i (by omega)
    unfold choTo
    cases hb : inB (L.getD k 0) (m - 20) (m + 10)
    · rw [if_neg (by simp)]
      rcases choTo_spec (m := m) hk with ⟨h1, h2⟩ | ⟨h1, h2, ⟨i, hi, e⟩, h3⟩
      · refine .inl ⟨h1, fun i hi => ?_⟩
        rcases Nat.lt_or_ge i k with h4 | h4
        · exact h2 i h4
        · obtain rfl : i = k := by omega
          exact hb
      · refine .inr ⟨h1, h2, ⟨i, by omega, e⟩, fun j hj hlt hle => ?_⟩
        rcases Nat.lt_or_ge j k with h4 | h4
        · exact h3 j h4 hlt hle
        · obtain rfl : j = k := by omega
          have := (inB_iff.1 h2).1
          have h5 : inB (L.getD j 0) (m - 20) (m + 10) = true := inB_iff.2 ⟨by omega, hle⟩
          rw [hb] at h5
          cases h5
    · rw [if_pos rfl]
      refine .inr ⟨(rise_ge h (by omega)).1, hb, ⟨k, by omega, rfl⟩, fun j hj hlt hle => ?_⟩
      rcases Nat.lt_or_ge j k with h4 | h4
      · have := rise_lt h k (by omega) j h4; omega
      · obtain rfl : j = k := by omega
        omega
def choA (L : List Int) (m : Int) : Int × Int :=
  if stockB L then (if inB m 0 5000 then (if choL L m < 0 then (0, 4) else (choL L m, 0)) else (0, 2)) else (0, 1)
def forA (w : Wh) (L : List Int) : Int × Int × Int :=
  if wheelB w && stockB L then (if choL L (spLen w false) < 0 ∨ choL L (spLen w true) < 0 then (0, 0, 4) else (choL L (spLen w false), choL L (spLen w true), 0)) else (0, 0, 1)
/-- The least and the greatest length at the first k diameters. -/
def loTo (w : Wh) (r : Bool) (t : Int) : Nat → Int
  | 0 => 1000000000
  | k + 1 => min (loTo w r t k) (spLen (setD w (w.r.d + (-t + k))) r)
def hiTo (w : Wh) (r : Bool) (t : Int) : Nat → Int
  | 0 => -1000000000
  | k + 1 => max (hiTo w r t k) (spLen (setD w (w.r.d + (-t + k))) r)
def rngA (w : Wh) (r : Bool) (t : Int) : (Int × Int) × Int :=
  if wheelB w then
    if inB t 0 20 then
      if 2000 ≤ w.r.d - t ∧ w.r.d + t ≤ 7000 then ((loTo w r t (2 * t + 1).toNat, hiTo w r t (2 * t + 1).toNat), 0) else ((0, 0), 5)
    else ((0, 0), 2)
  else ((0, 0), 1)
theorem setD_self (w : Wh) : setD w w.r.d = w := rfl
theorem loTo_le {w : Wh} {r : Bool} {t : Int} : ∀ {k j : Nat}, j < k → loTo w r t k ≤ spLen (setD w (w.r.d + (-t + j))) r ∧ spLen (setD w (w.r.d + (-t + j))) r ≤ hiTo w r t k
  | 0, _, h => absurd h (by omega)
  | k + 1, j, h => by
    unfold loTo hiTo
    rcases Nat.lt_or_ge j k with h1 | h1
    · have := loTo_le (w := w) (r := r) (t := t) h1; omega
    · obtain rfl : j = k := by omega
      omega
theorem rngA_own {w : Wh} {r : Bool} {t : Int} {p : Int × Int} (h : rngA w r t = (p, 0)) : wheelB w = true ∧ p.1 ≤ spLen w r ∧ spLen w r ≤ p.2 := by
  unfold rngA at h
  split at h
  · rename_i hw
    split at h
    · rename_i ht
      have ht2 := inB_iff.1 ht
      split at h
      · have h2 := congrArg Prod.fst h
        simp only at h2
        have := loTo_le (w := w) (r := r) (t := t) (k := (2 * t + 1).toNat) (j := t.toNat) (by omega)
        have e : w.r.d + (-t + (t.toNat : Int)) = w.r.d := by omega
        rw [e, setD_self] at this
        rw [← h2]
        exact ⟨hw, this⟩
      · exact absurd (congrArg Prod.snd h) (by simp)
    · exact absurd (congrArg Prod.snd h) (by simp)
  · exact absurd (congrArg Prod.snd h) (by simp)
/-- How far a length is from another one with c crosses; the best one of the first k, and how far it is. -/
def awayI (w : Wh) (r : Bool) (m c : Int) : Int := max (spLen (setC w c) r - m) (-(spLen (setC w c) r - m))
def bestTo (w : Wh) (r : Bool) (m : Int) : Nat → Int × Int
  | 0 => (0, -1)
  | k + 1 => if (bestTo w r m k).2 < 0 ∨ awayI w r m k < (bestTo w r m k).2 then ((k : Int), awayI w r m k) else bestTo w r m k
theorem away_ge (w : Wh) (r : Bool) (m c : Int) : 0 ≤ awayI w r m c := by unfold awayI; omega
theorem bestTo_spec (w : Wh) (r : Bool) (m : Int) : ∀ (k : Nat), (bestTo w r m (k + 1)).2 = awayI w r m (bestTo w r m (k + 1)).1 ∧ 0 ≤ (bestTo w r m (k + 1)).1 ∧ (bestTo w r m (k + 1)).1 ≤ k ∧ ∀ j : Nat, j ≤ k → (bestTo w r m (k + 1)).2 ≤ awayI w r m j
  | 0 => by
    have e : bestTo w r m 1 = (((0 : Nat) : Int), awayI w r m ((0 : Nat) : Int)) := by
      unfold bestTo
      rw [if_pos (.inl (by unfold bestTo; omega))]
    rw [e]
    refine ⟨rfl, by simp, by simp, fun j hj => ?_⟩
    obtain rfl : j = 0 := by omega
    exact Int.le_refl _
  | k + 1 => by
    obtain ⟨h1, h2, h3, h4⟩ := bestTo_spec w r m k
    have hp := away_ge w r m (bestTo w r m (k + 1)).1
    rw [← h1] at hp
    unfold bestTo
    generalize bestTo w r m (k + 1) = p at *
    by_cases hc : p.2 < 0 ∨ awayI w r m ((k + 1 : Nat) : Int) < p.2
    · rw [if_pos hc]
      refine ⟨rfl, by simp; omega, by simp, fun j hj => ?_⟩
      rcases Nat.lt_or_ge j (k + 1) with h | h
      · have := h4 j (by omega)
        show awayI w r m ((k + 1 : Nat) : Int) ≤ _
        omega
      · obtain rfl : j = k + 1 := by omega
        exact Int.le_refl _
    · rw [if_neg hc]
      refine ⟨h1, h2, by omega, fun j hj => ?_⟩
      rcases Nat.lt_or_ge j (k + 1) with h | h
      · exact h4 j (by omega)
      · obtain rfl : j = k + 1 := by omega
        omega
def crsA (w : Wh) (r : Bool) (m : Int) : Int × Int :=
  if wheelB w then (if inB m 0 5000 then ((bestTo w r m (w.h.n / 4).toNat).1, 0) else (0, 2)) else (0, 1)
def nearQ (n d : Int) : Int := (2 * n + d) / (2 * d)
def shareI (w : Wh) : Int := nearQ (1000 * offI w true * spLen w false) (offI w false * spLen w true)
def shrA (w : Wh) : Int × Int := if wheelB w then (if offI w false < 1 ∨ offI w true < 1 then (0, 5) else (shareI w, 0)) else (0, 1)
theorem pos_mul {a b p q : Int} (h0 : 1 ≤ a) (h1 : a ≤ p) (k0 : 1 ≤ b) (k1 : b ≤ q) : 1 ≤ a * b ∧ a * b ≤ p * q := by
  have e1 := Int.mul_le_mul (a := 1) (b := 1) (c := a) (d := b) h0 k0 (by omega) (by omega)
  have e2 := Int.mul_le_mul (a := a) (b := b) (c := p) (d := q) h1 k1 (by omega) (by omega)
  omega
theorem nearQ_both {n d : Int} (hn : 1 ≤ n) (hd : 1 ≤ d) : 0 ≤ nearQ (1000 * n) d ∧ ¬ (1000 < nearQ (1000 * n) d ∧ 1000 < nearQ (1000 * d) n) := by
  unfold nearQ
  refine ⟨Int.ediv_nonneg (by omega) (by omega), fun ⟨h1, h2⟩ => ?_⟩
  have e1 : 1001 * (2 * d) ≤ 2 * (1000 * n) + d := (Int.le_ediv_iff_mul_le (by omega)).1 (by omega)
  have e2 : 1001 * (2 * n) ≤ 2 * (1000 * d) + n := (Int.le_ediv_iff_mul_le (by omega)).1 (by omega)
  omega
theorem shareI_mirr {w : Wh} : shareI (mirrW w) = nearQ (1000 * offI w false * spLen w true) (offI w true * spLen w false) := by
  unfold shareI
  rw [show (true : Bool) = !false from rfl, offI_mirr, spLen_mirr, show (false : Bool) = !true from rfl, offI_mirr, spLen_mirr]
  rfl
end Go.Proofs.Ytifblmcocikopab
