/- Intervals: what the functions of chapter 2 answer, in numbers. No program. -/
import Derived.Below
namespace Go.Proofs.Ytifblmcocikopab

/-- Is (a, b) an interval? -/
def vldB (a b : Int) : Bool := decide (-1000000000 ≤ a ∧ a ≤ b ∧ b ≤ 1000000000)
theorem vldB_mk {a b : Int} (h : -1000000000 ≤ a ∧ a ≤ b ∧ b ≤ 1000000000) : vldB a b = true := by unfold vldB; exact decide_eq_true h
theorem vldB_no {a b : Int} (h : ¬ (-1000000000 ≤ a ∧ a ≤ b ∧ b ≤ 1000000000)) : vldB a b = false := by unfold vldB; exact decide_eq_false h
theorem vldB_of {a b : Int} (h : vldB a b = true) : -1000000000 ≤ a ∧ a ≤ b ∧ b ≤ 1000000000 := of_decide_eq_true h

/-- An answer: low end, high end, code. -/
structure Iv where
  lo : Int
  hi : Int
  code : Int
def limIv (x y : Int) : Iv := if vldB x y = true then ⟨x, y, 0⟩ else ⟨0, 0, 3⟩
def addIv (a b c d : Int) : Iv := if vldB a b = true ∧ vldB c d = true then limIv (a + c) (b + d) else ⟨0, 0, 1⟩
def timesIv (a b n : Int) : Iv :=
  if vldB a b = true then (if -1000000 ≤ n ∧ n ≤ 1000000 then limIv (min (a * n) (b * n)) (max (a * n) (b * n)) else ⟨0, 0, 2⟩) else ⟨0, 0, 1⟩
def squareIv (a b : Int) : Iv :=
  if vldB a b = true then limIv (if a ≤ 0 ∧ 0 ≤ b then 0 else min (a * a) (b * b)) (max (a * a) (b * b)) else ⟨0, 0, 1⟩
def meetIv (a b c d : Int) : Iv :=
  if vldB a b = true ∧ vldB c d = true then (if max a c ≤ min b d then ⟨max a c, min b d, 0⟩ else ⟨0, 0, 5⟩) else ⟨0, 0, 1⟩
def hullIv (a b c d : Int) : Iv := if vldB a b = true ∧ vldB c d = true then ⟨min a c, max b d, 0⟩ else ⟨0, 0, 1⟩

/-- The square root of a natural number, rounded down. -/
def sqN : Nat → Nat
  | 0 => 0
  | n + 1 => if (sqN n + 1) * (sqN n + 1) ≤ n + 1 then sqN n + 1 else sqN n
theorem sqN_ok (n : Nat) : sqN n * sqN n ≤ n ∧ n < (sqN n + 1) * (sqN n + 1) := by
  induction n with
  | zero => simp [sqN]
  | succ n ih =>
    obtain ⟨h1, h2⟩ := ih
    unfold sqN
    by_cases h : (sqN n + 1) * (sqN n + 1) ≤ n + 1
    · rw [if_pos h]
      refine ⟨h, ?_⟩
      have : (sqN n + 1 + 1) * (sqN n + 1 + 1) = (sqN n + 1) * (sqN n + 1) + 2 * (sqN n + 1) + 1 := by
        simp only [Nat.add_mul, Nat.mul_add]; omega
      omega
    · rw [if_neg h]
      exact ⟨by omega, by omega⟩
def rootI (n : Int) : Int := (sqN n.toNat : Int)
def upI (n : Int) : Int := if rootI n * rootI n < n then rootI n + 1 else rootI n
/-- r is the square root of n, rounded down. -/
def Root (n r : Int) : Prop := 0 ≤ r ∧ r * r ≤ n ∧ n < (r + 1) * (r + 1)
theorem rootI_ok {n : Int} (h : 0 ≤ n) : Root n (rootI n) := by
  obtain ⟨h1, h2⟩ := sqN_ok n.toNat
  unfold Root rootI
  refine ⟨by omega, ?_, ?_⟩
  · have : ((sqN n.toNat * sqN n.toNat : Nat) : Int) ≤ (n.toNat : Int) := by exact_mod_cast h1
    rw [Int.natCast_mul] at this
    omega
  · have : (n.toNat : Int) < (((sqN n.toNat + 1) * (sqN n.toNat + 1) : Nat) : Int) := by exact_mod_cast h2
    rw [Int.natCast_mul, Int.natCast_add] at this
    have e : ((1 : Nat) : Int) = 1 := rfl
    rw [e] at this
    omega
theorem sq_lt {a b : Int} (ha : 0 ≤ a) (h : a * a < b * b) (hb : 0 ≤ b) : a < b := by
  rcases Int.lt_or_le a b with h1 | h1
  · exact h1
  · have := Int.mul_le_mul h1 h1 hb ha
    omega
theorem Root.eq {n r r' : Int} (h : Root n r) (h' : Root n r') : r = r' := by
  obtain ⟨a, b, c⟩ := h
  obtain ⟨a', b', c'⟩ := h'
  have p := sq_lt (a := r) (b := r' + 1) a (by omega) (by omega)
  have q := sq_lt (a := r') (b := r + 1) a' (by omega) (by omega)
  omega
theorem Root.is {n r : Int} (h : Root n r) (hn : 0 ≤ n) : r = rootI n := h.eq (rootI_ok hn)
def rootIv (a b : Int) : Iv := if vldB a b = true then (if a < 0 then ⟨0, 0, 5⟩ else ⟨rootI a, upI b, 0⟩) else ⟨0, 0, 1⟩

theorem mul_bd {a n p q : Int} (ha : -p ≤ a ∧ a ≤ p) (hn : -q ≤ n ∧ n ≤ q) : -(p * q) ≤ a * n ∧ a * n ≤ p * q := by
  have hp : 0 ≤ p := by omega
  have hq : 0 ≤ q := by omega
  have e1 : 0 ≤ (p - a) * (q + n) := Int.mul_nonneg (by omega) (by omega)
  have e2 : 0 ≤ (p + a) * (q - n) := Int.mul_nonneg (by omega) (by omega)
  have e3 : 0 ≤ (p - a) * (q - n) := Int.mul_nonneg (by omega) (by omega)
  have e4 : 0 ≤ (p + a) * (q + n) := Int.mul_nonneg (by omega) (by omega)
  simp only [Int.sub_mul, Int.add_mul, Int.mul_sub, Int.mul_add] at e1 e2 e3 e4
  omega

/-- A step of Newton's from above. -/
theorem newton {n r : Int} (hr : 0 ≤ r) (h : n < r * r) (hn : 0 ≤ n) : 0 ≤ (r + n / r) / 2 ∧ (r + n / r) / 2 < r ∧ n < ((r + n / r) / 2 + 1) * ((r + n / r) / 2 + 1) := by
  have hr0 : 0 < r := by
    rcases Int.lt_or_le 0 r with h1 | h1
    · exact h1
    · obtain rfl : r = 0 := by omega
      omega
  have hq0 : 0 ≤ n / r := Int.ediv_nonneg hn hr
  have hq1 : n / r < r := Int.ediv_lt_of_lt_mul hr0 h
  have hq2 : n < r * (n / r + 1) := by
    have := Int.lt_mul_ediv_self_add (x := n) (k := r) hr0
    rw [Int.mul_add]; omega
  generalize n / r = q at hq0 hq1 hq2
  have hm : 2 * ((r + q) / 2) ≥ r + q - 1 := by omega
  have hm0 : 0 ≤ (r + q) / 2 := by omega
  have hm1 : (r + q) / 2 < r := by omega
  refine ⟨hm0, hm1, ?_⟩
  generalize (r + q) / 2 = m at hm hm0 hm1
  have e1 : (r + q + 1) * (r + q + 1) ≤ (2 * (m + 1)) * (2 * (m + 1)) := Int.mul_le_mul (by omega) (by omega) (by omega) (by omega)
  have e2 : 0 ≤ (r - (q + 1)) * (r - (q + 1)) := by
    rcases Int.le_total 0 (r - (q + 1)) with h1 | h1
    · exact Int.mul_nonneg h1 h1
    · exact Int.mul_nonneg_of_nonpos_of_nonpos h1 h1
  simp only [Int.sub_mul, Int.add_mul, Int.mul_sub, Int.mul_add] at e1 e2 hq2 ⊢
  have c1 : q * r = r * q := Int.mul_comm _ _
  have c2 : 2 * m * (2 * m) = 4 * (m * m) := by rw [Int.mul_assoc, Int.mul_left_comm m 2 m]; omega
  have c3 : 2 * 1 * (2 * m) = 4 * m := by omega
  omega

/-- A number of an interval, times n. -/
theorem times_in {a b k n : Int} (h1 : a ≤ k) (h2 : k ≤ b) : min (a * n) (b * n) ≤ k * n ∧ k * n ≤ max (a * n) (b * n) := by
  rcases Int.le_total 0 n with hn | hn
  · have e1 := Int.mul_le_mul_of_nonneg_right h1 hn
    have e2 := Int.mul_le_mul_of_nonneg_right h2 hn
    omega
  · have e1 := Int.mul_le_mul_of_nonpos_right h1 hn
    have e2 := Int.mul_le_mul_of_nonpos_right h2 hn
    omega
theorem sq_nonneg (n : Int) : 0 ≤ n * n := by
  rcases Int.le_total 0 n with h1 | h1
  · exact Int.mul_nonneg h1 h1
  · exact Int.mul_nonneg_of_nonpos_of_nonpos h1 h1
/-- The square of a number of an interval. -/
theorem square_in {a b n : Int} (h1 : a ≤ n) (h2 : n ≤ b) : (if a ≤ 0 ∧ 0 ≤ b then 0 else min (a * a) (b * b)) ≤ n * n ∧ n * n ≤ max (a * a) (b * b) := by
  have hs := sq_nonneg n
  rcases Int.le_total 0 a with ha | ha
  · have e1 := Int.mul_le_mul h1 h1 ha (by omega)
    have e2 := Int.mul_le_mul h2 h2 (by omega) (by omega)
    have e0 := sq_nonneg a
    split <;> omega
  · rcases Int.le_total 0 b with hb | hb
    · rw [if_pos ⟨ha, hb⟩]
      refine ⟨hs, ?_⟩
      rcases Int.le_total 0 n with hn | hn
      · have e2 := Int.mul_le_mul h2 h2 hn (by omega)
        omega
      · have e2 := Int.mul_le_mul (show -n ≤ -a by omega) (show -n ≤ -a by omega) (by omega) (by omega)
        simp only [Int.neg_mul_neg] at e2
        omega
    · have e1 := Int.mul_le_mul (show -n ≤ -a by omega) (show -n ≤ -a by omega) (by omega) (by omega)
      have e2 := Int.mul_le_mul (show -b ≤ -n by omega) (show -b ≤ -n by omega) (by omega) (by omega)
      simp only [Int.neg_mul_neg] at e1 e2
      split <;> omega
end Go.Proofs.Ytifblmcocikopab
