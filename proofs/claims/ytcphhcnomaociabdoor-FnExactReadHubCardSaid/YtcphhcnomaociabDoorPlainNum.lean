/- Plain facts on digits, numerals and what ParseInt makes of them. No program. -/
import Derived.Lib.ItoaNum
import Derived.Lib.ItoaLen
import Derived.Lib.ParseIntB
import Derived.Lib.IndexMore
import Derived.KernelRfl
namespace Go.Proofs.YtcphhcnomaociabDoor

/-- What digits spell, behind a number that is already spelt. -/
def nv : Nat → List UInt8 → Nat
  | a, [] => a
  | a, c :: r => nv (a * 10 + (c.toNat - 48)) r
def isDig (c : UInt8) : Bool := decide (48 ≤ c.toNat) && decide (c.toNat ≤ 57)
theorem isDig_iff {c : UInt8} : isDig c = true ↔ 48 ≤ c.toNat ∧ c.toNat ≤ 57 := by simp [isDig]
theorem nv_append : ∀ (x y : List UInt8) (a : Nat), nv a (x ++ y) = nv (nv a x) y
  | [], _, _ => rfl
  | c :: x, y, a => by rw [List.cons_append]; exact nv_append x y _
theorem nv_ge : ∀ (l : List UInt8) (a : Nat), a ≤ nv a l
  | [], _ => Nat.le_refl _
  | c :: r, a => Nat.le_trans (by omega) (nv_ge r (a * 10 + (c.toNat - 48)))
theorem mul_fact (a p : Nat) : (a + 1) * (p * 10) = ((a + 1) * 10) * p := by rw [Nat.mul_comm p 10, Nat.mul_assoc]
theorem nv_lt : ∀ (l : List UInt8) (a : Nat), l.all isDig = true → nv a l < (a + 1) * 10 ^ l.length := by
  intro l
  induction l with
  | nil => intro a _; show a < (a + 1) * 1; omega
  | cons c r ih =>
    intro a h
    rw [List.all_cons, Bool.and_eq_true] at h
    have hc := isDig_iff.1 h.1
    have h1 := ih (a * 10 + (c.toNat - 48)) h.2
    rw [List.length_cons, Nat.pow_succ]
    generalize 10 ^ r.length = p at h1 ⊢
    have h2 : (a * 10 + (c.toNat - 48) + 1) * p ≤ ((a + 1) * 10) * p := Nat.mul_le_mul_right _ (by omega)
    rw [mul_fact]
    exact Nat.lt_of_lt_of_le h1 h2
theorem nv_13 {l : List UInt8} (h : l.all isDig = true) (hl : l.length ≤ 13) : nv 0 l < 10000000000000 := by
  have h1 := nv_lt l 0 h
  have h2 : 10 ^ l.length ≤ 10 ^ 13 := Nat.pow_le_pow_right (by omega) hl
  rw [Nat.zero_add, Nat.one_mul] at h1
  exact Nat.lt_of_lt_of_le h1 (by simpa using h2)
theorem nv_12 {l : List UInt8} (h : l.all isDig = true) (hl : l.length ≤ 12) : nv 0 l < 1000000000000 := by
  have h1 := nv_lt l 0 h
  have h2 : 10 ^ l.length ≤ 10 ^ 12 := Nat.pow_le_pow_right (by omega) hl
  rw [Nat.zero_add, Nat.one_mul] at h1
  exact Nat.lt_of_lt_of_le h1 (by simpa using h2)
theorem digit_toNat {d : Nat} (h : d < 10) : (UInt8.ofNat (48 + d)).toNat = 48 + d := UInt8.toNat_ofNat_of_lt' (by show 48 + d < 256; omega)
theorem digit_isDig {d : Nat} (h : d < 10) : isDig (UInt8.ofNat (48 + d)) = true := isDig_iff.2 (by rw [digit_toNat h]; omega)
theorem decDigits_big {m : Nat} (h : ¬ m < 10) : Go.Lib.decDigits m = Go.Lib.decDigits (m / 10) ++ [UInt8.ofNat (48 + m % 10)] := by
  rw [Go.Lib.decDigits, dif_neg h]
theorem decDigits_dig : ∀ (m : Nat), (Go.Lib.decDigits m).all isDig = true := by
  intro m
  induction m using Nat.strongRecOn with
  | _ m ih =>
    by_cases h : m < 10
    · rw [Go.Lib.decDigits_one h, List.all_cons, digit_isDig h]
      rfl
    · rw [decDigits_big h, List.all_append, ih (m / 10) (by omega), List.all_cons, digit_isDig (show m % 10 < 10 by omega)]
      rfl
theorem nv_decDigits : ∀ (m : Nat), nv 0 (Go.Lib.decDigits m) = m := by
  intro m
  induction m using Nat.strongRecOn with
  | _ m ih =>
    by_cases h : m < 10
    · rw [Go.Lib.decDigits_one h]
      show 0 * 10 + ((UInt8.ofNat (48 + m)).toNat - 48) = m
      rw [digit_toNat h]; omega
    · rw [decDigits_big h, nv_append, ih (m / 10) (by omega)]
      show m / 10 * 10 + ((UInt8.ofNat (48 + m % 10)).toNat - 48) = m
      rw [digit_toNat (by omega)]; omega
theorem nDigits_le : ∀ (k m : Nat), 1 ≤ k → m < 10 ^ k → Go.Lib.nDigits m ≤ k := by
  intro k
  induction k with
  | zero => intro m h; omega
  | succ k ih =>
    intro m _ hm
    by_cases h : m < 10
    · rw [Go.Lib.nDigits_small h]; omega
    · rw [Go.Lib.nDigits_big h]
      by_cases hk : k = 0
      · subst hk; simp at hm; omega
      · have := ih (m / 10) (by omega) (by rw [Nat.pow_succ] at hm; omega)
        omega
theorem decDigits_len13 {m : Nat} (h : m < 10000000000000) : (Go.Lib.decDigits m).length ≤ 13 := by
  rw [Go.Lib.decDigits_length]
  exact nDigits_le 13 m (by omega) (by simpa using h)
theorem decDigits_pos (m : Nat) : 1 ≤ (Go.Lib.decDigits m).length := by
  rw [Go.Lib.decDigits_length]; exact Go.Lib.nDigits_pos m
theorem decDigits_not {m : Nat} {c : UInt8} (hc : isDig c = false) : c ∉ Go.Lib.decDigits m := by
  intro h
  have := List.all_eq_true.1 (decDigits_dig m) c h
  rw [hc] at this
  cases this

/-- A text that is the numeral of a number below ten to the thirteenth. -/
def valOk (l : List UInt8) : Bool := decide (1 ≤ l.length) && decide (l.length ≤ 13) && l.all isDig && (Go.Lib.decDigits (nv 0 l) == l)
theorem valOk_dec {m : Nat} (h : m < 10000000000000) : valOk (Go.Lib.decDigits m) = true := by
  unfold valOk
  rw [nv_decDigits, decDigits_dig, decide_eq_true (decDigits_pos m), decide_eq_true (decDigits_len13 h)]
  simp
theorem valOk_spec {l : List UInt8} (h : valOk l = true) : Go.Lib.decDigits (nv 0 l) = l ∧ nv 0 l < 10000000000000 := by
  unfold valOk at h
  simp only [Bool.and_eq_true, decide_eq_true_eq, beq_iff_eq] at h
  exact ⟨h.2, nv_13 h.1.2 h.1.1.2⟩

/-! ### ParseInt at base 10 and 64 bits -/
theorem parseU_ok : ∀ (l : List UInt8) (a : Nat), l.all isDig = true → nv a l ≤ 1000000000000000000 → Go.Lib.parseUintM (2 ^ 64 - 1) a l = .ok (nv a l)
  | [], a, _, _ => rfl
  | c :: r, a, h, hn => by
    rw [List.all_cons, Bool.and_eq_true] at h
    have hc := isDig_iff.1 h.1
    have hn' : nv (a * 10 + (c.toNat - 48)) r ≤ 1000000000000000000 := hn
    have hge := nv_ge r (a * 10 + (c.toNat - 48))
    unfold Go.Lib.parseUintM
    rw [if_pos hc, if_neg (by omega), if_neg (by omega)]
    exact parseU_ok r _ h.2 hn'
theorem parse_pos {c : UInt8} {r : List UInt8} (h : (c :: r).all isDig = true) (hn : nv 0 (c :: r) ≤ 1000000000000000000) : Go.Lib.parseIntB 64 (c :: r) = .ok (nv 0 (c :: r) : Int) := by
  have hc := isDig_iff.1 (List.all_eq_true.1 h c (by simp))
  have hu : Go.Lib.parseUintB 64 (c :: r) = .ok (nv 0 (c :: r)) := by
    unfold Go.Lib.parseUintB
    rw [if_neg (by simp), parseU_ok _ _ h hn]
  unfold Go.Lib.parseIntB
  simp only [if_neg (show ¬ (c.toNat = 43 ∨ c.toNat = 45) by omega), hu]
  rw [if_neg (by omega), if_neg (by omega), if_neg (by omega)]
theorem parse_neg {l : List UInt8} (hl : l ≠ []) (h : l.all isDig = true) (hn : nv 0 l ≤ 1000000000000000000) : Go.Lib.parseIntB 64 (45 :: l) = .ok (-(nv 0 l : Int)) := by
  have hu : Go.Lib.parseUintB 64 l = .ok (nv 0 l) := by
    unfold Go.Lib.parseUintB
    rw [if_neg hl, parseU_ok _ _ h hn]
  have h45 : (45 : UInt8).toNat = 45 := rfl
  unfold Go.Lib.parseIntB
  simp only [h45, or_true, if_true, hu]
  rw [if_neg (by omega), if_neg (by omega)]
theorem parse_itoa (z : Int) (h0 : -1000000000000000000 ≤ z) (h1 : z ≤ 1000000000000000000) : Go.Lib.parseIntB 64 (Go.Lib.itoa z) = .ok z := by
  unfold Go.Lib.itoa
  split
  · have hne : Go.Lib.decDigits z.natAbs ≠ [] := fun e => by have := decDigits_pos z.natAbs; rw [e] at this; simp at this
    rw [parse_neg hne (decDigits_dig _) (by rw [nv_decDigits]; omega), nv_decDigits]
    congr 1
    omega
  · cases hd : Go.Lib.decDigits z.toNat with
    | nil => have := decDigits_pos z.toNat; rw [hd] at this; simp at this
    | cons c r =>
      have ha := decDigits_dig z.toNat
      have hv := nv_decDigits z.toNat
      rw [hd] at ha hv
      rw [parse_pos ha (by rw [hv]; omega), hv]
      congr 1
      omega

/-! ### A text cut at its first byte c -/
theorem index_byte_no {c : UInt8} {l : List UInt8} (h : c ∉ l) : Go.Lib.index l [c] = -1 := by
  induction l with
  | nil => rfl
  | cons x r ih =>
    have hx : ¬ c = x := fun e => h (by simp [e])
    have hr : c ∉ r := fun e => h (by simp [e])
    unfold Go.Lib.index
    have : ([c].isPrefixOf (x :: r)) = false := by simp [List.isPrefixOf, hx]
    rw [this, ih hr]
    rfl
theorem index_byte_at {c : UInt8} {a b : List UInt8} (h : c ∉ a) : Go.Lib.index (a ++ c :: b) [c] = a.length := by
  induction a with
  | nil => simp [Go.Lib.index, List.isPrefixOf]
  | cons x r ih =>
    have hx : ¬ c = x := fun e => h (by simp [e])
    have hr : c ∉ r := fun e => h (by simp [e])
    rw [List.cons_append]
    unfold Go.Lib.index
    have : ([c].isPrefixOf (x :: (r ++ c :: b))) = false := by simp [List.isPrefixOf, hx]
    rw [this, ih hr]
    have hne : ¬ ((r.length : Int) == -1) = true := by simp
    simp only [Bool.false_eq_true, if_false]
    rw [if_neg hne]
    simp
theorem cut_at {c : UInt8} {a b : List UInt8} (h : c ∉ a) : Go.Lib.cut (a ++ c :: b) [c] = (a, b, true) := by
  unfold Go.Lib.cut
  rw [index_byte_at h, if_pos (by omega)]
  simp only [Int.toNat_natCast, List.length_cons, List.length_nil]
  rw [List.take_left, show (a ++ c :: b).drop (a.length + (0 + 1)) = b by rw [show a ++ c :: b = (a ++ [c]) ++ b by simp]; exact List.drop_left' (by simp)]
theorem cut_size (l : List UInt8) (c : UInt8) : (Go.Lib.cut l [c]).1.length ≤ l.length ∧ (Go.Lib.cut l [c]).2.1.length ≤ l.length := by
  unfold Go.Lib.cut
  split
  · simp only [List.length_take, List.length_drop]; omega
  · simp
end Go.Proofs.YtcphhcnomaociabDoor
