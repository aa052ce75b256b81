/- Plain facts on joined texts. No program. -/
import Derived.Lib.Join
import Derived.Lib.ItoaNum
import Derived.Lib.ItoaLen
import Derived.KernelRfl
namespace Go.Proofs.YtcphhcnomaociabDoor

theorem joinTail_snoc (sep x : List UInt8) (r : List (List UInt8)) : Go.Lib.joinTail sep (r ++ [x]) = Go.Lib.joinTail sep r ++ (sep ++ x) := by
  simp [Go.Lib.joinTail]
theorem join_snoc (sep x : List UInt8) (xs : List (List UInt8)) (h : xs ≠ []) : Go.Lib.join (xs ++ [x]) sep = Go.Lib.join xs sep ++ sep ++ x := by
  cases xs with
  | nil => exact absurd rfl h
  | cons y r => rw [List.cons_append, Go.Lib.join_cons, Go.Lib.join_cons, joinTail_snoc]; simp
/-- The first k texts joined. -/
def acc (L : List (List UInt8)) (sep : List UInt8) (k : Nat) : List UInt8 := Go.Lib.join (L.take k) sep
theorem acc_zero (L : List (List UInt8)) (sep : List UInt8) : acc L sep 0 = [] := by simp [acc, Go.Lib.join_nil]
theorem take_succ_of {L : List (List UInt8)} {k : Nat} (h : k < L.length) : L.take (k + 1) = L.take k ++ [L.getD k []] := by
  rw [List.take_succ_eq_append_getElem h]; simp [h]
theorem acc_one {L : List (List UInt8)} (sep : List UInt8) (h : 0 < L.length) : acc L sep 1 = L.getD 0 [] := by
  unfold acc; rw [take_succ_of h]; simp [Go.Lib.join_one]
theorem acc_succ {L : List (List UInt8)} (sep : List UInt8) {k : Nat} (h0 : 0 < k) (h : k < L.length) : acc L sep (k + 1) = acc L sep k ++ sep ++ L.getD k [] := by
  unfold acc
  rw [take_succ_of h, join_snoc]
  intro e
  have := congrArg List.length e
  rw [List.length_take, List.length_nil] at this
  omega
theorem acc_all {L : List (List UInt8)} (sep : List UInt8) : acc L sep L.length = Go.Lib.join L sep := by simp [acc]
theorem acc_len {L : List (List UInt8)} {sep : List UInt8} {m : Nat} (hs : sep.length ≤ 1) (hm : ∀ l ∈ L, l.length ≤ m) : ∀ k, k ≤ L.length → (acc L sep k).length ≤ k * (m + 1) := by
  intro k
  induction k with
  | zero => intro _; simp [acc_zero]
  | succ k ih =>
    intro hk
    have hx : (L.getD k []).length ≤ m := by
      have : L.getD k [] ∈ L := by simp [show k < L.length by omega]
      exact hm _ this
    by_cases h0 : k = 0
    · subst h0; rw [acc_one sep (by omega)]; omega
    · have := ih (by omega)
      rw [acc_succ sep (by omega) (by omega)]
      simp only [List.length_append]
      rw [Nat.succ_mul]
      omega
theorem itoa_len (z : Int) (h0 : -1000000000000000000 ≤ z) (h1 : z ≤ 1000000000000000000) : (Go.Lib.itoa z).length ≤ 21 := by
  unfold Go.Lib.itoa
  split
  · simp only [List.length_cons]; rw [Go.Lib.decDigits_length]; have := Go.Lib.nDigits_le20 z.natAbs (by omega); omega
  · rw [Go.Lib.decDigits_length]; have := Go.Lib.nDigits_le20 z.toNat (by omega); omega
end Go.Proofs.YtcphhcnomaociabDoor
