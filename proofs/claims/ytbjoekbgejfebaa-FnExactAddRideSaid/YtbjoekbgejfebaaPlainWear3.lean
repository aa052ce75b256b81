/- Rides in numbers: sums and changes ride by ride. No program. -/
import Derived.Test.YtbjoekbgejfebaaPlainWear2
namespace Go.Proofs.Ytbjoekbgejfebaa
set_option linter.unusedSimpArgs false
set_option linter.unusedVariables false

def sumN (xs : List Rid) (k : Nat) : Int := ((wears xs).take k).sum
theorem wears_get {xs : List Rid} {k : Nat} (hk : k < xs.length) : (wears xs)[k]'(by rw [wears_len]; exact hk) = wearOne (xs.getD k rid0) := by simp [wears, List.getD, hk]
theorem sumN_zero (xs : List Rid) : sumN xs 0 = 0 := by simp [sumN]
theorem sumN_succ {xs : List Rid} {k : Nat} (hk : k < xs.length) : sumN xs (k + 1) = sumN xs k + wearOne (xs.getD k rid0) := by
  unfold sumN
  rw [List.take_succ_eq_append_getElem (by rw [wears_len]; exact hk), wears_get hk]
  simp
theorem sumN_all (xs : List Rid) : sumN xs xs.length = (wears xs).sum := by
  unfold sumN
  rw [List.take_of_length_le (by rw [wears_len]; exact Nat.le_refl _)]
theorem sumN_bd {xs : List Rid} (h : ridesB xs = true) : ∀ k, k ≤ xs.length → 0 ≤ sumN xs k ∧ sumN xs k ≤ 30000 * k
  | 0, _ => by simp [sumN]
  | k + 1, hk => by
    have ih := sumN_bd h k (by omega)
    have := okRide_rng (rides_at h (k := k) (by omega))
    rw [sumN_succ (by omega)]
    omega
theorem chg_snoc (L : Int) : ∀ (ys : List Int) (w : Int) (i : Nat) (x : Int), chg L w i (ys ++ [x]) = if L ≤ (chg L w i ys).2 + x then ((chg L w i ys).1 ++ [((i + ys.length : Nat) : Int)], 0) else ((chg L w i ys).1, (chg L w i ys).2 + x)
  | [], w, i, x => by
    simp only [List.nil_append, chg, List.length_nil, Nat.add_zero]
    rfl
  | y :: ys, w, i, x => by
    simp only [List.cons_append, chg, List.length_cons]
    split
    · rw [chg_snoc L ys 0 (i + 1) x]
      split
      · simp [show i + 1 + ys.length = i + (ys.length + 1) by omega]
      · rfl
    · rw [chg_snoc L ys (w + y) (i + 1) x, show i + 1 + ys.length = i + (ys.length + 1) by omega]
def chN (xs : List Rid) (L : Int) (k : Nat) : List Int × Int := chg L 0 0 ((wears xs).take k)
theorem chN_zero (xs : List Rid) (L : Int) : chN xs L 0 = ([], 0) := by simp [chN, chg]
theorem chN_succ {xs : List Rid} {L : Int} {k : Nat} (hk : k < xs.length) : chN xs L (k + 1) = if L ≤ (chN xs L k).2 + wearOne (xs.getD k rid0) then ((chN xs L k).1 ++ [(k : Int)], 0) else ((chN xs L k).1, (chN xs L k).2 + wearOne (xs.getD k rid0)) := by
  unfold chN
  rw [List.take_succ_eq_append_getElem (by rw [wears_len]; exact hk), wears_get hk, chg_snoc]
  have : 0 + (List.take k (wears xs)).length = k := by rw [List.length_take, wears_len]; omega
  rw [this]
theorem chN_all (xs : List Rid) (L : Int) : chN xs L xs.length = chW xs L := by
  unfold chN chW
  rw [List.take_of_length_le (by rw [wears_len]; exact Nat.le_refl _)]
theorem chN_bd {xs : List Rid} (h : ridesB xs = true) (L : Int) : ∀ k, k ≤ xs.length → 0 ≤ (chN xs L k).2 ∧ (chN xs L k).2 ≤ 30000 * k
  | 0, _ => by simp [chN_zero]
  | k + 1, hk => by
    have ih := chN_bd h L k (by omega)
    have := okRide_rng (rides_at h (k := k) (by omega))
    rw [chN_succ (by omega)]
    split
    · simp only; omega
    · simp only; omega
/-- The first k of them are rides, place by place. -/
def okRto (xs : List Rid) (k : Nat) : Prop := ∀ j, j < k → okRide (xs.getD j rid0) = true ∧ (0 < j → (xs.getD (j - 1) rid0).day ≤ (xs.getD j rid0).day)
theorem okRto_done {xs : List Rid} (h : okRto xs xs.length) : ridesB xs = decide (xs.length ≤ 40) := by
  rw [Bool.eq_iff_iff, ridesB_iff, decide_eq_true_eq]
  exact ⟨fun a => a.1, fun a => ⟨a, h⟩⟩
theorem okRto_no {xs : List Rid} {k : Nat} (hk : k < xs.length) (h : ¬ (okRide (xs.getD k rid0) = true ∧ (0 < k → (xs.getD (k - 1) rid0).day ≤ (xs.getD k rid0).day))) : ridesB xs = false := by
  rw [← Bool.not_eq_true, ridesB_iff]
  exact fun a => h (a.2 k hk)
end Go.Proofs.Ytbjoekbgejfebaa
