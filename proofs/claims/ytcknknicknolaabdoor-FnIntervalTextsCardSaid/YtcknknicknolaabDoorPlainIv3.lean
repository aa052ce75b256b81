/- The texts of intervals, read back. No program. -/
import Derived.Test.YtcknknicknolaabDoorReadList
import Derived.Test.YtcknknicknolaabDoorPlainDot
import Derived.Test.YtcknknicknolaabDoorIvText
namespace Go.Proofs.YtcknknicknolaabDoor

theorem index_split {sub : List UInt8} : ∀ l : List UInt8, 0 ≤ Go.Lib.index l sub → l = l.take (Go.Lib.index l sub).toNat ++ (sub ++ l.drop ((Go.Lib.index l sub).toNat + sub.length)) := by
  intro l
  induction l with
  | nil =>
    intro h
    unfold Go.Lib.index at h ⊢
    cases sub with
    | nil => simp
    | cons c r => simp at h
  | cons x r ih =>
    intro h
    unfold Go.Lib.index at h ⊢
    cases hp : sub.isPrefixOf (x :: r)
    · rw [hp] at h
      simp only [Bool.false_eq_true, if_false] at h ⊢
      by_cases h1 : (Go.Lib.index r sub == -1) = true
      · rw [if_pos h1] at h; omega
      · rw [if_neg h1] at h ⊢
        have hr : 0 ≤ Go.Lib.index r sub := by
          have : ¬ Go.Lib.index r sub = -1 := by simpa using h1
          omega
        have := ih hr
        generalize Go.Lib.index r sub = i at this hr
        obtain ⟨k, rfl⟩ : ∃ k : Nat, i = k := ⟨i.toNat, by omega⟩
        rw [show ((k : Int) + 1).toNat = k + 1 by omega, show k + 1 + sub.length = (k + sub.length) + 1 by omega, List.take_succ_cons, List.drop_succ_cons, List.cons_append]
        congr 1
    · simp only [if_true]
      obtain ⟨t, ht⟩ := List.isPrefixOf_iff_prefix.1 hp
      rw [← ht]
      simp
theorem index_none2 {c : UInt8} {r : List UInt8} : ∀ {l : List UInt8}, c ∉ l → Go.Lib.index l (c :: r) = -1 := by
  intro l
  induction l with
  | nil => intro _; rfl
  | cons x t ih =>
    intro h
    have hx : ¬ c = x := fun e => h (by simp [e])
    have ht : c ∉ t := fun e => h (by simp [e])
    unfold Go.Lib.index
    have : ((c :: r).isPrefixOf (x :: t)) = false := by simp [List.isPrefixOf, hx]
    rw [this, ih ht]
    rfl
theorem index_at2 {c : UInt8} {r b : List UInt8} : ∀ {a : List UInt8}, c ∉ a → Go.Lib.index (a ++ ((c :: r) ++ b)) (c :: r) = a.length := by
  intro a
  induction a with
  | nil => intro _; simp [Go.Lib.index]
  | cons x t ih =>
    intro h
    have hx : ¬ c = x := fun e => h (by simp [e])
    have ht : c ∉ t := fun e => h (by simp [e])
    rw [List.cons_append]
    unfold Go.Lib.index
    have : ((c :: r).isPrefixOf (x :: (t ++ ((c :: r) ++ b)))) = false := by simp [List.isPrefixOf, hx]
    rw [this, ih ht]
    have hne : ¬ ((t.length : Int) == -1) = true := by simp
    simp only [Bool.false_eq_true, if_false]
    rw [if_neg hne]
    simp
theorem dot_itoa (z : Int) : (46 : UInt8) ∉ Go.Lib.itoa z := by
  unfold Go.Lib.itoa
  split
  · intro h
    rcases List.mem_cons.1 h with e | e
    · cases e
    · exact decDigits_not (by decide) e
  · exact decDigits_not (by decide)

def cutI (l : List UInt8) : List UInt8 × List UInt8 × Bool := Go.Lib.cut l [46, 46]
theorem cutI_no {l : List UInt8} (h : (cutI l).2.2 = false) : (cutI l).1 = l ∧ (cutI l).2.1 = [] := by
  unfold cutI Go.Lib.cut at h ⊢
  by_cases hi : 0 ≤ Go.Lib.index l [46, 46]
  · rw [if_pos hi] at h; cases h
  · rw [if_neg hi]; exact ⟨rfl, rfl⟩
theorem cutI_yes {l : List UInt8} (h : (cutI l).2.2 = true) : l = (cutI l).1 ++ 46 :: 46 :: (cutI l).2.1 := by
  unfold cutI Go.Lib.cut at h ⊢
  by_cases hi : 0 ≤ Go.Lib.index l [46, 46]
  · rw [if_pos hi]
    exact index_split l hi
  · rw [if_neg hi] at h; cases h
theorem cutI_one (a : Int) : cutI (Go.Lib.itoa a) = (Go.Lib.itoa a, [], false) := by
  unfold cutI Go.Lib.cut
  rw [index_none2 (dot_itoa a), if_neg (by omega)]
theorem cutI_two (a b : Int) : cutI (Go.Lib.itoa a ++ 46 :: 46 :: Go.Lib.itoa b) = (Go.Lib.itoa a, Go.Lib.itoa b, true) := by
  have hi := index_at2 (c := 46) (r := [46]) (b := Go.Lib.itoa b) (dot_itoa a)
  unfold cutI Go.Lib.cut
  rw [show Go.Lib.itoa a ++ 46 :: 46 :: Go.Lib.itoa b = Go.Lib.itoa a ++ ([46, 46] ++ Go.Lib.itoa b) by simp] at *
  rw [hi, if_pos (by omega)]
  simp

/-- The interval that a text tells. -/
def readsI (l : List UInt8) : Option (Int × Int) :=
  match numB (cutI l).1, numB (if (cutI l).2.2 then (cutI l).2.1 else (cutI l).1) with
  | some a, some b => if vldB a b && !((cutI l).2.2 && (a == b)) then some (a, b) else none
  | _, _ => none
theorem readsI_of {a b : Int} {l : List UInt8} (hv : vldB a b = true) (h : ivL a b = l) : readsI l = some (a, b) := by
  obtain ⟨h1, h2, h3⟩ := vldB_of hv
  subst h
  by_cases hab : a = b
  · subst hab
    rw [ivL_one]
    unfold readsI
    rw [cutI_one]
    simp [numB_itoa (z := a) (by omega) (by omega), hv]
  · rw [ivL_two hab]
    unfold readsI
    rw [cutI_two]
    simp [numB_itoa (z := a) (by omega) (by omega), numB_itoa (z := b) (by omega) (by omega), hv, hab]
theorem readsI_spec {a b : Int} {l : List UInt8} (h : readsI l = some (a, b)) : vldB a b = true ∧ ivL a b = l := by
  unfold readsI at h
  cases h1 : numB (cutI l).1 with
  | none => rw [h1] at h; cases h
  | some x =>
    cases h2 : numB (if (cutI l).2.2 then (cutI l).2.1 else (cutI l).1) with
    | none => rw [h1, h2] at h; cases h
    | some y =>
      rw [h1, h2] at h
      simp only at h
      split at h
      · rename_i hc
        injection h with h
        injection h with ha hb
        subst ha hb
        rw [Bool.and_eq_true] at hc
        obtain ⟨hv, hn⟩ := hc
        refine ⟨hv, ?_⟩
        have e1 := numB_spec h1
        have e2 := numB_spec h2
        cases ht : (cutI l).2.2
        · rw [ht] at e2
          simp only [Bool.false_eq_true, if_false] at e2
          have := (cutI_no ht).1
          have hxy : x = y := by
            rw [ht] at h2
            simp only [Bool.false_eq_true, if_false] at h2
            rw [h1] at h2
            injection h2
          subst hxy
          rw [ivL_one, e1, this]
        · rw [ht] at e2 hn
          simp only [if_true] at e2
          have hne : ¬ x = y := by simpa using hn
          rw [ivL_two hne, e1, e2]
          exact (cutI_yes ht).symm
      · cases h
/-- The pieces of a text of an interval. -/
theorem pieces_one (a : Int) : Dot.splitC (Go.Lib.itoa a) = [Go.Lib.itoa a] := Dot.splitC_none (dot_itoa a)
theorem pieces_two (a b : Int) : Dot.splitC (Go.Lib.itoa a ++ 46 :: 46 :: Go.Lib.itoa b) = [Go.Lib.itoa a, [], Go.Lib.itoa b] := by
  rw [Dot.splitC_cut _ (dot_itoa a)]
  have := Dot.splitC_cut (a := []) (Go.Lib.itoa b) (by simp)
  rw [List.nil_append] at this
  rw [this, Dot.splitC_none (dot_itoa b)]
end Go.Proofs.YtcknknicknolaabDoor
