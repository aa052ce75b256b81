/- Moves and their letters, in numbers. No program. -/
import Derived.Test.YthedanpldebjcaaPlainTen
namespace Go.Proofs.Ythedanpldebjcaa
set_option linter.unusedSimpArgs false
set_option linter.unusedVariables false

def chM (m : Int) : UInt8 := if m = 0 then 100 else if m = 1 then 117 else if m = 2 then 108 else 114
def okM (b : UInt8) : Bool := b == 100 || b == 117 || b == 108 || b == 114
def unD (b : UInt8) : Int := if b = 100 then 0 else if b = 117 then 1 else if b = 108 then 2 else 3
def mText (w : List Int) : List UInt8 := if w.length = 0 then [45] else w.map chM
def mTextR (w : List Int) : List UInt8 × Int := if rngB 0 3 w && decide (w.length ≤ 60) then (mText w, 0) else ([], 2)
def mReadR (l : List UInt8) : List Int × Int := if l = [45] then ([], 0) else if l.all okM && (decide (0 < l.length) && decide (l.length ≤ 60)) then (l.map unD, 0) else ([], 6)
theorem chM_un {m : Int} (h : 0 ≤ m ∧ m ≤ 3) : okM (chM m) = true ∧ unD (chM m) = m := by
  have : m = 0 ∨ m = 1 ∨ m = 2 ∨ m = 3 := by omega
  rcases this with rfl | rfl | rfl | rfl <;> exact ⟨by decide, by decide⟩
theorem unD_ch {b : UInt8} (h : okM b = true) : chM (unD b) = b ∧ (0 ≤ unD b ∧ unD b ≤ 3) := by
  unfold okM at h
  simp only [Bool.or_eq_true, beq_iff_eq] at h
  rcases h with ((rfl | rfl) | rfl) | rfl <;> exact ⟨by decide, by decide, by decide⟩
theorem chM_ne (m : Int) : chM m ≠ 45 := by
  unfold chM
  split
  · decide
  · split
    · decide
    · split <;> decide
theorem map_un {w : List Int} (h : ∀ z ∈ w, 0 ≤ z ∧ z ≤ 3) : (w.map chM).all okM = true ∧ (w.map chM).map unD = w := by
  refine ⟨List.all_eq_true.2 fun b hb => ?_, ?_⟩
  · obtain ⟨m, hm, rfl⟩ := List.mem_map.1 hb
    exact (chM_un (h m hm)).1
  · rw [List.map_map]
    refine (List.map_congr_left fun m hm => (chM_un (h m hm)).2).trans ?_
    simp
theorem map_ch {l : List UInt8} (h : l.all okM = true) : (l.map unD).map chM = l ∧ ∀ z ∈ l.map unD, 0 ≤ z ∧ z ≤ 3 := by
  have h2 := List.all_eq_true.1 h
  refine ⟨?_, fun z hz => ?_⟩
  · rw [List.map_map]
    refine (List.map_congr_left fun b hb => (unD_ch (h2 b hb)).1).trans ?_
    simp
  · obtain ⟨b, hb, rfl⟩ := List.mem_map.1 hz
    exact (unD_ch (h2 b hb)).2
/-- Moves are recovered from their text. -/
theorem mText_back {w : List Int} {t : List UInt8} (h : mTextR w = (t, 0)) : mReadR t = (w, 0) := by
  unfold mTextR at h
  split at h
  · rename_i hc
    rw [Bool.and_eq_true, decide_eq_true_eq] at hc
    have hr := rngB_iff.1 hc.1
    have e := (Prod.mk.inj h).1
    subst e
    unfold mText
    by_cases h0 : w.length = 0
    · rw [if_pos h0]
      have : w = [] := List.length_eq_zero_iff.1 h0
      subst this
      rfl
    · rw [if_neg h0]
      unfold mReadR
      obtain ⟨h1, h2⟩ := map_un hr
      have hne : ¬ w.map chM = [45] := fun e => by
        cases w with
        | nil => exact absurd rfl h0
        | cons m r => exact chM_ne m (List.cons.inj e).1
      rw [if_neg hne, h1, if_pos (by simp only [List.length_map, Bool.true_and, Bool.and_eq_true, decide_eq_true_eq]; omega), h2]
  · exact absurd (Prod.mk.inj h).2 (by decide)
theorem mRead_back {w : List Int} {t : List UInt8} (h : mReadR t = (w, 0)) : mTextR w = (t, 0) := by
  unfold mReadR at h
  by_cases h0 : t = [45]
  · rw [if_pos h0] at h
    have e := (Prod.mk.inj h).1
    subst e
    subst h0
    rfl
  · rw [if_neg h0] at h
    split at h
    · rename_i hc
      simp only [Bool.and_eq_true, decide_eq_true_eq] at hc
      have e := (Prod.mk.inj h).1
      subst e
      obtain ⟨h1, h2⟩ := map_ch hc.1
      unfold mTextR
      rw [if_pos (by rw [rngB_iff.2 h2]; simp only [List.length_map, Bool.true_and, decide_eq_true_eq]; exact hc.2.2)]
      unfold mText
      rw [if_neg (by rw [List.length_map]; omega), h1]
    · exact absurd (Prod.mk.inj h).2 (by decide)
theorem mReadR_few (l : List UInt8) : (mReadR l).1.length ≤ 60 := by
  unfold mReadR
  split
  · simp
  · split
    · rename_i h
      simp only [Bool.and_eq_true, decide_eq_true_eq] at h
      rw [List.length_map]
      exact h.2.2
    · simp
end Go.Proofs.Ythedanpldebjcaa
