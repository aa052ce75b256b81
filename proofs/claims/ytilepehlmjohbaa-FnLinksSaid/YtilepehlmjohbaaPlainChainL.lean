/- What FnLinks says, in numbers. No program. -/
import Derived.Test.YtilepehlmjohbaaPlainChain
namespace Go.Proofs.Ytilepehlmjohbaa
set_option linter.unusedSimpArgs false
set_option linter.unusedVariables false

theorem lnTo_ok {need : Int} : ∀ {m : Nat} {l r : Int}, lnTo need l m = (r, 0) → l ≤ r ∧ r ≤ l + 2 * m ∧ (r - l) % 2 = 0 ∧ need ≤ 1000 * r ∧ (r = l ∨ 1000 * (r - 2) < need)
  | 0, l, r, h => by
    have : (4 : Int) = 0 := (Prod.mk.inj h).2
    omega
  | m + 1, l, r, h => by
    unfold lnTo at h
    split at h
    · have := (Prod.mk.inj h).1
      omega
    · have := lnTo_ok h
      omega
theorem styTo_ok {links f r : Int} : ∀ {m : Nat} {s t : Int}, styTo links f r s m = (t, 0) → t ≤ s ∧ s < t + m ∧ needI t f r ≤ 1000 * links ∧ (t = s ∨ 1000 * links < needI (t + 1) f r)
  | 0, s, t, h => by
    have : (4 : Int) = 0 := (Prod.mk.inj h).2
    omega
  | m + 1, s, t, h => by
    unfold styTo at h
    split at h
    · have := (Prod.mk.inj h).1
      subst this
      exact ⟨Int.le_refl _, by omega, by assumption, .inl rfl⟩
    · obtain ⟨h1, h2, h3, h4⟩ := styTo_ok h
      refine ⟨by omega, by omega, h3, .inr ?_⟩
      rcases h4 with e | e
      · rw [show t + 1 = s by omega]
        omega
      · exact e
theorem links_law {s f r l : Int} (h : linksR s f r = (l, 0)) : ∃ n, needR s f r = (n, 0) ∧ (40 ≤ l ∧ l ≤ 202) ∧ l % 2 = 0 ∧ n ≤ 1000 * l ∧ (l = 40 ∨ 1000 * (l - 2) < n) := by
  unfold linksR at h
  by_cases hb : (stayB s && ringsB f r) = true
  · rw [if_pos hb] at h
    obtain ⟨h1, h2, h3, h4, h5⟩ := lnTo_ok h
    exact ⟨_, by unfold needR; rw [if_pos hb], by omega, by omega, h4, h5⟩
  · rw [if_neg hb] at h
    have : (2 : Int) = 0 := (Prod.mk.inj h).2
    omega
theorem stay_law {a f r s : Int} (h : stayR a f r = (s, 0)) : (40 ≤ a ∧ a ≤ 200) ∧ (3000 ≤ s ∧ s ≤ 6000) ∧ (∃ n, needR s f r = (n, 0) ∧ n ≤ 1000 * a) ∧ (s < 6000 → ∃ n, needR (s + 1) f r = (n, 0) ∧ 1000 * a < n) := by
  unfold stayR at h
  by_cases hb : (linksB a && ringsB f r) = true
  · rw [if_pos hb] at h
    rw [Bool.and_eq_true] at hb
    obtain ⟨ha, hr⟩ := hb
    unfold linksB at ha
    rw [Bool.and_eq_true, inB_iff] at ha
    obtain ⟨h1, h2, h3, h4⟩ := styTo_ok h
    have hs : stayB s = true := inB_iff.2 ⟨by omega, by omega⟩
    refine ⟨ha.1, by omega, ⟨_, by unfold needR; rw [hs, hr]; rfl, h3⟩, fun hlt => ?_⟩
    have hs1 : stayB (s + 1) = true := inB_iff.2 ⟨by omega, by omega⟩
    rcases h4 with e | e
    · omega
    · exact ⟨_, by unfold needR; rw [hs1, hr]; rfl, e⟩
  · rw [if_neg hb] at h
    have : (2 : Int) = 0 := (Prod.mk.inj h).2
    omega
theorem cut_law {x y c : Int} (h : cutR x y = (c, 0)) : y + c = x ∧ 40 ≤ x ∧ x ≤ 200 ∧ 40 ≤ y ∧ y ≤ 200 := by
  unfold cutR at h
  by_cases hb : (linksB x && linksB y) = true
  · rw [if_pos hb] at h
    rw [Bool.and_eq_true] at hb
    obtain ⟨h1, h2⟩ := hb
    unfold linksB at h1 h2
    rw [Bool.and_eq_true, inB_iff] at h1 h2
    split at h
    · have : (5 : Int) = 0 := (Prod.mk.inj h).2
      omega
    · have := (Prod.mk.inj h).1
      omega
  · rw [if_neg hb] at h
    have : (2 : Int) = 0 := (Prod.mk.inj h).2
    omega
end Go.Proofs.Ytilepehlmjohbaa
