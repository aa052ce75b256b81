/- A spoke that is chosen, in numbers. No program. -/
import Derived.Test.YtifblmcocikopabPlainSpoke2
namespace Go.Proofs.Ytifblmcocikopab

theorem cho_ok {L : List Int} {m c : Int} (h : choA L m = (c, 0)) : (0 ≤ m ∧ m ≤ 5000) ∧ c ∈ L ∧ c ≤ m + 10 ∧ m - 20 ≤ c ∧ ∀ i, i < L.length → c < L.getD i 0 → ¬ L.getD i 0 ≤ m + 10 := by
  unfold choA at h
  split at h
  · rename_i hs
    split at h
    · rename_i hm
      split at h
      · exact absurd (congrArg Prod.snd h) (by simp)
      · rename_i hc
        have e := congrArg Prod.fst h
        simp only at e
        unfold stockB at hs
        rw [Bool.and_eq_true] at hs
        have hm2 := inB_iff.1 hm
        rcases choTo_spec (m := m) hs.1 with ⟨h1, -⟩ | ⟨h1, h2, ⟨i, hi, h3⟩, h4⟩
        · exact absurd (show choL L m < 0 by unfold choL; omega) hc
        · have e2 : choTo L m L.length = c := e
          rw [e2] at h1 h2 h3 h4
          have h5 := inB_iff.1 h2
          refine ⟨hm2, ?_, h5.2, h5.1, h4⟩
          rw [h3]
          simp [List.getD, hi]
    · exact absurd (congrArg Prod.snd h) (by simp)
  · exact absurd (congrArg Prod.snd h) (by simp)
theorem for_ok {x : Wh} {L : List Int} {a b : Int} (h : forA x L = (a, b, 0)) : lenA x false = (spLen x false, 0) ∧ choA L (spLen x false) = (a, 0) := by
  unfold forA at h
  split at h
  · rename_i hs
    rw [Bool.and_eq_true] at hs
    split at h
    · exact absurd (congrArg (fun p => p.2.2) h) (by simp)
    · rename_i hc
      have e := congrArg Prod.fst h
      simp only at e
      have hb := spLen_bd (r := false) hs.1
      refine ⟨by unfold lenA; rw [hs.1]; rfl, ?_⟩
      unfold choA
      rw [hs.2, if_pos rfl, if_pos (inB_iff.2 ⟨by omega, by omega⟩), if_neg (by omega), e]
  · exact absurd (congrArg (fun p => p.2.2) h) (by simp)
theorem rng_ok {y : Wh} {r : Bool} {t : Int} {p : Int × Int} (h : rngA y r t = (p, 0)) : lenA y r = (spLen y r, 0) ∧ p.1 ≤ spLen y r ∧ spLen y r ≤ p.2 := by
  obtain ⟨h1, h2⟩ := rngA_own h
  exact ⟨by unfold lenA; rw [h1]; rfl, h2⟩
end Go.Proofs.Ytifblmcocikopab
