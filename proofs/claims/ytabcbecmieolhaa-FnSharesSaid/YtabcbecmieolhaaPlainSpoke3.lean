/- Shares and crosses that are told: facts for the laws. No program. -/
import Derived.Test.YtabcbecmieolhaaPlainSpoke2
namespace Go.Proofs.Ytabcbecmieolhaa

theorem shr_ok {x : Wh} {s : Int} (h : shrA x = (s, 0)) : wheelB x = true ∧ ∃ o, shrA (mirrW x) = (o, 0) ∧ 0 ≤ s ∧ ¬ (1000 < s ∧ 1000 < o) := by
  unfold shrA at h
  split at h
  · rename_i hb
    split at h
    · exact absurd (congrArg Prod.snd h) (by simp)
    · rename_i ho
      refine ⟨hb, shareI (mirrW x), ?_, ?_⟩
      · unfold shrA
        have e1 := offI_mirr x false
        have e2 := offI_mirr x true
        rw [show (!false) = true from rfl] at e1
        rw [show (!true) = false from rfl] at e2
        rw [if_pos (by rw [wheelB_mirr]; exact hb), e1, e2, if_neg (by omega)]
      · have hs : s = shareI x := (congrArg Prod.fst h).symm
        have l1 := spLen_bd (r := false) hb
        have l2 := spLen_bd (r := true) hb
        have o1 := offI_bd (r := false) hb
        have o2 := offI_bd (r := true) hb
        have m1 := pos_mul (a := offI x true) (b := spLen x false) (p := 600) (q := 4132) (by omega) (by omega) (by omega) (by omega)
        have m2 := pos_mul (a := offI x false) (b := spLen x true) (p := 600) (q := 4132) (by omega) (by omega) (by omega) (by omega)
        rw [hs, shareI_mirr]
        unfold shareI
        rw [Int.mul_assoc 1000, Int.mul_assoc 1000]
        exact nearQ_both m1.1 m2.1
  · exact absurd (congrArg Prod.snd h) (by simp)
theorem lenA_setC {w : Wh} {r : Bool} {k : Int} (h : wheelB w = true) (h0 : 0 ≤ k) (h1 : k < w.h.n / 4) : lenA (setC w k) r = (spLen (setC w k) r, 0) := by
  unfold lenA
  rw [if_pos (wheelB_setC h h0 h1)]
theorem len_setC_bd {w : Wh} {r : Bool} {k : Int} (h : wheelB w = true) (h0 : 0 ≤ k) (h1 : k < w.h.n / 4) : 388 ≤ spLen (setC w k) r ∧ spLen (setC w k) r ≤ 4132 := spLen_bd (wheelB_setC h h0 h1)
theorem crs_ok {w : Wh} {r : Bool} {m c : Int} (h : crsA w r m = (c, 0)) : wheelB w = true ∧ (0 ≤ m ∧ m ≤ 5000) ∧ (0 ≤ c ∧ c < w.h.n / 4) ∧
    ∀ k : Int, 0 ≤ k → k < w.h.n / 4 → ¬ max (spLen (setC w k) r - m) (m - spLen (setC w k) r) < max (spLen (setC w c) r - m) (m - spLen (setC w c) r) := by
  unfold crsA at h
  split at h
  · rename_i hb
    obtain ⟨⟨n0, n1, n2⟩, -⟩ := wheel_bd hb
    split at h
    · rename_i hm
      have hc : (bestTo w r m (w.h.n / 4).toNat).1 = c := congrArg Prod.fst h
      obtain ⟨k, hk⟩ : ∃ k : Nat, (w.h.n / 4).toNat = k + 1 := ⟨(w.h.n / 4).toNat - 1, by omega⟩
      rw [hk] at hc
      obtain ⟨h1, h2, h3, h4⟩ := bestTo_spec w r m k
      rw [hc] at h1 h2 h3
      refine ⟨hb, inB_iff.1 hm, ⟨h2, by omega⟩, fun j j0 j1 => ?_⟩
      have := h4 j.toNat (by omega)
      rw [h1] at this
      unfold awayI at this
      rw [show ((j.toNat : Nat) : Int) = j by omega] at this
      omega
    · exact absurd (congrArg Prod.snd h) (by simp)
  · exact absurd (congrArg Prod.snd h) (by simp)
theorem crs_code {w : Wh} {r : Bool} {m c e : Int} (h : crsA w r m = (c, e)) (he : e ≠ 0) : True := trivial
/-- The counts of a wheel: they make its holes, and one of them is of each side's length. -/
theorem counts_sum {w : Wh} (h : wheelB w = true) : (countsL w = [[spLen w false, w.h.n]] ∧ spLen w false = spLen w true) ∨ ∃ a b : Int, countsL w = [[a, w.h.n / 2], [b, w.h.n / 2]] ∧ w.h.n / 2 + w.h.n / 2 = w.h.n ∧ (∀ r, a = spLen w r ∨ b = spLen w r) := by
  obtain ⟨⟨n0, n1, n2⟩, -⟩ := wheel_bd h
  unfold countsL
  by_cases e : spLen w false = spLen w true
  · rw [if_pos e, show 2 * (w.h.n / 2) = w.h.n by omega]
    exact .inl ⟨rfl, e⟩
  · rw [if_neg e]
    refine .inr ⟨_, _, rfl, by omega, fun r => ?_⟩
    cases r <;> omega
end Go.Proofs.Ytabcbecmieolhaa
