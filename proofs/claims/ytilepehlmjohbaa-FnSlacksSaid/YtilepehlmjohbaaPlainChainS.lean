/- What FnSlacks says, in numbers. No program. -/
import Derived.Test.YtilepehlmjohbaaMgSlacks3
import Derived.Test.YtilepehlmjohbaaMgSlacks1
namespace Go.Proofs.Ytilepehlmjohbaa
set_option linter.unusedSimpArgs false
set_option linter.unusedVariables false

theorem linksB_iff {n : Int} : linksB n = true ↔ 40 ≤ n ∧ n ≤ 200 ∧ n % 2 = 0 := by
  unfold linksB
  rw [Bool.and_eq_true, inB_iff, decide_eq_true_eq]
  exact ⟨fun h => ⟨h.1.1, h.1.2, h.2⟩, fun h => ⟨⟨h.1, h.2.1⟩, h.2.2⟩⟩
theorem slacksR_ok {x : Trn} {s l : Int} {ss : List Int} (h : slacksR x s l = (ss, 0)) : trainB x = true ∧ stayB s = true ∧ linksB l = true ∧ ss = slacksOf x s l (ordI x) := by
  unfold slacksR at h
  by_cases ht : trainB x = true
  · rw [if_pos ht] at h
    by_cases hs : (stayB s && linksB l) = true
    · rw [if_pos hs] at h
      rw [Bool.and_eq_true] at hs
      exact ⟨ht, hs.1, hs.2, (Prod.mk.inj h).1.symm⟩
    · rw [if_neg hs] at h
      have : (2 : Int) = 0 := (Prod.mk.inj h).2
      omega
  · rw [if_neg ht] at h
    have : (1 : Int) = 0 := (Prod.mk.inj h).2
    omega
theorem slacksR_at {x : Trn} {s l : Int} (ht : trainB x = true) (hs : stayB s = true) (hl : linksB l = true) : slacksR x s l = (slacksOf x s l (ordI x), 0) := by
  unfold slacksR
  rw [if_pos ht, if_pos (by rw [hs, hl]; rfl)]
theorem slacks_few {x : Trn} {s l : Int} {ss : List Int} {p : Int} (h : slacksR x s l = (ss, p)) : ss.length ≤ 36 := by
  have e : ss = (slacksR x s l).1 := by rw [h]
  rw [e]
  unfold slacksR
  split
  · have := ordI_few (trainB_ok (by assumption))
    split
    · show (slacksOf ..).length ≤ _
      rw [slacksOf_len]; omega
    · simp
  · simp
/-- Two links more. -/
theorem more_law {x : Trn} {s l : Int} {ss : List Int} (h : slacksR x s l = (ss, 0)) (hl : l < 200) : (40 ≤ l) ∧ ∃ mo, slacksR x s (l + 2) = (mo, 0) ∧ mo.length = ss.length ∧ ∀ k, k < ss.length → (-1 ≤ ss.getD k 0 ∧ ss.getD k 0 ≤ 200000) ∧ (0 ≤ ss.getD k 0 → mo.getD k 0 = ss.getD k 0 + 2000) := by
  obtain ⟨ht, hs, hlb, rfl⟩ := slacksR_ok h
  obtain ⟨l0, l1, l2⟩ := linksB_iff.1 hlb
  have hs2 := inB_iff.1 hs
  refine ⟨l0, _, slacksR_at ht hs (linksB_iff.2 ⟨by omega, by omega, by omega⟩), by rw [slacksOf_len, slacksOf_len], fun k hk => ?_⟩
  rw [slacksOf_len] at hk
  rw [slacksOf_at hk, slacksOf_at hk]
  refine ⟨slackG_bd (trainB_ok ht) hs2 ⟨l0, by omega⟩ (ordI_ok (mem_getD hk)), fun h0 => ?_⟩
  unfold slackG at *
  omega
/-- The chain for a train. -/
theorem chain_law {y : Trn} {s l : Int} (h : chainR y s = (l, 0)) : ∃ al, slacksR y s l = (al, 0) ∧ orderR y = (rowsG (ordI y), 0) ∧ al.length = (ordI y).length ∧ (ordI y).length ≤ 36 ∧ (y.f.length ≤ 3 ∧ y.r.length ≤ 12) ∧ ∀ k, k < (ordI y).length → (((ordI y).getD k (0, 0)).1 : Int) = (y.f.length : Int) - 1 → (((ordI y).getD k (0, 0)).2 : Int) = (y.r.length : Int) - 1 → ¬ al.getD k 0 < 2000 := by
  unfold chainR at h
  by_cases ht : trainB y = true
  · rw [if_pos ht] at h
    have hx := trainB_ok ht
    by_cases hs : stayB s = true
    · rw [if_pos hs] at h
      unfold plus2 at h
      by_cases h0 : (linksR s (topF y) (topR y)).2 = 0
      · rw [if_pos h0] at h
        by_cases h2 : (linksR s (topF y) (topR y)).1 + 2 ≤ 200
        · rw [if_pos h2] at h
          have hl : (linksR s (topF y) (topR y)).1 + 2 = l := (Prod.mk.inj h).1
          obtain ⟨n, hn, ⟨b0, b1⟩, hev, hle, -⟩ := links_law (s := s) (f := topF y) (r := topR y) (l := l - 2) (Prod.ext (by show _ = l - 2; omega) h0)
          have hnn : needI s (topF y) (topR y) ≤ 1000 * (l - 2) := by
            unfold needR at hn
            split at hn
            · have := (Prod.mk.inj hn).1; omega
            · have : (2 : Int) = 0 := (Prod.mk.inj hn).2
              omega
          refine ⟨_, slacksR_at ht hs (linksB_iff.2 ⟨by omega, by omega, by omega⟩), by unfold orderR; rw [if_pos ht], slacksOf_len .., ordI_few hx, ⟨by have := hx.f.few; omega, by have := hx.r.few; omega⟩, fun k hk e1 e2 => ?_⟩
          rw [slacksOf_at hk]
          have f1 : ((ordI y).getD k (0, 0)).1 = y.f.length - 1 := by omega
          have f2 : ((ordI y).getD k (0, 0)).2 = y.r.length - 1 := by omega
          unfold slackG
          rw [f1, f2]
          show ¬ max (-1) (1000 * l - needI s (topF y) (topR y)) < 2000
          omega
        · rw [if_neg h2] at h
          have : (4 : Int) = 0 := (Prod.mk.inj h).2
          omega
      · rw [if_neg h0] at h
        have : (4 : Int) = 0 := (Prod.mk.inj h).2
        omega
    · rw [if_neg hs] at h
      have : (2 : Int) = 0 := (Prod.mk.inj h).2
      omega
  · rw [if_neg ht] at h
    have : (1 : Int) = 0 := (Prod.mk.inj h).2
    omega
/-- What stands in 'best' behind k rounds. -/
def bestAt (L : List Gr) (g : Gr) (z : Int) (k : Nat) : Int := if g ∈ L.take k then z else -1
theorem bestAt_succ {L : List Gr} {g : Gr} {z : Int} {k : Nat} (h : k < L.length) : bestAt L g z (k + 1) = if L.getD k (0, 0) = g then z else bestAt L g z k := by
  unfold bestAt
  have e : L.take (k + 1) = L.take k ++ [L.getD k (0, 0)] := by
    rw [List.take_add_one]
    simp [List.getD, h]
  rw [e]
  by_cases h1 : L.getD k (0, 0) = g
  · rw [if_pos h1, if_pos (by rw [h1]; simp)]
  · rw [if_neg h1]
    have : (g ∈ L.take k ++ [L.getD k (0, 0)]) ↔ g ∈ L.take k := by
      rw [List.mem_append, List.mem_singleton]
      exact ⟨fun e => e.resolve_right (fun e => h1 e.symm), Or.inl⟩
    by_cases h2 : g ∈ L.take k
    · rw [if_pos h2, if_pos (this.2 h2)]
    · rw [if_neg h2, if_neg (fun e => h2 (this.1 e))]
theorem loose_law {x : Trn} {s l f r : Int} (h : looseR x s l = (f, r, 0)) : ∃ ss L g z, slacksR x s l = (ss, 0) ∧ orderR x = (rowsG L, 0) ∧ ss.length = L.length ∧ L.length ≤ 36 ∧ f = (g.1 : Nat) ∧ r = (g.2 : Nat) ∧ 0 ≤ z ∧ bestAt L g z L.length = z ∧ (∀ k, k < L.length → ¬ z < ss.getD k 0) ∧ (∀ k, k < L.length → L.getD k (0, 0) = g → ss.getD k 0 = z) := by
  unfold looseR at h
  by_cases ht : trainB x = true
  · rw [if_pos ht] at h
    have hx := trainB_ok ht
    have hn := ordI_one hx
    by_cases hs : (stayB s && linksB l) = true
    · rw [if_pos hs] at h
      by_cases hp : posTo (slacksOf x s l (ordI x)) (ordI x).length = true
      · rw [if_pos hp] at h
        rw [Bool.and_eq_true] at hs
        obtain ⟨h1, h2⟩ := Prod.mk.inj h
        obtain ⟨h2, -⟩ := Prod.mk.inj h2
        have hb := bigTo_lt (zs := slacksOf x s l (ordI x)) (k := (ordI x).length) hn
        refine ⟨_, ordI x, (ordI x).getD (bigTo (slacksOf x s l (ordI x)) (ordI x).length) (0, 0), (slacksOf x s l (ordI x)).getD (bigTo (slacksOf x s l (ordI x)) (ordI x).length) 0, slacksR_at ht hs.1 hs.2, by unfold orderR; rw [if_pos ht], slacksOf_len .., ordI_few hx, h1.symm, h2.symm, posTo_at hp hb, ?_, fun k hk => ?_, fun k hk e => ?_⟩
        · unfold bestAt
          rw [List.take_length, if_pos (mem_getD hb)]
        · have := bigTo_big (slacksOf x s l (ordI x)) (ordI x).length k hk
          omega
        · rw [slacksOf_at hk, slacksOf_at hb, e]
      · rw [if_neg hp] at h
        have : (5 : Int) = 0 := (Prod.mk.inj (Prod.mk.inj h).2).2
        omega
    · rw [if_neg hs] at h
      have : (2 : Int) = 0 := (Prod.mk.inj (Prod.mk.inj h).2).2
      omega
  · rw [if_neg ht] at h
    have : (1 : Int) = 0 := (Prod.mk.inj (Prod.mk.inj h).2).2
    omega
end Go.Proofs.Ytilepehlmjohbaa
