/- What the law on usable gears holds, in numbers; the numbers of places. No program. -/
import Derived.Test.YthedanpldebjcaaMgWays5
namespace Go.Proofs.Ythedanpldebjcaa
set_option linter.unusedSimpArgs false
set_option linter.unusedVariables false

theorem usable_mem {x : Trn} {lm : Int} {g : Gr} : g ∈ usableI x lm ↔ g ∈ ordI x ∧ crossB x lm (plG g) = false := by
  unfold usableI
  rw [List.mem_filter]
  simp
theorem usable_few (x : Trn) (lm : Int) : (usableI x lm).length ≤ (ordI x).length := List.length_filter_le _ _
theorem okG_usable {x : Trn} {lm : Int} {p : Pl} (h : okG x lm p = true) : p ∈ (usableI x lm).map plG := by
  obtain ⟨⟨h1, h2⟩, h3, h4⟩ := okG_gear h
  have e : plG (p.1.toNat, p.2.toNat) = p := by
    unfold plG
    obtain ⟨f, r⟩ := p
    simp only [Prod.mk.injEq]
    exact ⟨Int.toNat_of_nonneg h1, Int.toNat_of_nonneg h3⟩
  refine List.mem_map.2 ⟨(p.1.toNat, p.2.toNat), usable_mem.2 ⟨ordI_mem ⟨by show p.1.toNat < _; omega, by show p.2.toNat < _; omega⟩, ?_⟩, e⟩
  rw [e]
  unfold okG at h
  simp only [Bool.and_eq_true, Bool.not_eq_true'] at h
  exact h.2
theorem start11_ok {x : Trn} {lm f r : Int} (h : start11 x lm f r = 0) : trainB x = true ∧ okG x lm (f, r) = true := by
  unfold start11 at h
  by_cases h1 : code11 x lm f r = 0
  · rw [if_pos h1] at h
    by_cases h2 : crossB x lm (f, r) = true
    · rw [if_pos h2] at h; exact absurd h (by decide)
    · obtain ⟨ht, hg, -⟩ := code11_ok h1
      exact ⟨ht, okG_of hg (by simpa using h2)⟩
  · rw [if_neg h1] at h; exact absurd h h1
/-- No more gears are reached than are usable. -/
theorem reach_law {x : Trn} {lm f r n : Int} (h : reachR x lm f r = (n, 0)) : 1 ≤ n ∧ n ≤ ((usableI x lm).length : Int) := by
  unfold reachR at h
  by_cases h1 : start11 x lm f r = 0
  · rw [if_pos h1] at h
    obtain ⟨ht, hok⟩ := start11_ok h1
    have hb := bfEnd_ok (trainB_ok ht) hok
    have hn := nodup_len _ ((usableI x lm).map plG) hb.nd fun p hp => okG_usable (hb.ok p hp)
    rw [List.length_map] at hn
    have e := (Prod.mk.inj h).1
    have := hb.pos
    omega
  · rw [if_neg h1] at h; exact absurd (Prod.mk.inj h).2 h1
/-- Whether two numbers are the indices of a gear in a list. -/
def hasG (L : List Gr) (f r : Int) : Bool := (L.map plG).contains (f, r)
/-- Usable gears are those that are not crossed. -/
theorem cross_law {x : Trn} {lm f r : Int} {c : Bool} (h : crossR x lm f r = (c, 0)) : hasG (usableI x lm) f r = !c := by
  unfold crossR at h
  by_cases h1 : code11 x lm f r = 0
  · rw [if_pos h1] at h
    have e := (Prod.mk.inj h).1
    obtain ⟨ht, hg, hl⟩ := code11_ok h1
    unfold hasG
    cases c with
    | false =>
      have := okG_usable (okG_of hg e)
      simpa using this
    | true =>
      rw [List.contains_eq_mem, Bool.not_true, decide_eq_false_iff_not]
      intro hm
      obtain ⟨g, h2, h3⟩ := List.mem_map.1 hm
      have := (usable_mem.1 h2).2
      rw [h3, e] at this
      exact absurd this (by decide)
  · rw [if_neg h1] at h; exact absurd (Prod.mk.inj h).2 h1
theorem absI_bd {a b : Nat} (h1 : a ≤ 2) (h2 : b ≤ 2) : 0 ≤ absI ((a : Int) - (b : Int)) ∧ absI ((a : Int) - (b : Int)) ≤ 2 := by unfold absI; omega
theorem ringTo_bd {L : List Gr} (h : ∀ k, k < L.length → (L.getD k (0, 0)).1 ≤ 2) : ∀ k, k < L.length → 0 ≤ ringTo L k ∧ ringTo L k ≤ 2 * (k : Int)
  | 0, _ => by unfold ringTo; omega
  | k + 1, hk => by
    have h1 := ringTo_bd h k (by omega)
    have h2 := absI_bd (h (k + 1) hk) (h k (by omega))
    unfold ringTo
    omega
theorem usable_at {x : Trn} (hx : Train x) (lm : Int) {k : Nat} (hk : k < (usableI x lm).length) : GOk x ((usableI x lm).getD k (0, 0)) ∧ ((usableI x lm).getD k (0, 0)).1 ≤ 2 := by
  have hm : (usableI x lm).getD k (0, 0) ∈ usableI x lm := by
    rw [List.getD_eq_getElem?_getD, List.getElem?_eq_getElem hk]
    exact List.getElem_mem hk
  have hg := ordI_ok (usable_mem.1 hm).1
  have h3 := hx.f.few
  exact ⟨hg, by have := hg.1; omega⟩
theorem ring_law {x : Trn} {lm s : Int} (h : ringR x lm = (s, 0)) : 0 ≤ s ∧ s ≤ 2 * ((usableI x lm).length : Int) := by
  unfold ringR at h
  by_cases h1 : code11 x lm 0 0 = 0
  · rw [if_pos h1] at h
    have e := (Prod.mk.inj h).1
    obtain ⟨ht, -, -⟩ := code11_ok h1
    by_cases h0 : (usableI x lm).length = 0
    · rw [h0] at e
      have : s = 0 := e.symm
      omega
    · have := ringTo_bd (fun k hk => (usable_at (trainB_ok ht) lm hk).2) ((usableI x lm).length - 1) (by omega)
      omega
  · rw [if_neg h1] at h; exact absurd (Prod.mk.inj h).2 h1
/-- A place and its number. -/
theorem num_inj {x : Trn} (hx : Train x) {lm : Int} {p q : Pl} (hp : okG x lm p = true) (hq : okG x lm q = true) (h : numG p = numG q) : p = q := by
  have h1 := okG_gear hp
  have h2 := okG_gear hq
  have h3 := hx.r.few
  unfold numG at h
  obtain ⟨a, b⟩ := p
  obtain ⟨c, d⟩ := q
  simp only at *
  simp only [Prod.mk.injEq]
  omega
theorem num_parts {x : Trn} (hx : Train x) {lm : Int} {p : Pl} (hp : okG x lm p = true) : 0 ≤ numG p ∧ numG p ≤ 35 ∧ numG p / 12 = p.1 ∧ numG p % 12 = p.2 := by
  have h1 := okG_gear hp
  have h3 := hx.r.few
  have h4 := hx.f.few
  unfold numG
  obtain ⟨a, b⟩ := p
  simp only at *
  omega
end Go.Proofs.Ythedanpldebjcaa
