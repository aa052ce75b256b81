/- What the law on usable gears holds, in numbers; the numbers of places. No program. -/
import Derived.Test.YthedanpldebjcaaPlainShift3
namespace Go.Proofs.Ythedanpldebjcaa
set_option linter.unusedSimpArgs false
set_option linter.unusedVariables false

theorem usable_mem {x : Trn} {lm : Int} {g : Gr} : g ∈ usableI x lm ↔ g ∈ ordI x ∧ crossB x lm (plG g) = false := by
  unfold usableI
  rw [List.mem_filter]
  simp
theorem usable_few (x : Trn) (lm : Int) : (usableI x lm).length ≤ (ordI x).length := List.length_filter_le _ _
theorem okG_usable {x : Trn} {lm : Int} {p : Pl} (h : okG x lm p = true) : p ∈ (usableI x lm).map plG := by
  obtain ⟨⟨h1, h2⟩, h3, h4⟩ := okG_gear h
  have e : plG (p.1.toNat, p.2.toNat) = p := by
    unfold plG
    obtain ⟨f, r⟩ := p
    simp only [Prod.mk.injEq]
    exact ⟨Int.toNat_of_nonneg h1, Int.toNat_of_nonneg h3⟩
  refine List.mem_map.2 ⟨(p.1.toNat, p.2.toNat), usable_mem.2 ⟨ordI_mem ⟨by show p.1.toNat < _; omega, by show p.2.toNat < _; omega⟩, ?_⟩, e⟩
  rw [e]
  unfold okG at h
  simp only [Bool.and_eq_true, Bool.not_eq_true'] at h
  exact h.2
theorem start11_ok {x : Trn} {lm f r : Int} (h : start11 x lm f r = 0) : trainB x = true ∧ okG x lm (f, r) = true := by
  unfold start11 at h
  by_cases h1 : code11 x lm f r = 0
  · rw [if_pos h1] at h
    by_cases h2 : crossB x lm (f, r) = true
    · rw [if_pos h2] at h; exact absurd h (by decide)
    · obtain ⟨ht, hg, -⟩ := code11_ok h1
      exact ⟨ht, okG_of hg (by simpa using h2)⟩
  · rw [if_neg h1] at h; exact absurd h h1
/-- No more gears are reached than are usable. -/
theorem reach_law {x : Trn} {lm f r n : Int} (h : reachR x lm f r = (n, 0)) : 1 ≤ n ∧ n ≤ ((usableI x lm).length : Int) := by
  unfold reachR at h
  by_cases h1 : start11 x lm f r = 0
  · rw [if_pos h1] at h
    obtain ⟨ht, hok⟩ := start11_ok h1
    have hb := bfEnd_ok (trainB_ok ht) hok
    have hn := nodup_len _ ((usableI x lm).map plG) hb.nd fun p hp => okG_usable (hb.ok p hp)
    rw [List.length_map] at hn
    have e := (Prod.mk.inj h).1
    have := hb.pos
    omega
  · rw [if_neg h1] at h; exact absurd (Prod.mk.inj h).2 h1
/-- Whether two numbers are the indices of a gear in a list. -/
def hasG (L : List Gr) (f r : Int) : Bool := (L.map plG).contains (f, r)
/-- Usable gears are those that are not crossed. -/
theorem cross_law {x : Trn} {lm f r : Int} {c : Bool} (h : crossR x lm f r = (c, 0)) : hasG (usableI x lm) f r = !c := by
  unfold crossR at h
  by_cases h1 : code11 x lm f r = 0
  · rw [if_pos h1] at h
    have e := (Prod.mk.inj h).1
    obtain ⟨ht, hg, hl⟩ := code11_ok h1
    unfold hasG
    cases c with
    | false =>
      have := okG_usable (okG_of hg e)
      simpa using this
    | true =>
      rw [List.contains_eq_mem, Bool.not_true, decide_eq_false_iff_not]
      intro hm
      obtain ⟨g, h2, h3⟩ := List.mem_map.1 hm
      have := (usable_mem.1 h2).2
      rw [h3, e] at this
      exact absurd this (by decide)
  · rw [if_neg h1] at h; exact absurd (Prod.mk.inj h).2 h1
theorem absI_bd {a b : Nat} (h1 : a ≤ 2) (h2 : b ≤ 2) : 0 ≤ absI ((a : Int) - (b : Int)) ∧ absI ((a : Int) - (b : Int)) ≤ 2 := by unfold absI; omega
theorem ringTo_bd {L : List Gr} (h : ∀ k, k < L.length → (L.getD k (0, 0)).1 ≤ 2) : ∀ k, k < L.length → 0 ≤ ringTo L k ∧ ringTo L k ≤ 2 * (k : Int)
  | 0, _ => by unfold ringTo; omega
  | k + 1, hk => by
    have h1 := ringTo_bd h k (by omega)
    have h2 := absI_bd (h (k + 1) hk) (h k (by omega))
    unfold ringTo
    omega
theorem usable_at {x : Trn} (hx : Train x) (lm : Int) {k : Nat} (hk : k < (usableI x lm).length) : GOk x ((usableI x lm).getD k (0, 0)) ∧ ((usableI x lm).getD k (0, 0)).1 ≤ 2 := by
  have hm : (usableI x lm).getD k (0, 0) ∈ usableI x lm := by
    rw [List.getD_eq_getElem?_getD, List.getElem?_eq_getElem hk]
    exact List.getElem_mem hk
  have hg := ordI_ok (usable_mem.1 hm).1
  have h3 := hx.f.few
  exact ⟨hg, by have := hg.1; omega⟩
theorem ring_law {x : Trn} {lm s : Int} (h : ringR x lm = (s, 0)) : 0 ≤ s ∧ s ≤ 2 * ((usableI x lm).length : Int) := by
  unfold ringR at h
  by_cases h1 : code11 x lm 0 0 = 0
  · rw [if_pos h1] at h
    have e := (Prod.mk.inj h).1
    obtain ⟨ht, -, -⟩ := code11_ok h1
    by_cases h0 : (usableI x lm).length = 0
    · rw [h0] at e
      have : s = 0 := e.symm
      omega
    · have := ringTo_bd (fun k hk => (usable_at (trainB_ok ht) lm hk).2) ((usableI x lm).length - 1) (by omega)
      omega
  · rw [if_neg h1] at h; exact absurd (Prod.mk.inj h).2 h1
/-- A place and its number. -/
theorem num_inj {x : Trn} (hx : Train x) {lm : Int} {p q : Pl} (hp : okG x lm p = true) (hq : okG x lm q = true) (h : numG p = numG q) : p = q := by
  have h1 := okG_gear hp
  have h2 := okG_gear hq
  have h3 := hx.r.few
  unfold numG at h
  obtain ⟨a, b⟩ := p
  obtain ⟨c, d⟩ := q
  simp only at *
  simp only [Prod.mk.injEq]
  omega
theorem num_parts {x : Trn} (hx : Train x) {lm : Int} {p : Pl} (hp : okG x lm p = true) : 0 ≤ numG p ∧ numG p ≤ 35 ∧ numG p / 12 = p.1 ∧ numG p % 12 = p.2 := by
  have h1 := okG_gear hp
  have h3 := hx.r.few
  have h4 := hx.f.few
  unfold numG
  obtain ⟨a, b⟩ := p
  simp only at *
  omega
end Go.Proofs.Ythedanpldebjcaa
namespace Go.Proofs.Ythedanpldebjcaa
set_option linter.unusedSimpArgs false
set_option linter.unusedVariables false

def bfMs (x : Trn) (lm : Int) (b : Bf) (i : Nat) : Nat → Bf
  | 0 => b
  | j + 1 => bfM x lm (bfMs x lm b i j) i (j : Nat)
theorem bfI_is (x : Trn) (lm : Int) (b : Bf) (i : Nat) : bfI x lm b i = bfMs x lm b i 4 := rfl
def nums (b : Bf) : List Int := b.seen.map numG
theorem nums_len (b : Bf) : (nums b).length = b.seen.length := by simp [nums]
theorem nums_at {b : Bf} {i : Nat} (h : i < b.seen.length) : (nums b).getD i 0 = numG (b.s i) := by
  unfold nums Bf.s
  simp [List.getD_eq_getElem?_getD, h]
theorem has_num {x : Trn} (hx : Train x) {lm : Int} {b : Bf} (hb : ∀ p ∈ b.seen, okG x lm p = true) {q : Pl} (hq : okG x lm q = true) : (nums b).contains (numG q) = b.seen.contains q := by
  rw [Bool.eq_iff_iff]
  simp only [List.contains_eq_mem, decide_eq_true_eq]
  constructor
  · intro h
    obtain ⟨p, h1, h2⟩ := List.mem_map.1 h
    rw [← num_inj hx (hb p h1) hq h2]
    exact h1
  · intro h
    exact List.mem_map.2 ⟨q, h, rfl⟩
theorem bfMs_ok {x : Trn} {lm : Int} {a : Pl} {b : Bf} {i : Nat} (h : BfOk x lm a b i) (hi : i < b.seen.length) : ∀ j : Nat, j ≤ 4 → BfOk x lm a (bfMs x lm b i j) i ∧ b.seen.length ≤ (bfMs x lm b i j).seen.length ∧ (bfMs x lm b i j).s i = b.s i ∧ (bfMs x lm b i j).w i = b.w i
  | 0, _ => ⟨h, Nat.le_refl _, rfl, rfl⟩
  | j + 1, hj => by
    obtain ⟨h1, h2, h3, h4⟩ := bfMs_ok h hi j (by omega)
    obtain ⟨g1, g2, -⟩ := h1.move (by omega) (m := (j : Nat)) (by omega)
    have hl := bfM_len x lm (bfMs x lm b i j) i (j : Nat)
    refine ⟨g1, by show _ ≤ (bfM x lm (bfMs x lm b i j) i (j : Nat)).seen.length; omega, ?_, ?_⟩
    · exact (g2 i (by omega)).1.trans h3
    · exact (g2 i (by omega)).2.trans h4
/-- What one move does. -/
theorem bfM_new {x : Trn} {lm : Int} {b : Bf} {i : Nat} {m : Int} (h1 : okG x lm (mvG (b.s i) m) = true) (h2 : b.seen.contains (mvG (b.s i) m) = false) : bfM x lm b i m = ⟨b.seen ++ [mvG (b.s i) m], b.ways ++ [b.w i ++ [m]]⟩ := by
  unfold bfM
  rw [if_pos (by rw [h1, h2]; rfl)]
theorem bfM_old {x : Trn} {lm : Int} {b : Bf} {i : Nat} {m : Int} (h : okG x lm (mvG (b.s i) m) = true → b.seen.contains (mvG (b.s i) m) = true) : bfM x lm b i m = b := by
  unfold bfM
  rw [if_neg]
  intro hc
  rw [Bool.and_eq_true] at hc
  rw [h hc.1] at hc
  exact absurd hc.2 (by decide)
theorem nums_new (b : Bf) (p : Pl) (w : List Int) : nums ⟨b.seen ++ [p], b.ways ++ [w]⟩ = nums b ++ [numG p] := by simp [nums]
theorem bfTo_next {x : Trn} {lm : Int} {a : Pl} {k : Nat} (h : k < (bfTo x lm a k).seen.length) : bfTo x lm a (k + 1) = bfMs x lm (bfTo x lm a k) k 4 := by
  show (if k < (bfTo x lm a k).seen.length then bfI x lm (bfTo x lm a k) k else bfTo x lm a k) = _
  rw [if_pos h]
  rfl
/-- A way has no more moves than rounds have been gone. -/
theorem way_few {x : Trn} {lm : Int} {a : Pl} (ha : okG x lm a = true) : ∀ k, ∀ j, j < (bfTo x lm a k).seen.length → ((bfTo x lm a k).w j).length ≤ k
  | 0, j, hj => by
    obtain rfl : j = 0 := by simpa [bfTo] using hj
    exact Nat.le_refl _
  | k + 1, j, hj => by
    by_cases hk : k < (bfTo x lm a k).seen.length
    · rw [bfTo_next hk] at hj ⊢
      obtain ⟨h1, h2, h3, h4⟩ := bfMs_ok (bfTo_ok ha k) hk 4 (Nat.le_refl _)
      have h5 := h1.cap (by omega) j hj
      rw [h4] at h5
      have := way_few ha k k hk
      omega
    · have e : bfTo x lm a (k + 1) = bfTo x lm a k := by
        show (if k < (bfTo x lm a k).seen.length then bfI x lm (bfTo x lm a k) k else bfTo x lm a k) = _
        rw [if_neg hk]
      rw [e] at hj ⊢
      have := way_few ha k j hj
      omega
end Go.Proofs.Ythedanpldebjcaa
