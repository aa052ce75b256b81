/- What the functions of chapter 11 answer, and what the laws hold of it. No program. -/
import Derived.Test.YthedanpldebjcaaPlainShift2
import Derived.Test.YthedanpldebjcaaTenB
import Derived.Test.YthedanpldebjcaaPlainGear4
namespace Go.Proofs.Ythedanpldebjcaa
set_option linter.unusedSimpArgs false
set_option linter.unusedVariables false

def code11 (x : Trn) (lm f r : Int) : Int := if code9 x f r = 0 then if inB lm 0 4 then 0 else 2 else code9 x f r
def start11 (x : Trn) (lm f r : Int) : Int := if code11 x lm f r = 0 then if crossB x lm (f, r) then 5 else 0 else code11 x lm f r
def crossR (x : Trn) (lm f r : Int) : Bool × Int := if code11 x lm f r = 0 then (crossB x lm (f, r), 0) else (false, code11 x lm f r)
def usableI (x : Trn) (lm : Int) : List Gr := (ordI x).filter fun g => !crossB x lm (plG g)
def usableR (x : Trn) (lm : Int) : List (List Int) × Int := if code11 x lm 0 0 = 0 then (rowsG (usableI x lm), 0) else ([], code11 x lm 0 0)
def shiftR (x : Trn) (lm f r m : Int) : Int × Int × Int :=
  if code11 x lm f r = 0 then
    if inB m 0 3 then
      if crossB x lm (f, r) then (0, 0, 5) else if okG x lm (mvG (f, r) m) then ((mvG (f, r) m).1, (mvG (f, r) m).2, 0) else (0, 0, 5)
    else (0, 0, 2)
  else (0, 0, code11 x lm f r)
def shortR (x : Trn) (lm f r tf tr : Int) : List Int × Int :=
  if code11 x lm f r = 0 then
    if code11 x lm tf tr = 0 then
      if crossB x lm (f, r) || crossB x lm (tf, tr) then ([], 5) else wayOf (bfEnd x lm (f, r)) (tf, tr)
    else ([], code11 x lm tf tr)
  else ([], code11 x lm f r)
def reachR (x : Trn) (lm f r : Int) : Int × Int := if start11 x lm f r = 0 then (((bfEnd x lm (f, r)).seen.length : Nat), 0) else (0, start11 x lm f r)
def absI (n : Int) : Int := max n (-n)
def ringTo (L : List Gr) : Nat → Int
  | 0 => 0
  | k + 1 => ringTo L k + absI (((L.getD (k + 1) (0, 0)).1 : Int) - ((L.getD k (0, 0)).1 : Int))
def ringR (x : Trn) (lm : Int) : Int × Int := if code11 x lm 0 0 = 0 then (ringTo (usableI x lm) ((usableI x lm).length - 1), 0) else (0, code11 x lm 0 0)
theorem code11_ok {x : Trn} {lm f r : Int} (h : code11 x lm f r = 0) : trainB x = true ∧ gearB x f r = true ∧ inB lm 0 4 = true := by
  unfold code11 code9 at h
  by_cases ht : trainB x = true
  · rw [if_pos ht] at h
    by_cases hg : gearB x f r = true
    · rw [if_pos hg, if_pos rfl] at h
      by_cases hl : inB lm 0 4 = true
      · exact ⟨ht, hg, hl⟩
      · rw [if_neg hl] at h; exact absurd h (by decide)
    · rw [if_neg hg, if_neg (by decide)] at h; exact absurd h (by decide)
  · rw [if_neg ht, if_neg (by decide)] at h; exact absurd h (by decide)
theorem code11_of {x : Trn} {lm f r : Int} (ht : trainB x = true) (hg : gearB x f r = true) (hl : inB lm 0 4 = true) : code11 x lm f r = 0 := by
  unfold code11 code9
  rw [if_pos ht, if_pos hg, if_pos rfl, if_pos hl]
theorem okG_of {x : Trn} {lm f r : Int} (hg : gearB x f r = true) (hc : crossB x lm (f, r) = false) : okG x lm (f, r) = true := by
  unfold okG
  rw [hc]
  simp [hg]
theorem okG_code {x : Trn} {lm : Int} {p : Pl} (ht : trainB x = true) (hl : inB lm 0 4 = true) (h : okG x lm p = true) : code11 x lm p.1 p.2 = 0 ∧ crossB x lm p = false := by
  unfold okG at h
  simp only [Bool.and_eq_true, Bool.not_eq_true'] at h
  exact ⟨code11_of ht h.1 hl, h.2⟩
theorem shiftR_ok {x : Trn} {lm f r m : Int} (ht : trainB x = true) (hl : inB lm 0 4 = true) (ha : okG x lm (f, r) = true) (hm : 0 ≤ m ∧ m ≤ 3) (hok : okG x lm (mvG (f, r) m) = true) : shiftR x lm f r m = ((mvG (f, r) m).1, (mvG (f, r) m).2, 0) := by
  obtain ⟨h1, h2⟩ := okG_code ht hl ha
  unfold shiftR
  rw [if_pos h1, if_pos (inB_iff.2 hm), h2, if_neg (by simp), if_pos hok]
/-- A shift leads to a neighbour that is not crossed. -/
theorem shift_law {x : Trn} {lm f r m p q : Int} (h : shiftR x lm f r m = (p, q, 0)) : crossR x lm p q = (false, 0) ∧ max (p - f) (f - p) + max (q - r) (r - q) = 1 := by
  unfold shiftR at h
  by_cases h1 : code11 x lm f r = 0
  · rw [if_pos h1] at h
    obtain ⟨ht, hg, hl⟩ := code11_ok h1
    by_cases h2 : inB m 0 3 = true
    · rw [if_pos h2] at h
      by_cases h3 : crossB x lm (f, r) = true
      · rw [if_pos h3] at h; exact absurd (Prod.mk.inj (Prod.mk.inj h).2).2 (by decide)
      · rw [if_neg h3] at h
        by_cases h4 : okG x lm (mvG (f, r) m) = true
        · rw [if_pos h4] at h
          obtain ⟨e1, e2⟩ := Prod.mk.inj h
          obtain ⟨e2, -⟩ := Prod.mk.inj e2
          obtain ⟨c1, c2⟩ := okG_code ht hl h4
          have ep : mvG (f, r) m = (p, q) := Prod.ext e1 e2
          rw [ep] at c1 c2
          refine ⟨by unfold crossR; rw [if_pos c1, c2], ?_⟩
          have hm := inB_iff.1 h2
          subst e1
          subst e2
          have : m = 0 ∨ m = 1 ∨ m = 2 ∨ m = 3 := by omega
          rcases this with rfl | rfl | rfl | rfl <;> simp [mvG] <;> omega
        · rw [if_neg h4] at h; exact absurd (Prod.mk.inj (Prod.mk.inj h).2).2 (by decide)
    · rw [if_neg h2] at h; exact absurd (Prod.mk.inj (Prod.mk.inj h).2).2 (by decide)
  · rw [if_neg h1] at h; exact absurd (Prod.mk.inj (Prod.mk.inj h).2).2 h1
/-- Where the moves of a way have led, one after another. -/
def walkG (a : Pl) (w : List Int) : Pl := w.foldl mvG a
theorem leads_walk {x : Trn} {lm : Int} : ∀ {w : List Int} {a b : Pl}, leads x lm a w b → okG x lm a = true → walkG a w = b ∧ ∀ k, k < w.length → okG x lm (walkG a (w.take k)) = true ∧ okG x lm (mvG (walkG a (w.take k)) (w.getD k 0)) = true ∧ (0 ≤ w.getD k 0 ∧ w.getD k 0 ≤ 3)
  | [], a, b, h, ha => ⟨h, fun k hk => by simp at hk⟩
  | m :: w, a, b, h, ha => by
    obtain ⟨h1, h2⟩ := leads_walk h.2.2 h.2.1
    refine ⟨h1, fun k hk => ?_⟩
    cases k with
    | zero => exact ⟨ha, h.2.1, h.1⟩
    | succ j =>
      have := h2 j (by simpa using hk)
      simpa [walkG] using this
theorem walkG_succ (a : Pl) {w : List Int} {k : Nat} (hk : k < w.length) : walkG a (w.take (k + 1)) = mvG (walkG a (w.take k)) (w.getD k 0) := by
  unfold walkG
  rw [List.take_add_one, List.getElem?_eq_getElem hk, List.foldl_append]
  simp [List.getD, hk]
/-- A shortest way leads where it should, and back there is one that is as long. -/
theorem short_law {x : Trn} {lm f r tf tr : Int} {w : List Int} (h : shortR x lm f r tf tr = (w, 0)) :
    walkG (f, r) w = (tf, tr) ∧ (∀ k, k < w.length → shiftR x lm (walkG (f, r) (w.take k)).1 (walkG (f, r) (w.take k)).2 (w.getD k 0) = ((walkG (f, r) (w.take (k + 1))).1, (walkG (f, r) (w.take (k + 1))).2, 0)) ∧
      ∃ v, shortR x lm tf tr f r = (v, 0) ∧ v.length = w.length := by
  unfold shortR at h
  by_cases h1 : code11 x lm f r = 0
  · rw [if_pos h1] at h
    by_cases h2 : code11 x lm tf tr = 0
    · rw [if_pos h2] at h
      by_cases h3 : (crossB x lm (f, r) || crossB x lm (tf, tr)) = true
      · rw [if_pos h3] at h; exact absurd (Prod.mk.inj h).2 (by decide)
      · rw [if_neg h3] at h
        rw [Bool.not_eq_true, Bool.or_eq_false_iff] at h3
        obtain ⟨ht, hg, hl⟩ := code11_ok h1
        obtain ⟨-, hg2, -⟩ := code11_ok h2
        have ha := okG_of hg h3.1
        have hb := okG_of hg2 h3.2
        obtain ⟨hw, v, hv, hvl⟩ := way_back (trainB_ok ht) ha hb h
        obtain ⟨e, hk⟩ := leads_walk hw ha
        refine ⟨e, fun k hlt => ?_, v, ?_, hvl⟩
        · obtain ⟨g1, g2, g3⟩ := hk k hlt
          rw [walkG_succ _ hlt]
          exact shiftR_ok ht hl g1 g3 g2
        · unfold shortR
          rw [if_pos h2, if_pos h1, if_neg (by rw [h3.1, h3.2]; simp)]
          exact hv
    · rw [if_neg h2] at h; exact absurd (Prod.mk.inj h).2 h2
  · rw [if_neg h1] at h; exact absurd (Prod.mk.inj h).2 h1
end Go.Proofs.Ythedanpldebjcaa
namespace Go.Proofs.Ythedanpldebjcaa
theorem shift_bd {x : Trn} {lm f r m p q : Int} (h : shiftR x lm f r m = (p, q, 0)) : (0 ≤ f ∧ f ≤ 100) ∧ (0 ≤ r ∧ r ≤ 100) := by
  unfold shiftR at h
  by_cases h1 : code11 x lm f r = 0
  · obtain ⟨ht, hg, -⟩ := code11_ok h1
    have hx := trainB_ok ht
    have h3 := hx.f.few
    have h4 := hx.r.few
    unfold gearB at hg
    simp only [Bool.and_eq_true, decide_eq_true_eq] at hg
    omega
  · rw [if_neg h1] at h
    exact absurd (Prod.mk.inj (Prod.mk.inj h).2).2 h1
end Go.Proofs.Ythedanpldebjcaa
