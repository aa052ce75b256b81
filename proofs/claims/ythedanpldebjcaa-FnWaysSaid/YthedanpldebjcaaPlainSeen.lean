/- Gears that are seen, in numbers: what one move of the search in breadth does to a list of gears. No program. -/
import Derived.Test.YthedanpldebjcaaPlainDel
import Derived.Test.YthedanpldebjcaaGearI4
namespace Go.Proofs.Ythedanpldebjcaa
set_option linter.unusedSimpArgs false
set_option linter.unusedVariables false

theorem gearB_gr {x : Trn} {f r : Int} (h : gearB x f r = true) : ∃ g : Gr, f = g.1 ∧ r = g.2 ∧ GOk x g := by
  unfold gearB at h
  simp only [Bool.and_eq_true, decide_eq_true_eq] at h
  obtain ⟨f, rfl⟩ := Int.eq_ofNat_of_zero_le h.1.1
  obtain ⟨r, rfl⟩ := Int.eq_ofNat_of_zero_le h.2.1
  exact ⟨(f, r), rfl, rfl, by unfold GOk; omega⟩
theorem gearB_of {x : Trn} {g : Gr} (h : GOk x g) : gearB x g.1 g.2 = true := by
  unfold gearB
  have h1 := h.1
  have h2 := h.2
  simp only [Bool.and_eq_true, decide_eq_true_eq]
  omega
/-- The gear to which a move leads, if there is one. -/
theorem mv_gear {x : Trn} (ht : trainB x = true) {p : Pl} (h : gearB x p.1 p.2 = true) : ∃ g : Gr, p = plG g ∧ GOk x g ∧ gearAtV x p.1 p.2 = gearV x g := by
  obtain ⟨g, h1, h2, h3⟩ := gearB_gr h
  refine ⟨g, Prod.ext h1 h2, h3, ?_⟩
  rw [(code9_ok ht h).2, h1, h2, Int.toNat_natCast, Int.toNat_natCast]
  rfl
theorem seen_at {b : Bf} {L : List Gr} (hs : L.map plG = b.seen) {i : Nat} (hi : i < L.length) : b.s i = plG (L.getD i (0, 0)) := by
  unfold Bf.s
  rw [← hs]
  simp [List.getD_eq_getElem?_getD, hi]
theorem step_none {x : Trn} {lm : Int} {b : Bf} {i : Nat} {m : Int} (h : gearB x (mvG (b.s i) m).1 (mvG (b.s i) m).2 = false) : bfM x lm b i m = b := by
  refine bfM_old fun ho => ?_
  unfold okG at ho
  rw [h] at ho
  simp at ho
theorem step_old {x : Trn} {lm : Int} {b : Bf} {L : List Gr} (hs : L.map plG = b.seen) {i : Nat} {m : Int} {g : Gr} (hp : mvG (b.s i) m = plG g) (h : (L.contains g || (crossI x lm).contains g) = true) : bfM x lm b i m = b := by
  refine bfM_old fun ho => ?_
  rw [hp] at ho ⊢
  rw [Bool.or_eq_true] at h
  rcases h with h | h
  · rw [← hs, contains_pl]; exact h
  · have h2 := (cross_mem.1 (by simpa using h)).2
    unfold okG at ho
    rw [h2] at ho
    simp at ho
theorem step_new {x : Trn} {lm : Int} {b : Bf} {L : List Gr} (hs : L.map plG = b.seen) {i : Nat} {m : Int} {g : Gr} (hg : GOk x g) (hp : mvG (b.s i) m = plG g) (h1 : L.contains g = false) (h2 : (crossI x lm).contains g = false) :
    bfM x lm b i m = ⟨b.seen ++ [plG g], b.ways ++ [b.w i ++ [m]]⟩ ∧ (L ++ [g]).map plG = (bfM x lm b i m).seen ∧ okG x lm (plG g) = true := by
  have hc : crossB x lm (plG g) = false := by
    cases hh : crossB x lm (plG g)
    · rfl
    · have : g ∈ crossI x lm := cross_mem.2 ⟨ordI_mem hg, hh⟩
      simp [List.contains_eq_mem, this] at h2
  have hok : okG x lm (plG g) = true := by
    unfold okG
    rw [hc, show gearB x (plG g).1 (plG g).2 = true from gearB_of hg]
    rfl
  have e := bfM_new (x := x) (lm := lm) (b := b) (i := i) (m := m) (by rw [hp]; exact hok) (by rw [hp, ← hs, contains_pl]; exact h1)
  rw [hp] at e
  refine ⟨e, ?_, hok⟩
  rw [e, List.map_append, hs]
  rfl
theorem not_crossed {x : Trn} {lm : Int} {g : Gr} (h : crossB x lm (plG g) = false) : (crossI x lm).contains g = false := by
  rw [← Bool.not_eq_true]
  intro hc
  have := (cross_mem.1 (by simpa using hc)).2
  rw [h] at this
  exact absurd this (by decide)
/-- One crossed gear more. -/
theorem cross_next {x : Trn} {lm : Int} {g : Gr} (hg : crossB x lm (plG g) = false) {k : Nat} (hk : k < (crossI x lm).length) :
    GOk x ((crossI x lm).getD k (0, 0)) ∧ [g].contains ((crossI x lm).getD k (0, 0)) = false ∧ ((crossI x lm).take k).contains ((crossI x lm).getD k (0, 0)) = false ∧ (crossI x lm).take (k + 1) = (crossI x lm).take k ++ [(crossI x lm).getD k (0, 0)] := by
  have hm : (crossI x lm).getD k (0, 0) ∈ crossI x lm := by
    rw [List.getD_eq_getElem?_getD, List.getElem?_eq_getElem hk]
    exact List.getElem_mem hk
  have hn := cross_nodup x lm
  refine ⟨ordI_ok (cross_mem.1 hm).1, ?_, ?_, take_succ_D hk⟩
  · rw [← Bool.not_eq_true]
    intro h
    have e : (crossI x lm).getD k (0, 0) = g := by simpa using h
    have h2 := (cross_mem.1 hm).2
    rw [e, hg] at h2
    exact absurd h2 (by decide)
  · rw [← Bool.not_eq_true]
    intro h
    have h2 : (crossI x lm).getD k (0, 0) ∈ (crossI x lm).take k := by simpa using h
    obtain ⟨t, ht, e⟩ := List.getElem_of_mem h2
    rw [List.length_take] at ht
    rw [List.getElem_take, List.getD_eq_getElem?_getD, List.getElem?_eq_getElem hk] at e
    have hp := List.pairwise_iff_getElem.1 (List.nodup_iff_pairwise_ne.1 hn) t k (by omega) hk (by omega)
    exact hp e
/-- One crossed gear less. -/
theorem cross_strike {x : Trn} {lm : Int} {k : Nat} (hk : k < (crossI x lm).length) : (crossI x lm).drop k = (crossI x lm).getD k (0, 0) :: (crossI x lm).drop (k + 1) ∧ ((crossI x lm).drop (k + 1)).contains ((crossI x lm).getD k (0, 0)) = false ∧ GOk x ((crossI x lm).getD k (0, 0)) ∧ crossB x lm (plG ((crossI x lm).getD k (0, 0))) = true := by
  have hm : (crossI x lm).getD k (0, 0) ∈ crossI x lm := by
    rw [List.getD_eq_getElem?_getD, List.getElem?_eq_getElem hk]
    exact List.getElem_mem hk
  have hn := cross_nodup x lm
  have e : (crossI x lm).drop k = (crossI x lm).getD k (0, 0) :: (crossI x lm).drop (k + 1) := by
    rw [List.drop_eq_getElem_cons hk]
    congr 1
    rw [List.getD_eq_getElem?_getD, List.getElem?_eq_getElem hk]
    rfl
  refine ⟨e, ?_, ordI_ok (cross_mem.1 hm).1, (cross_mem.1 hm).2⟩
  have h1 := hn.sublist (List.drop_sublist k _)
  rw [e] at h1
  have h2 := (List.nodup_cons.1 h1).1
  rw [List.contains_eq_mem, decide_eq_false h2]
theorem seen_not_cross {x : Trn} {lm : Int} {L : List Gr} (hL : ∀ p ∈ L.map plG, okG x lm p = true) {g : Gr} (h : crossB x lm (plG g) = true) : L.contains g = false := by
  rw [← Bool.not_eq_true]
  intro hc
  have hm : plG g ∈ L.map plG := List.mem_map.2 ⟨g, by simpa using hc, rfl⟩
  have := hL _ hm
  unfold okG at this
  rw [h] at this
  simp at this
end Go.Proofs.Ythedanpldebjcaa
