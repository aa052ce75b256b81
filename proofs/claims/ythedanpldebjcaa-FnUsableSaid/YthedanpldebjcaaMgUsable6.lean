/- Gears that are kept out of a list, one behind the other; crossed gears and the others. No program. -/
import Derived.Test.YthedanpldebjcaaMgUsable3
import Derived.Test.YthedanpldebjcaaGearI4
namespace Go.Proofs.Ythedanpldebjcaa
set_option linter.unusedSimpArgs false
set_option linter.unusedVariables false

/-- j places have been looked at; what is kept of them lies at the head of us, i gears; from place j on us is as it was. -/
structure Kept (p : Gr → Bool) (L : List Gr) (i j : Nat) (us : List Gr) : Prop where
  len : us.length = L.length
  lt : i < j
  le : j ≤ L.length
  low : us.take i = (L.take j).filter p
  high : ∀ t, j ≤ t → us.getD t (0, 0) = L.getD t (0, 0)
theorem take_succ_D {L : List Gr} {k : Nat} (h : k < L.length) : L.take (k + 1) = L.take k ++ [L.getD k (0, 0)] := by
  rw [List.take_add_one]
  simp [List.getD, h]
theorem take_set_lt {us : List Gr} {i : Nat} {v : Gr} : (us.set i v).take i = us.take i := by
  apply List.ext_getElem?
  intro j
  by_cases hj : j < i
  · rw [List.getElem?_take_of_lt hj, List.getElem?_take_of_lt hj, List.getElem?_set_ne (by omega)]
  · rw [List.getElem?_eq_none (by rw [List.length_take]; omega), List.getElem?_eq_none (by rw [List.length_take]; omega)]
theorem filter_all_take {p : Gr → Bool} {L : List Gr} : ∀ {k : Nat}, k ≤ L.length → (∀ t, t < k → p (L.getD t (0, 0)) = true) → (L.take k).filter p = L.take k := fun {k} hk h => by
  refine List.filter_eq_self.2 fun a ha => ?_
  obtain ⟨t, ht, e⟩ := List.getElem_of_mem ha
  rw [List.length_take] at ht
  have h1 := h t (by omega)
  rw [List.getElem_take] at e
  have e2 : L.getD t (0, 0) = a := by
    rw [List.getD_eq_getElem?_getD, List.getElem?_eq_getElem (by omega)]
    exact e
  rwa [e2] at h1
theorem Kept.start {p : Gr → Bool} {L : List Gr} {k : Nat} (hk : k < L.length) (h : ∀ t, t < k → p (L.getD t (0, 0)) = true) (h2 : p (L.getD k (0, 0)) = false) : Kept p L k (k + 1) L := by
  refine ⟨rfl, Nat.lt_succ_self _, hk, ?_, fun t _ => rfl⟩
  rw [take_succ_D hk, List.filter_append, filter_all_take (Nat.le_of_lt hk) h, List.filter_cons_of_neg (by rw [h2]; decide), List.filter_nil, List.append_nil]
theorem Kept.keep {p : Gr → Bool} {L : List Gr} {i j : Nat} {us : List Gr} (h : Kept p L i j us) (hj : j < L.length) (hp : p (L.getD j (0, 0)) = true) : Kept p L (i + 1) (j + 1) (us.set i (L.getD j (0, 0))) := by
  have hl := h.len
  have hlt := h.lt
  refine ⟨by rw [List.length_set]; exact h.len, by omega, hj, ?_, fun t ht => ?_⟩
  · rw [take_succ_D (by rw [List.length_set]; omega), take_set_lt, take_succ_D hj, List.filter_append, ← h.low]
    congr 1
    rw [List.filter_cons_of_pos hp, List.filter_nil]
    congr 1
    rw [List.getD_eq_getElem?_getD, List.getElem?_set_self (by omega)]
    rfl
  · rw [← h.high t (by omega), List.getD_eq_getElem?_getD, List.getElem?_set_ne (by omega), ← List.getD_eq_getElem?_getD]
theorem Kept.skip {p : Gr → Bool} {L : List Gr} {i j : Nat} {us : List Gr} (h : Kept p L i j us) (hj : j < L.length) (hp : p (L.getD j (0, 0)) = false) : Kept p L i (j + 1) us := by
  have hlt := h.lt
  refine ⟨h.len, by omega, hj, ?_, fun t ht => h.high t (by omega)⟩
  rw [take_succ_D hj, List.filter_append, ← h.low, List.filter_cons_of_neg (by rw [hp]; decide), List.filter_nil, List.append_nil]
theorem Kept.done {p : Gr → Bool} {L : List Gr} {i j : Nat} {us : List Gr} (h : Kept p L i j us) (hj : j = L.length) : us.take i = L.filter p ∧ (L.filter p).length = i ∧ i < L.length := by
  have h1 := h.low
  have hlt := h.lt
  subst hj
  rw [List.take_length] at h1
  refine ⟨h1, ?_, hlt⟩
  rw [← h1, List.length_take, h.len]
  omega
theorem filter_none {p : Gr → Bool} {L : List Gr} (h : ∀ t, t < L.length → p (L.getD t (0, 0)) = true) : L.filter p = L := by
  have := filter_all_take (p := p) (L := L) (Nat.le_refl _) h
  rwa [List.take_length] at this
/-- Which gears are kept: those that are crossed, or the others. -/
def keepG (x : Trn) (lm : Int) (b : Bool) (g : Gr) : Bool := crossB x lm (plG g) == b
def crossI (x : Trn) (lm : Int) : List Gr := (ordI x).filter (keepG x lm true)
theorem keep_usable (x : Trn) (lm : Int) : (ordI x).filter (keepG x lm false) = usableI x lm := by
  unfold usableI
  congr 1
  funext g
  unfold keepG
  cases crossB x lm (plG g) <;> rfl
theorem keep_not {x : Trn} {lm : Int} {b : Bool} {g : Gr} {v : Bool} (h : (crossB x lm (plG g) != b) = v) : keepG x lm b g = !v := by
  unfold keepG
  rw [← h]
  cases crossB x lm (plG g) <;> cases b <;> rfl
theorem cross_mem {x : Trn} {lm : Int} {g : Gr} : g ∈ crossI x lm ↔ g ∈ ordI x ∧ crossB x lm (plG g) = true := by
  unfold crossI keepG
  rw [List.mem_filter]
  simp
theorem ordI_nodup (x : Trn) : (ordI x).Nodup := by
  have h := ordTo_perm x (x.f.length * x.r.length)
  have : (allG x (x.f.length * x.r.length)).Nodup := by
    unfold allG
    rw [List.nodup_iff_pairwise_ne, List.pairwise_map]
    refine List.Pairwise.imp_of_mem ?_ List.nodup_range
    intro a b ha hb hne e
    rw [List.mem_range] at ha hb
    apply hne
    unfold nthG at e
    have hr : 0 < x.r.length := Nat.pos_of_ne_zero fun h0 => by rw [h0] at ha; simp at ha
    have e1 := congrArg Prod.fst e
    have e2 := congrArg Prod.snd e
    simp only at e1 e2
    rw [← Nat.div_add_mod a x.r.length, ← Nat.div_add_mod b x.r.length, e1, e2]
  exact (h.nodup_iff).2 this
theorem cross_nodup (x : Trn) (lm : Int) : (crossI x lm).Nodup := (ordI_nodup x).filter _
theorem cross_few (x : Trn) (lm : Int) : (crossI x lm).length ≤ (ordI x).length := List.length_filter_le _ _
theorem plG_inj {a b : Gr} (h : plG a = plG b) : a = b := by
  unfold plG at h
  have e1 := congrArg Prod.fst h
  have e2 := congrArg Prod.snd h
  simp only at e1 e2
  exact Prod.ext (by omega) (by omega)
theorem contains_pl (L : List Gr) (g : Gr) : (L.map plG).contains (plG g) = L.contains g := by
  rw [Bool.eq_iff_iff]
  simp only [List.contains_eq_mem, decide_eq_true_eq]
  constructor
  · intro h
    obtain ⟨u, h1, h2⟩ := List.mem_map.1 h
    exact plG_inj h2 ▸ h1
  · intro h
    exact List.mem_map.2 ⟨g, h, rfl⟩
end Go.Proofs.Ythedanpldebjcaa
namespace Go.Proofs.Ythedanpldebjcaa
set_option linter.unusedSimpArgs false
set_option linter.unusedVariables false

theorem gearB_gr {x : Trn} {f r : Int} (h : gearB x f r = true) : ∃ g : Gr, f = g.1 ∧ r = g.2 ∧ GOk x g := by
  unfold gearB at h
  simp only [Bool.and_eq_true, decide_eq_true_eq] at h
  obtain ⟨f, rfl⟩ := Int.eq_ofNat_of_zero_le h.1.1
  obtain ⟨r, rfl⟩ := Int.eq_ofNat_of_zero_le h.2.1
  exact ⟨(f, r), rfl, rfl, by unfold GOk; omega⟩
theorem gearB_of {x : Trn} {g : Gr} (h : GOk x g) : gearB x g.1 g.2 = true := by
  unfold gearB
  have h1 := h.1
  have h2 := h.2
  simp only [Bool.and_eq_true, decide_eq_true_eq]
  omega
/-- The gear to which a move leads, if there is one. -/
theorem mv_gear {x : Trn} (ht : trainB x = true) {p : Pl} (h : gearB x p.1 p.2 = true) : ∃ g : Gr, p = plG g ∧ GOk x g ∧ gearAtV x p.1 p.2 = gearV x g := by
  obtain ⟨g, h1, h2, h3⟩ := gearB_gr h
  refine ⟨g, Prod.ext h1 h2, h3, ?_⟩
  rw [(code9_ok ht h).2, h1, h2, Int.toNat_natCast, Int.toNat_natCast]
  rfl
theorem seen_at {b : Bf} {L : List Gr} (hs : L.map plG = b.seen) {i : Nat} (hi : i < L.length) : b.s i = plG (L.getD i (0, 0)) := by
  unfold Bf.s
  rw [← hs]
  simp [List.getD_eq_getElem?_getD, hi]
theorem step_none {x : Trn} {lm : Int} {b : Bf} {i : Nat} {m : Int} (h : gearB x (mvG (b.s i) m).1 (mvG (b.s i) m).2 = false) : bfM x lm b i m = b := by
  refine bfM_old fun ho => ?_
  unfold okG at ho
  rw [h] at ho
  simp at ho
theorem step_old {x : Trn} {lm : Int} {b : Bf} {L : List Gr} (hs : L.map plG = b.seen) {i : Nat} {m : Int} {g : Gr} (hp : mvG (b.s i) m = plG g) (h : (L.contains g || (crossI x lm).contains g) = true) : bfM x lm b i m = b := by
  refine bfM_old fun ho => ?_
  rw [hp] at ho ⊢
  rw [Bool.or_eq_true] at h
  rcases h with h | h
  · rw [← hs, contains_pl]; exact h
  · have h2 := (cross_mem.1 (by simpa using h)).2
    unfold okG at ho
    rw [h2] at ho
    simp at ho
theorem step_new {x : Trn} {lm : Int} {b : Bf} {L : List Gr} (hs : L.map plG = b.seen) {i : Nat} {m : Int} {g : Gr} (hg : GOk x g) (hp : mvG (b.s i) m = plG g) (h1 : L.contains g = false) (h2 : (crossI x lm).contains g = false) :
    bfM x lm b i m = ⟨b.seen ++ [plG g], b.ways ++ [b.w i ++ [m]]⟩ ∧ (L ++ [g]).map plG = (bfM x lm b i m).seen ∧ okG x lm (plG g) = true := by
  have hc : crossB x lm (plG g) = false := by
    cases hh : crossB x lm (plG g)
    · rfl
    · have : g ∈ crossI x lm := cross_mem.2 ⟨ordI_mem hg, hh⟩
      simp [List.contains_eq_mem, this] at h2
  have hok : okG x lm (plG g) = true := by
    unfold okG
    rw [hc, show gearB x (plG g).1 (plG g).2 = true from gearB_of hg]
    rfl
  have e := bfM_new (x := x) (lm := lm) (b := b) (i := i) (m := m) (by rw [hp]; exact hok) (by rw [hp, ← hs, contains_pl]; exact h1)
  rw [hp] at e
  refine ⟨e, ?_, hok⟩
  rw [e, List.map_append, hs]
  rfl
theorem not_crossed {x : Trn} {lm : Int} {g : Gr} (h : crossB x lm (plG g) = false) : (crossI x lm).contains g = false := by
  rw [← Bool.not_eq_true]
  intro hc
  have := (cross_mem.1 (by simpa using hc)).2
  rw [h] at this
  exact absurd this (by decide)
/-- One crossed gear more. -/
theorem cross_next {x : Trn} {lm : Int} {g : Gr} (hg : crossB x lm (plG g) = false) {k : Nat} (hk : k < (crossI x lm).length) :
    GOk x ((crossI x lm).getD k (0, 0)) ∧ [g].contains ((crossI x lm).getD k (0, 0)) = false ∧ ((crossI x lm).take k).contains ((crossI x lm).getD k (0, 0)) = false ∧ (crossI x lm).take (k + 1) = (crossI x lm).take k ++ [(crossI x lm).getD k (0, 0)] := by
  have hm : (crossI x lm).getD k (0, 0) ∈ crossI x lm := by
    rw [List.getD_eq_getElem?_getD, List.getElem?_eq_getElem hk]
    exact List.getElem_mem hk
  have hn := cross_nodup x lm
  refine ⟨ordI_ok (cross_mem.1 hm).1, ?_, ?_, take_succ_D hk⟩
  · rw [← Bool.not_eq_true]
    intro h
    have e : (crossI x lm).getD k (0, 0) = g := by simpa using h
    have h2 := (cross_mem.1 hm).2
    rw [e, hg] at h2
    exact absurd h2 (by decide)
  · rw [← Bool.not_eq_true]
    intro h
    have h2 : (crossI x lm).getD k (0, 0) ∈ (crossI x lm).take k := by simpa using h
    obtain ⟨t, ht, e⟩ := List.getElem_of_mem h2
    rw [List.length_take] at ht
    rw [List.getElem_take, List.getD_eq_getElem?_getD, List.getElem?_eq_getElem hk] at e
    have hp := List.pairwise_iff_getElem.1 (List.nodup_iff_pairwise_ne.1 hn) t k (by omega) hk (by omega)
    exact hp e
/-- One crossed gear less. -/
theorem cross_strike {x : Trn} {lm : Int} {k : Nat} (hk : k < (crossI x lm).length) : (crossI x lm).drop k = (crossI x lm).getD k (0, 0) :: (crossI x lm).drop (k + 1) ∧ ((crossI x lm).drop (k + 1)).contains ((crossI x lm).getD k (0, 0)) = false ∧ GOk x ((crossI x lm).getD k (0, 0)) ∧ crossB x lm (plG ((crossI x lm).getD k (0, 0))) = true := by
  have hm : (crossI x lm).getD k (0, 0) ∈ crossI x lm := by
    rw [List.getD_eq_getElem?_getD, List.getElem?_eq_getElem hk]
    exact List.getElem_mem hk
  have hn := cross_nodup x lm
  have e : (crossI x lm).drop k = (crossI x lm).getD k (0, 0) :: (crossI x lm).drop (k + 1) := by
    rw [List.drop_eq_getElem_cons hk]
    congr 1
    rw [List.getD_eq_getElem?_getD, List.getElem?_eq_getElem hk]
    rfl
  refine ⟨e, ?_, ordI_ok (cross_mem.1 hm).1, (cross_mem.1 hm).2⟩
  have h1 := hn.sublist (List.drop_sublist k _)
  rw [e] at h1
  have h2 := (List.nodup_cons.1 h1).1
  rw [List.contains_eq_mem, decide_eq_false h2]
theorem seen_not_cross {x : Trn} {lm : Int} {L : List Gr} (hL : ∀ p ∈ L.map plG, okG x lm p = true) {g : Gr} (h : crossB x lm (plG g) = true) : L.contains g = false := by
  rw [← Bool.not_eq_true]
  intro hc
  have hm : plG g ∈ L.map plG := List.mem_map.2 ⟨g, by simpa using hc, rfl⟩
  have := hL _ hm
  unfold okG at this
  rw [h] at this
  simp at this
end Go.Proofs.Ythedanpldebjcaa
