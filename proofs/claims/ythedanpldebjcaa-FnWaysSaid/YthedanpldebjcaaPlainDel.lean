/- Gears that are kept out of a list, one behind the other; crossed gears and the others. No program. -/
import Derived.Test.YthedanpldebjcaaPlainShift5
namespace Go.Proofs.Ythedanpldebjcaa
set_option linter.unusedSimpArgs false
set_option linter.unusedVariables false

/-- j places have been looked at; what is kept of them lies at the head of us, i gears; from place j on us is as it was. -/
structure Kept (p : Gr → Bool) (L : List Gr) (i j : Nat) (us : List Gr) : Prop where
  len : us.length = L.length
  lt : i < j
  le : j ≤ L.length
  low : us.take i = (L.take j).filter p
  high : ∀ t, j ≤ t → us.getD t (0, 0) = L.getD t (0, 0)
theorem take_succ_D {L : List Gr} {k : Nat} (h : k < L.length) : L.take (k + 1) = L.take k ++ [L.getD k (0, 0)] := by
  rw [List.take_add_one]
  simp [List.getD, h]
theorem take_set_lt {us : List Gr} {i : Nat} {v : Gr} : (us.set i v).take i = us.take i := by
  apply List.ext_getElem?
  intro j
  by_cases hj : j < i
  · rw [List.getElem?_take_of_lt hj, List.getElem?_take_of_lt hj, List.getElem?_set_ne (by omega)]
  · rw [List.getElem?_eq_none (by rw [List.length_take]; omega), List.getElem?_eq_none (by rw [List.length_take]; omega)]
theorem filter_all_take {p : Gr → Bool} {L : List Gr} : ∀ {k : Nat}, k ≤ L.length → (∀ t, t < k → p (L.getD t (0, 0)) = true) → (L.take k).filter p = L.take k := fun {k} hk h => by
  refine List.filter_eq_self.2 fun a ha => ?_
  obtain ⟨t, ht, e⟩ := List.getElem_of_mem ha
  rw [List.length_take] at ht
  have h1 := h t (by omega)
  rw [List.getElem_take] at e
  have e2 : L.getD t (0, 0) = a := by
    rw [List.getD_eq_getElem?_getD, List.getElem?_eq_getElem (by omega)]
    exact e
  rwa [e2] at h1
theorem Kept.start {p : Gr → Bool} {L : List Gr} {k : Nat} (hk : k < L.length) (h : ∀ t, t < k → p (L.getD t (0, 0)) = true) (h2 : p (L.getD k (0, 0)) = false) : Kept p L k (k + 1) L := by
  refine ⟨rfl, Nat.lt_succ_self _, hk, ?_, fun t _ => rfl⟩
  rw [take_succ_D hk, List.filter_append, filter_all_take (Nat.le_of_lt hk) h, List.filter_cons_of_neg (by rw [h2]; decide), List.filter_nil, List.append_nil]
theorem Kept.keep {p : Gr → Bool} {L : List Gr} {i j : Nat} {us : List Gr} (h : Kept p L i j us) (hj : j < L.length) (hp : p (L.getD j (0, 0)) = true) : Kept p L (i + 1) (j + 1) (us.set i (L.getD j (0, 0))) := by
  have hl := h.len
  have hlt := h.lt
  refine ⟨by rw [List.length_set]; exact h.len, by omega, hj, ?_, fun t ht => ?_⟩
  · rw [take_succ_D (by rw [List.length_set]; omega), take_set_lt, take_succ_D hj, List.filter_append, ← h.low]
    congr 1
    rw [List.filter_cons_of_pos hp, List.filter_nil]
    congr 1
    rw [List.getD_eq_getElem?_getD, List.getElem?_set_self (by omega)]
    rfl
  · rw [← h.high t (by omega), List.getD_eq_getElem?_getD, List.getElem?_set_ne (by omega), ← List.getD_eq_getElem?_getD]
theorem Kept.skip {p : Gr → Bool} {L : List Gr} {i j : Nat} {us : List Gr} (h : Kept p L i j us) (hj : j < L.length) (hp : p (L.getD j (0, 0)) = false) : Kept p L i (j + 1) us := by
  have hlt := h.lt
  refine ⟨h.len, by omega, hj, ?_, fun t ht => h.high t (by omega)⟩
  rw [take_succ_D hj, List.filter_append, ← h.low, List.filter_cons_of_neg (by rw [hp]; decide), List.filter_nil, List.append_nil]
theorem Kept.done {p : Gr → Bool} {L : List Gr} {i j : Nat} {us : List Gr} (h : Kept p L i j us) (hj : j = L.length) : us.take i = L.filter p ∧ (L.filter p).length = i ∧ i < L.length := by
  have h1 := h.low
  have hlt := h.lt
  subst hj
  rw [List.take_length] at h1
  refine ⟨h1, ?_, hlt⟩
  rw [← h1, List.length_take, h.len]
  omega
theorem filter_none {p : Gr → Bool} {L : List Gr} (h : ∀ t, t < L.length → p (L.getD t (0, 0)) = true) : L.filter p = L := by
  have := filter_all_take (p := p) (L := L) (Nat.le_refl _) h
  rwa [List.take_length] at this
/-- Which gears are kept: those that are crossed, or the others. -/
def keepG (x : Trn) (lm : Int) (b : Bool) (g : Gr) : Bool := crossB x lm (plG g) == b
def crossI (x : Trn) (lm : Int) : List Gr := (ordI x).filter (keepG x lm true)
theorem keep_usable (x : Trn) (lm : Int) : (ordI x).filter (keepG x lm false) = usableI x lm := by
  unfold usableI
  congr 1
  funext g
  unfold keepG
  cases crossB x lm (plG g) <;> rfl
theorem keep_not {x : Trn} {lm : Int} {b : Bool} {g : Gr} {v : Bool} (h : (crossB x lm (plG g) != b) = v) : keepG x lm b g = !v := by
  unfold keepG
  rw [← h]
  cases crossB x lm (plG g) <;> cases b <;> rfl
theorem cross_mem {x : Trn} {lm : Int} {g : Gr} : g ∈ crossI x lm ↔ g ∈ ordI x ∧ crossB x lm (plG g) = true := by
  unfold crossI keepG
  rw [List.mem_filter]
  simp
theorem ordI_nodup (x : Trn) : (ordI x).Nodup := by
  have h := ordTo_perm x (x.f.length * x.r.length)
  have : (allG x (x.f.length * x.r.length)).Nodup := by
    unfold allG
    rw [List.nodup_iff_pairwise_ne, List.pairwise_map]
    refine List.Pairwise.imp_of_mem ?_ List.nodup_range
    intro a b ha hb hne e
    rw [List.mem_range] at ha hb
    apply hne
    unfold nthG at e
    have hr : 0 < x.r.length := Nat.pos_of_ne_zero fun h0 => by rw [h0] at ha; simp at ha
    have e1 := congrArg Prod.fst e
    have e2 := congrArg Prod.snd e
    simp only at e1 e2
    rw [← Nat.div_add_mod a x.r.length, ← Nat.div_add_mod b x.r.length, e1, e2]
  exact (h.nodup_iff).2 this
theorem cross_nodup (x : Trn) (lm : Int) : (crossI x lm).Nodup := (ordI_nodup x).filter _
theorem cross_few (x : Trn) (lm : Int) : (crossI x lm).length ≤ (ordI x).length := List.length_filter_le _ _
theorem plG_inj {a b : Gr} (h : plG a = plG b) : a = b := by
  unfold plG at h
  have e1 := congrArg Prod.fst h
  have e2 := congrArg Prod.snd h
  simp only at e1 e2
  exact Prod.ext (by omega) (by omega)
theorem contains_pl (L : List Gr) (g : Gr) : (L.map plG).contains (plG g) = L.contains g := by
  rw [Bool.eq_iff_iff]
  simp only [List.contains_eq_mem, decide_eq_true_eq]
  constructor
  · intro h
    obtain ⟨u, h1, h2⟩ := List.mem_map.1 h
    exact plG_inj h2 ▸ h1
  · intro h
    exact List.mem_map.2 ⟨g, h, rfl⟩
end Go.Proofs.Ythedanpldebjcaa
