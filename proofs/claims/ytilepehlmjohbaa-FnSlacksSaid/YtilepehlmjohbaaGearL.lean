/- What the laws of chapter 9 say, in numbers. No program. -/
import Derived.Test.YtilepehlmjohbaaPlainGear4
import Derived.Test.YtilepehlmjohbaaPlainGear2
import Derived.Test.YtilepehlmjohbaaMgSlacks1
import Derived.Test.YtilepehlmjohbaaEqZ
namespace Go.Proofs.Ytilepehlmjohbaa
set_option linter.unusedSimpArgs false
set_option linter.unusedVariables false

theorem GivesG.rd {p : List (List Int) × Int} {w w' : World} {e : Ending} (h : GivesG p w e w') : GivesR p w e w' := by
  obtain ⟨A, cap, a, c, G, g, he, hg, b⟩ := h
  exact ⟨A, cap, he, hg.rdZ, b⟩
theorem speedR_ok {x : Trn} {f r n s : Int} (h : speedR x f r n = (s, 0)) : trainB x = true ∧ gearB x f r = true ∧ (0 ≤ n ∧ n ≤ 200) ∧ s = speedI x (f.toNat, r.toNat) n := by
  unfold speedR at h
  by_cases ht : trainB x = true
  · rw [if_pos ht] at h
    by_cases hg : (gearB x f r && (decide (0 ≤ n) && decide (n ≤ 200))) = true
    · rw [if_pos hg] at h
      simp only [Bool.and_eq_true, decide_eq_true_eq] at hg
      injection h with h1 h2
      exact ⟨ht, hg.1, hg.2, h1.symm⟩
    · rw [if_neg hg] at h
      injection h with h1 h2
      exact absurd h2 (by decide)
  · rw [if_neg ht] at h
    injection h with h1 h2
    exact absurd h2 (by decide)
theorem speedR_at {x : Trn} {f r n : Int} (ht : trainB x = true) (hg : gearB x f r = true) (h0 : 0 ≤ n) (h1 : n ≤ 200) : speedR x f r n = (speedI x (f.toNat, r.toNat) n, 0) := by
  unfold speedR
  rw [if_pos ht, if_pos (by rw [hg]; simp [h0, h1])]
theorem speed_next {x : Trn} {f r n s : Int} (h : speedR x f r n = (s, 0)) (hn : n < 200) : 0 ≤ n ∧ ∃ m, speedR x f r (n + 1) = (m, 0) ∧ s ≤ m := by
  obtain ⟨ht, hg, ⟨h0, h1⟩, rfl⟩ := speedR_ok h
  refine ⟨h0, _, speedR_at ht hg (by omega) (by omega), ?_⟩
  exact speedI_mono (trainB_ok ht) (gearB_ok hg).2.2 (by omega)
theorem cad_reach {x : Trn} {f r s c : Int} (h : cadR x f r s = (c, 0)) : 0 ≤ c ∧ c ≤ 200 ∧ (∃ v, speedR x f r c = (v, 0) ∧ s ≤ v) ∧ (c ≠ 0 → ∃ u, speedR x f r (c - 1) = (u, 0) ∧ u < s) := by
  unfold cadR at h
  by_cases ht : trainB x = true
  · rw [if_pos ht] at h
    by_cases hg : (gearB x f r && (decide (0 ≤ s) && decide (s ≤ 200000))) = true
    · rw [if_pos hg] at h
      simp only [Bool.and_eq_true, decide_eq_true_eq] at hg
      obtain ⟨c0, c1, c2, c3⟩ := cadTo_ok h
      have c4 : c ≤ 200 := by omega
      refine ⟨c0, c4, ⟨_, speedR_at ht hg.1 c0 c4, c2⟩, fun hc => ?_⟩
      rcases c3 with e | e
      · exact absurd e hc
      · exact ⟨_, speedR_at ht hg.1 (by omega) (by omega), e⟩
    · rw [if_neg hg] at h
      injection h with h1 h2
      exact absurd h2 (by decide)
  · rw [if_neg ht] at h
    injection h with h1 h2
    exact absurd h2 (by decide)
/-- What FnGearSteps looks at. -/
structure StepsOk (x : Trn) (es : List (List Int)) (ss : List Int) (rg : Int) : Prop where
  f : x.f.length ≤ 3
  r : x.r.length ≤ 12
  some_ : 1 ≤ x.f.length * x.r.length
  len : ss.length + 1 = x.f.length * x.r.length
  pos : ∀ k, k < ss.length → 0 ≤ ss.getD k 0
  zeros : es.length ≤ zerosOf ss
  big : 100 ≤ rg
theorem zerosOf_succ {ss : List Int} {k : Nat} (h : k < ss.length) : zerosOf (ss.take (k + 1)) = zerosOf (ss.take k) + (if ss.getD k 0 = 0 then 1 else 0) := by
  unfold zerosOf
  rw [List.take_add_one, List.filter_append, List.length_append]
  simp only [List.getElem?_eq_getElem h, Option.toList, List.getD_eq_getElem?_getD, Option.getD]
  by_cases e : ss[k] = 0 <;> simp [e]
theorem zerosOf_le (ss : List Int) : zerosOf ss ≤ ss.length := List.length_filter_le _ _
theorem stepsTo_at {x : Trn} {gs : List Gr} {n k : Nat} (h : k < n) : (stepsTo x gs n).getD k 0 = stepG x (gs.getD k (0, 0)) (gs.getD (k + 1) (0, 0)) := by
  simp [stepsTo, List.getD, h]
theorem gear_steps (x : Trn) : ∃ es ss rg q, equalR x = (es, q) ∧ stepsR x = (ss, q) ∧ rangeR x = (rg, q) ∧ (q = 0 ∨ q = 1) ∧ (q = 0 → StepsOk x es ss rg) ∧ es.length ≤ 36 ∧ ss.length ≤ 36 := by
  unfold equalR stepsR rangeR
  by_cases ht : trainB x = true
  · have hx := trainB_ok ht
    have hl := ordI_len x
    have h1 := ordI_one hx
    have h36 := ordI_few hx
    have hsl : (stepsTo x (ordI x) ((ordI x).length - 1)).length = (ordI x).length - 1 := stepsTo_len ..
    have hel := equalTo_len x (ordI x) ((ordI x).length - 1)
    refine ⟨rowsG (equalTo x (ordI x) ((ordI x).length - 1)), stepsTo x (ordI x) ((ordI x).length - 1), rangeI x, 0, by rw [if_pos ht], by rw [if_pos ht], by rw [if_pos ht], .inl rfl, fun _ => ?_, by rw [rowsG_len]; omega, by omega⟩
    refine ⟨by have := hx.f.few; omega, by have := hx.r.few; omega, by omega, by omega, fun k hk => ?_, ?_, rangeI_big hx⟩
    · rw [stepsTo_at (by omega)]
      exact stepG_pos hx (ordI_ok (mem_getD (by omega))) (ordI_ok (mem_getD (by omega))) ((ordI_up x).at_ (by omega))
    · rw [rowsG_len]
      exact equal_zeros x (ordI x) _
  · exact ⟨[], [], 0, 1, by rw [if_neg ht], by rw [if_neg ht], by rw [if_neg ht], .inr rfl, fun h => absurd h (by decide), by simp, by simp⟩
/-- What FnGears looks at. -/
structure GearsOk (x : Trn) (wanted : Int) (L : List Gr) (f r nd : Int) : Prop where
  len : L.length = x.f.length * x.r.length
  fl : x.f.length ≤ 3
  rl : x.r.length ≤ 12
  one : 1 ≤ L.length
  near : devR x f r = (nd, 0)
  nd0 : 0 ≤ nd ∧ nd ≤ 20000
  w0 : 0 ≤ wanted ∧ wanted ≤ 20000
  dev : ∀ k, k < L.length → devR x (L.getD k (0, 0)).1 (L.getD k (0, 0)).2 = (devI x (L.getD k (0, 0)), 0)
  bd : ∀ k, k < L.length → 0 ≤ devI x (L.getD k (0, 0)) ∧ devI x (L.getD k (0, 0)) ≤ 20000
  far : ∀ k, k < L.length → ¬ max (devI x (L.getD k (0, 0)) - wanted) (wanted - devI x (L.getD k (0, 0))) < max (nd - wanted) (wanted - nd)
  up : ∀ k, k + 1 < L.length → devI x (L.getD k (0, 0)) ≤ devI x (L.getD (k + 1) (0, 0))
theorem devR_at {x : Trn} (ht : trainB x = true) {g : Gr} (hg : GOk x g) : devR x g.1 g.2 = (devI x g, 0) := by
  unfold devR
  have h : gearB x g.1 g.2 = true := by
    have h1 := hg.1
    have h2 := hg.2
    unfold gearB
    simp only [Bool.and_eq_true, decide_eq_true_eq]
    omega
  rw [if_pos ht, if_pos h]
  rfl
theorem nearTo_mem (x : Trn) (d : Int) (gs : List Gr) (h : 1 ≤ gs.length) : ∀ k, k ≤ gs.length → nearTo x d gs k ∈ gs
  | 0, _ => mem_getD (by omega)
  | k + 1, hk => by
    show (if _ then _ else _) ∈ gs
    split
    · exact mem_getD (by omega)
    · exact nearTo_mem x d gs h k (by omega)
theorem far_eq (x : Trn) (d : Int) (g : Gr) : farI x d g = max (devI x g - d) (d - devI x g) := by
  unfold farI
  rw [show -(devI x g - d) = d - devI x g by omega]
theorem gears_law (x : Trn) (wanted : Int) : ∃ f r q os q2 L, nearR x wanted = (f, r, q) ∧ orderR x = (os, q2) ∧ os.length ≤ 36 ∧ (trainB x = decide (q2 = 0)) ∧ os = rowsG L ∧ L.length ≤ 36 ∧ (q = 0 → q2 = 0 ∧ ∃ nd, GearsOk x wanted L f r nd) := by
  by_cases ht : trainB x = true
  · have hx := trainB_ok ht
    have h36 := ordI_few hx
    have h1 := ordI_one hx
    have ho : orderR x = (rowsG (ordI x), 0) := by unfold orderR; rw [if_pos ht]
    by_cases hw : (decide (0 ≤ wanted) && decide (wanted ≤ 20000)) = true
    · have hw' : 0 ≤ wanted ∧ wanted ≤ 20000 := by simpa using hw
      have hn : nearR x wanted = (((nearI x wanted).1 : Int), ((nearI x wanted).2 : Int), 0) := by unfold nearR; rw [if_pos ht, if_pos hw]
      have hmem : nearI x wanted ∈ ordI x := nearTo_mem x wanted (ordI x) h1 _ (Nat.le_refl _)
      refine ⟨_, _, _, _, _, ordI x, hn, ho, by rw [rowsG_len]; exact h36, by rw [ht]; rfl, rfl, h36, fun _ => ⟨rfl, devI x (nearI x wanted), ordI_len x, by have := hx.f.few; omega, by have := hx.r.few; omega, h1, devR_at ht (ordI_ok hmem), devI_bd hx (ordI_ok hmem), hw', fun k hk => devR_at ht (ordI_ok (mem_getD hk)), fun k hk => devI_bd hx (ordI_ok (mem_getD hk)), fun k hk => ?_, fun k hk => ?_⟩⟩
      · have := nearTo_best x wanted (ordI x) (ordI x).length k hk
        rw [far_eq, far_eq] at this
        show ¬ _ < max (devI x (nearTo x wanted (ordI x) (ordI x).length) - wanted) (wanted - devI x (nearTo x wanted (ordI x) (ordI x).length))
        omega
      · exact devI_mono hx (ordI_ok (mem_getD (by omega))) (ordI_ok (mem_getD hk)) ((ordI_up x).at_ hk)
    · have hn : nearR x wanted = (0, 0, 2) := by unfold nearR; rw [if_pos ht, if_neg hw]
      exact ⟨_, _, _, _, _, ordI x, hn, ho, by rw [rowsG_len]; exact h36, by rw [ht]; rfl, rfl, h36, fun h => absurd h (by decide)⟩
  · have hn : nearR x wanted = (0, 0, 1) := by unfold nearR; rw [if_neg ht]
    have ho : orderR x = ([], 1) := by unfold orderR; rw [if_neg ht]
    exact ⟨_, _, _, _, _, [], hn, ho, by simp, by rw [Bool.not_eq_true] at ht; rw [ht]; rfl, rfl, by simp, fun h => absurd h (by decide)⟩
end Go.Proofs.Ytilepehlmjohbaa
