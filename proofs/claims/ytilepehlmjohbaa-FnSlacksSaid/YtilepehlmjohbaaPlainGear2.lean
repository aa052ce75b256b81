/- Numbers of chapter 9: what the laws that draw say of gears. No program. -/
import Derived.Test.YtilepehlmjohbaaPlainGear
namespace Go.Proofs.Ytilepehlmjohbaa

theorem devI_mono {x : Trn} (h : Train x) {a b : Gr} (ha : GOk x a) (hb : GOk x b) (hle : leG x a b) : devI x a ≤ devI x b := by
  have h1 := h.fb ha
  have h2 := h.rb ha
  have h3 := h.fb hb
  have h4 := h.rb hb
  have hn := h.n0
  unfold leG at hle
  unfold devI
  generalize fI x a.1 = fa at *
  generalize rI x a.2 = ra at *
  generalize fI x b.1 = fb at *
  generalize rI x b.2 = rb at *
  generalize x.n = n at *
  rw [Int.le_ediv_iff_mul_le (by omega)]
  have hq : (2 * (n * fa) + ra) / (2 * ra) * (2 * ra) ≤ 2 * (n * fa) + ra := Int.ediv_mul_le _ (by omega)
  generalize (2 * (n * fa) + ra) / (2 * ra) = q at *
  refine Int.le_of_mul_le_mul_left ?_ (show (0 : Int) < ra by omega)
  have e1 : ra * (q * (2 * rb)) = q * (2 * ra) * rb := by
    rw [Int.mul_comm ra, Int.mul_assoc, Int.mul_assoc, Int.mul_assoc, Int.mul_assoc, Int.mul_comm rb ra]
  have h5 := Int.mul_le_mul_of_nonneg_right hq (show 0 ≤ rb by omega)
  have h6 : (2 * (n * fa) + ra) * rb ≤ ra * (2 * (n * fb) + rb) := by
    have h7 := Int.mul_le_mul_of_nonneg_left hle (show 0 ≤ 2 * n by omega)
    have e2 : (2 * (n * fa) + ra) * rb = 2 * n * (fa * rb) + ra * rb := by
      rw [Int.add_mul, Int.mul_assoc, Int.mul_assoc, Int.mul_assoc]
    have e3 : ra * (2 * (n * fb) + rb) = 2 * n * (fb * ra) + ra * rb := by
      rw [Int.mul_add, Int.mul_comm ra (2 * (n * fb)), Int.mul_assoc, Int.mul_assoc, Int.mul_assoc]
    rw [e2, e3]
    omega
  rw [e1]
  exact Int.le_trans h5 h6
theorem nearTo_best (x : Trn) (d : Int) (gs : List Gr) : ∀ k i, i < k → farI x d (nearTo x d gs k) ≤ farI x d (gs.getD i (0, 0))
  | 0, i, hi => absurd hi (by omega)
  | k + 1, i, hi => by
    rw [nearTo]
    split
    · rename_i h
      rcases Nat.lt_or_ge i k with h1 | h1
      · have := nearTo_best x d gs k i h1
        omega
      · obtain rfl : i = k := by omega
        exact Int.le_refl _
    · rename_i h
      rcases Nat.lt_or_ge i k with h1 | h1
      · exact nearTo_best x d gs k i h1
      · obtain rfl : i = k := by omega
        omega
theorem speedI_mono {x : Trn} (h : Train x) {g : Gr} (hg : GOk x g) {c c2 : Int} (hc : c ≤ c2) : speedI x g c ≤ speedI x g c2 := by
  have h1 := h.fb hg
  have h2 := h.rb hg
  have hn := h.n0
  unfold speedI
  refine Int.ediv_le_ediv (by omega) (Int.mul_le_mul_of_nonneg_right (Int.mul_le_mul_of_nonneg_right (by omega) (by omega)) (by omega))
theorem cadTo_ok {x : Trn} {g : Gr} {s : Int} : ∀ {m : Nat} {c r : Int}, cadTo x g s c m = (r, 0) → c ≤ r ∧ r < c + m ∧ s ≤ speedI x g r ∧ (r = c ∨ speedI x g (r - 1) < s)
  | 0, c, r, h => by simp [cadTo] at h
  | m + 1, c, r, h => by
    rw [cadTo] at h
    split at h
    · rename_i hs
      obtain rfl : c = r := congrArg Prod.fst h
      exact ⟨Int.le_refl _, by omega, hs, .inl rfl⟩
    · rename_i hs
      obtain ⟨h1, h2, h3, h4⟩ := cadTo_ok h
      refine ⟨by omega, by omega, h3, .inr ?_⟩
      rcases h4 with rfl | h4
      · rw [Int.add_sub_cancel]
        omega
      · exact h4
theorem stepG_same {x : Trn} {a b : Gr} (h : sameG x a b = true) : stepG x a b = 0 := by
  unfold sameG at h
  rw [decide_eq_true_eq] at h
  unfold stepG
  rw [h, Int.sub_self, Int.mul_zero, Int.zero_ediv]
theorem stepG_pos {x : Trn} (h : Train x) {a b : Gr} (ha : GOk x a) (hb : GOk x b) (hle : leG x a b) : 0 ≤ stepG x a b := by
  have h1 := h.fb ha
  have h4 := h.rb hb
  unfold leG at hle
  unfold stepG
  refine Int.ediv_nonneg ?_ (Int.mul_nonneg (by omega) (by omega))
  omega
def zerosOf (zs : List Int) : Nat := (zs.filter fun z => decide (z = 0)).length
theorem equal_zeros (x : Trn) (gs : List Gr) : ∀ k, (equalTo x gs k).length ≤ zerosOf (stepsTo x gs k)
  | 0 => by simp [equalTo, zerosOf]
  | k + 1 => by
    have ih := equal_zeros x gs k
    unfold equalTo zerosOf stepsTo at *
    rw [List.range_succ, List.filter_append, List.map_append, List.map_append, List.filter_append, List.length_append, List.length_append]
    have hl : ((List.map (fun i => gs.getD (i + 1) (0, 0)) (List.filter (fun i => sameG x (gs.getD i (0, 0)) (gs.getD (i + 1) (0, 0))) [k])).length ≤ (List.filter (fun z => decide (z = 0)) (List.map (fun i => stepG x (gs.getD i (0, 0)) (gs.getD (i + 1) (0, 0))) [k])).length) := by
      by_cases h : sameG x (gs.getD k (0, 0)) (gs.getD (k + 1) (0, 0)) = true
      · have h0 := stepG_same h
        rw [List.filter_cons, if_pos h, List.filter_nil, List.map_cons, List.map_nil, List.map_cons, List.map_nil, List.filter_cons, if_pos (by simpa using h0)]
        simp
      · rw [List.filter_cons, if_neg h, List.filter_nil]
        simp
    omega
theorem Teeth.le_last {lo hi most : Int} {zs : List Int} (h : Teeth lo hi most zs) : zs.getD 0 0 ≤ zs.getD (zs.length - 1) 0 := by
  have h1 := h.one
  rcases Nat.lt_or_ge 1 zs.length with h2 | h2
  · exact Int.le_of_lt (h.up 0 (zs.length - 1) (by omega) (by omega))
  · rw [show zs.length - 1 = 0 by omega]
    exact Int.le_refl _
theorem rangeI_big {x : Trn} (h : Train x) : 100 ≤ rangeI x := by
  have h1 := h.f.one
  have h2 := h.r.one
  have f0 : 20 ≤ fI x 0 ∧ fI x 0 ≤ 60 := h.f.rng 0 (by omega)
  have r0 : 9 ≤ rI x 0 ∧ rI x 0 ≤ 52 := h.r.rng 0 (by omega)
  have fl : fI x 0 ≤ fI x (x.f.length - 1) := h.f.le_last
  have rl : rI x 0 ≤ rI x (x.r.length - 1) := h.r.le_last
  unfold rangeI
  generalize fI x (x.f.length - 1) = a at *
  generalize rI x (x.r.length - 1) = b at *
  generalize fI x 0 = p at *
  generalize rI x 0 = q at *
  have hp : 0 < p * q := Int.mul_pos (by omega) (by omega)
  rw [Int.le_ediv_iff_mul_le hp]
  have := Int.mul_le_mul fl rl (by omega) (by omega)
  rw [Int.mul_assoc]
  omega
end Go.Proofs.Ytilepehlmjohbaa
