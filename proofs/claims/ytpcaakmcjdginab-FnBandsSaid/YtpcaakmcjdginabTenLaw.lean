/- What chapter 7's drawn laws hold. -/
import Derived.Test.YtpcaakmcjdginabDrawTen2
import Derived.Test.YtpcaakmcjdginabTenX
import Derived.Test.YtpcaakmcjdginabLikesI
import Derived.Test.YtpcaakmcjdginabHasInt2
namespace Go.Proofs.Ytpcaakmcjdginab
open Go.RowKit
set_option linter.unusedSimpArgs false
set_option linter.unusedVariables false

set_option maxRecDepth 100000 in
set_option maxHeartbeats 4000000 in
theorem lawSum (A : Option Addr) (c : Nat) (zs : List Int) (w : World) (L : Ls zs A c w) (hr : rngB (-3000) 3000 zs = true) :
    Calls Try.prog 21 #[.slice A zs.length c] w (Just (.int .i64 zs.sum) w) := by
  have HL := Go.Lib.hid L
  have HR := Go.Lib.hid hr
  have hn := L.few
  clear L hr
  go_enter Try.func21, Try.ntmps21
  go_wp2_with fail
  go_loopw [3, 4] (fun t i wr => ∃ k : Nat, k ≤ zs.length ∧ i = .int .i64 k ∧ wr = w ∧ t = .int .i64 (zs.take k).sum) (fun _ i _ => zs.length - (intOf i).toNat)
  case atStart => exact ⟨0, Nat.zero_le _, rfl, rfl, by simp⟩
  case round =>
    obtain ⟨k, hk, rfl, rfl, rfl⟩ := hrel
    by_cases hlt : k < zs.length
    case pos =>
      obtain ⟨b, o, rfl, -, hc⟩ := HL.out.at_ hlt
      have hcell := hc k hlt
      have HS := Go.Lib.hid (sum_take_succ hlt)
      have hb := sum_take_bd HR.out k hk
      have hx := rngB_at HR.out hlt
      clear hc
      generalize zs.getD k 0 = x at *
      generalize (zs.take k).sum = t at *
      obtain ⟨hb0, hb1⟩ := hb
      obtain ⟨hx0, hx1⟩ := hx
      go_wp2_with fail
      go_roundw
      case rel => exact ⟨k + 1, by omega, by go_num, by first | rfl | trivial, by rw [HS.out]⟩
      case measure => simp [intOf]; omega
    case neg =>
      obtain rfl : k = zs.length := by omega
      rw [List.take_length]
      go_wp2_with fail
      go_ret
      exact ⟨rfl, rfl⟩
theorem rng_of {a b c d : Int} {zs : List Int} (h : rngB a b zs = true) (h1 : c ≤ a) (h2 : b ≤ d) : rngB c d zs = true := rngB_iff.2 fun z hz => by have := rngB_iff.1 h z hz; omega
theorem upI_spec {n d : Int} (hd : 0 < d) : n ≤ upI n d * d ∧ upI n d * d < n + d := by
  have h1 := Int.emod_nonneg (-n) (show d ≠ 0 by omega)
  have h2 := Int.emod_lt_of_pos (-n) hd
  have h3 := Int.mul_ediv_add_emod (-n) d
  unfold upI
  rw [Int.neg_mul, Int.mul_comm]
  omega
theorem upI_nonneg {n d : Int} (hd : 0 < d) (hn : 0 ≤ n) : 0 ≤ upI n d := by
  have h := upI_spec (n := n) hd
  by_cases h0 : 0 ≤ upI n d
  · exact h0
  · have := Int.mul_le_mul_of_nonneg_right (show upI n d ≤ -1 by omega) (show 0 ≤ d by omega)
    omega
theorem upI_pos {n d : Int} (hd : 0 < d) (hn : 0 < n) : 1 ≤ upI n d := by
  have h := upI_spec (n := n) hd
  by_cases h0 : 1 ≤ upI n d
  · exact h0
  · have := Int.mul_le_mul_of_nonneg_right (show upI n d ≤ 0 by omega) (show 0 ≤ d by omega)
    omega
theorem for_up {g m t k : Int} (hg : 0 < g) (h : m ≤ t) (hk : forI g m t = k) : 0 ≤ k ∧ t ≤ m + k * g ∧ m + (k - 1) * g < t := by
  unfold forI at hk
  rw [if_pos h] at hk
  subst hk
  have h1 := upI_spec (n := t - m) hg
  have h2 := upI_nonneg (n := t - m) hg (by omega)
  rw [Int.sub_mul]
  omega
theorem for_down {g m t k : Int} (hg : 0 < g) (h : ¬ m ≤ t) (hk : forI g m t = k) : k < 0 ∧ m + k * g ≤ t ∧ t < m + (k + 1) * g := by
  unfold forI at hk
  rw [if_neg h] at hk
  subst hk
  have h1 := upI_spec (n := m - t) hg
  have h2 := upI_pos (n := m - t) hg (by omega)
  rw [Int.add_mul, Int.neg_mul]
  omega
theorem for_bd {g m t k : Int} (hg : 0 < g) (hg2 : g ≤ 1600) (m0 : 0 ≤ m) (m1 : m ≤ 3000) (t0 : 0 ≤ t) (t1 : t ≤ 3000) (hk : forI g m t = k) : -10000 ≤ k ∧ k ≤ 10000 := by
  have h1 := upI_bd (n := t - m) hg (by omega) (by omega)
  have h2 := upI_bd (n := m - t) hg (by omega) (by omega)
  unfold forI at hk
  split at hk <;> omega
theorem for_cases (zs s : List Int) (t : Int) : (∃ e : Int, e ≠ 0 ∧ forR zs s t = (0, e)) ∨ (Ten zs ∧ Stiff s ∧ (0 ≤ t ∧ t ≤ 3000) ∧ forR zs s t = (forI (gainI s) (meanI zs) t, 0)) := by
  unfold forR
  by_cases h1 : (tenB zs && stiffB s) = true
  · rw [if_pos h1]
    rw [Bool.and_eq_true] at h1
    by_cases h2 : (decide (0 ≤ t) && decide (t ≤ 3000)) = true
    · rw [if_pos h2]
      exact .inr ⟨tenB_iff.1 h1.1, stiffB_iff.1 h1.2, by simpa using h2, rfl⟩
    · rw [if_neg h2]
      exact .inl ⟨2, by omega, rfl⟩
  · rw [if_neg h1]
    exact .inl ⟨1, by omega, rfl⟩
theorem mean_pair (zs : List Int) : ∃ m c, meanR zs = (m, c) := ⟨_, _, rfl⟩
theorem sum_pair (zs : List Int) : ∃ a c, sumR zs = (a, c) ∧ (c == 0) = tenB zs := by
  unfold sumR
  by_cases h : tenB zs = true
  · rw [if_pos h, h]; exact ⟨_, _, rfl, rfl⟩
  · rw [if_neg h]; rw [Bool.not_eq_true] at h; rw [h]; exact ⟨_, _, rfl, rfl⟩
theorem all_cases (zs s ts : List Int) : (∃ e : Int, e ≠ 0 ∧ turnAllR zs s ts = ([], e)) ∨ (Ten zs ∧ Stiff s ∧ rngB (-100) 100 ts = true ∧ ts.length = zs.length ∧ Ten (allTo zs.length zs ts s zs.length) ∧ turnAllR zs s ts = (allTo zs.length zs ts s zs.length, 0)) := by
  by_cases h0 : codeT zs s ts = 0
  · obtain ⟨ht, hs, hr, hl⟩ := code_good h0
    have e : turnAllR zs s ts = if tenB (allTo zs.length zs ts s zs.length) then (allTo zs.length zs ts s zs.length, 0) else ([], 3) := by simp [turnAllR, tenB_iff.2 ht, stiffB_iff.2 hs, hr, hl]
    by_cases hu : tenB (allTo zs.length zs ts s zs.length) = true
    · rw [if_pos hu] at e
      exact .inr ⟨ht, hs, hr, hl, tenB_iff.1 hu, e⟩
    · rw [if_neg hu] at e
      exact .inl ⟨3, by omega, e⟩
  · obtain ⟨z, hz, -, h⟩ := code_bad h0
    exact .inl ⟨z, hz, h⟩
theorem negI_rng {ts : List Int} (h : rngB (-100) 100 ts = true) : rngB (-100) 100 (negI ts) = true := rngB_of fun k hk => by
  rw [negI_len] at hk
  have := rngB_at h hk
  rw [negI_get]
  omega
theorem all_there {zs s ts : List Int} (ht : Ten zs) (hs : Stiff s) (hr : rngB (-100) 100 ts = true) (hl : ts.length = zs.length) (hu : Ten (allTo zs.length zs ts s zs.length)) : turnAllR (allTo zs.length zs ts s zs.length) s (negI ts) = (zs, 0) := by
  have hlen := allTo_len zs.length zs ts s zs.length
  unfold turnAllR
  rw [hlen, all_back, tenB_iff.2 hu, stiffB_iff.2 hs, negI_rng hr, negI_len, tenB_iff.2 ht]
  simp [hl]
theorem negI_snoc {ts : List Int} {k : Nat} (hk : k < ts.length) : negI (ts.take (k + 1)) = negI (ts.take k) ++ [-(ts.getD k 0)] := by
  rw [take_succ hk]
  simp [negI]
theorem out_cases (zs : List Int) (pc : Int) : (∃ e : Int, e ≠ 0 ∧ outR zs pc = ([], e)) ∨ (Ten zs ∧ (0 ≤ pc ∧ pc ≤ 100) ∧ outR zs pc = (idxI (farB (meanI zs) pc) zs zs.length, 0)) := by
  unfold outR
  by_cases h1 : tenB zs = true
  · rw [if_pos h1]
    by_cases h2 : (decide (0 ≤ pc) && decide (pc ≤ 100)) = true
    · rw [if_pos h2]
      exact .inr ⟨tenB_iff.1 h1, by simpa using h2, rfl⟩
    · rw [if_neg h2]
      exact .inl ⟨2, by omega, rfl⟩
  · rw [if_neg h1]
    exact .inl ⟨1, by omega, rfl⟩
theorem slack_cases (zs : List Int) (l : Int) : (∃ e : Int, e ≠ 0 ∧ slackR zs l = ([], e)) ∨ (Ten zs ∧ slackR zs l = (idxI (fun t => decide (t < l)) zs zs.length, 0)) := by
  unfold slackR
  by_cases h1 : tenB zs = true
  · rw [if_pos h1]
    by_cases h2 : (decide (0 ≤ l) && decide (l ≤ 3000)) = true
    · rw [if_pos h2]
      exact .inr ⟨tenB_iff.1 h1, rfl⟩
    · rw [if_neg h2]
      exact .inl ⟨2, by omega, rfl⟩
  · rw [if_neg h1]
    exact .inl ⟨1, by omega, rfl⟩
theorem spread_pair (zs : List Int) : ∃ a c, spreadR zs = (a, c) := ⟨_, _, rfl⟩
theorem slack_mem {zs : List Int} {l : Int} {k : Nat} (hk : k < zs.length) : decide ((k : Int) ∈ idxI (fun t => decide (t < l)) zs zs.length) = decide (zs.getD k 0 < l) := by
  rw [decide_eq_decide, idxI_mem]
  constructor
  · rintro ⟨i, hi, hp, e⟩
    obtain rfl : k = i := by omega
    simpa using hp
  · intro h
    exact ⟨k, hk, by simpa using h, rfl⟩
theorem narrow {zs : List Int} {pc x : Int} (ht : Ten zs) (p0 : 0 ≤ pc) (h : x ∈ idxI (farB (meanI zs) pc) zs zs.length) : x ∈ idxI (farB (meanI zs) 0) zs zs.length := by
  obtain ⟨i, hi, hp, e⟩ := idxI_mem.1 h
  refine idxI_mem.2 ⟨i, hi, ?_, e⟩
  have := Int.mul_nonneg p0 (meanI_bd ht).1
  simp only [farB, decide_eq_true_eq] at *
  rw [Int.zero_mul]
  omega
theorem flat {zs : List Int} (ht : Ten zs) (h : maxTo zs zs.length - minTo zs zs.length ≤ 0) : idxI (farB (meanI zs) 0) zs zs.length = [] := by
  have h4 := ht.lo
  have hall : ∀ i, i < zs.length → zs.getD i 0 = minTo zs zs.length := fun i hi => by
    have h1 := minTo_le (zs := zs) (Nat.le_refl _) i hi
    have h2 := maxTo_ge (zs := zs) (Nat.le_refl _) i hi
    omega
  have hr : rngB (minTo zs zs.length) (minTo zs zs.length) zs = true := rngB_of fun i hi => by have := hall i hi; omega
  have hs := sum_bd' hr
  have hsum : zs.sum = minTo zs zs.length * zs.length := by omega
  have hm : meanI zs = minTo zs zs.length := by
    unfold meanI
    rw [hsum]
    generalize minTo zs zs.length = v at *
    have e : 2 * (v * (zs.length : Int)) + zs.length = zs.length + v * (2 * (zs.length : Int)) := by
      rw [Int.mul_left_comm 2 v]; omega
    rw [e, Int.add_mul_ediv_right _ _ (by omega), Int.ediv_eq_zero_of_lt (by omega) (by omega)]
    omega
  apply List.eq_nil_iff_forall_not_mem.2
  intro x hx
  obtain ⟨i, hi, hp, -⟩ := idxI_mem.1 hx
  rw [hm, hall i hi] at hp
  simp only [farB, decide_eq_true_eq] at hp
  omega
theorem gainI_two (s : List Int) : gainI s = 2 * s.sum - s.getD 0 0 := rfl
end Go.Proofs.Ytpcaakmcjdginab
