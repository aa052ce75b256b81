/- Contracts of the laws' helpers likeInts, hasInt, sum; facts of the sorted list. -/
import Derived.Test.YtgdibahflhlakaaDraw5
import Derived.Test.YtgdibahflhlakaaSort3
namespace Go.Proofs.Ytgdibahflhlakaa
open Go.RowKit

theorem likeInts_same (A B : Option Addr) (n c d : Nat) (zs : List Int) (la ha lb hb : Nat) (w : World) (h1 : Rd w la ha A n (ints zs)) (h2 : Rd w lb hb B n (ints zs)) (hn : n * 8 ≤ 140737488355328) :
    Calls Try.prog 12 #[.slice A n c, .slice B n d] w (Only (.bool true) w) := by
  have hl : zs.length = n := by have := h1.len; rwa [ints_len] at this
  have hq : ((n : Int) != (n : Int)) = false := by simp
  go_enter Try.func12, Try.ntmps12
  go_wp2_with fail
  go_loopw [5] (fun i wr => ∃ k m : Nat, k ≤ n ∧ i = .int .i64 k ∧ wr = w.drewN m) (fun i _ => n - (intOf i).toNat)
  case atStart => exact ⟨0, 0, Nat.zero_le _, rfl, rfl⟩
  case round =>
    obtain ⟨k, m, hk, rfl, rfl⟩ := hrel
    by_cases hlt : k < n
    · obtain ⟨b1, o1, rfl, p1, q1, c1⟩ := h1.at_ hlt
      obtain ⟨b2, o2, rfl, p2, q2, c2⟩ := h2.at_ hlt
      have hcell1 : w.cell? ⟨b1, o1 + k, none⟩ = some (.int .i64 (zs.getD k 0)) := c1 k _ (ints_at zs k (by omega))
      have hcell2 : w.cell? ⟨b2, o2 + k, none⟩ = some (.int .i64 (zs.getD k 0)) := c2 k _ (ints_at zs k (by omega))
      generalize zs.getD k 0 = x at hcell1 hcell2
      have hxx : (x != x) = false := by simp
      clear c1 c2 h1 h2
      go_wp2_with fail
      go_quiet (fail)
      go_wp2_with fail
      go_roundw
      case rel => exact ⟨k + 1, _, by omega, by go_num, rfl⟩
      case measure => simp [intOf]; omega
    · obtain rfl : k = n := by omega
      go_wp2_with fail
      go_ret
      exact ⟨rfl, m, rfl⟩

theorem hasInt_mem (A : Option Addr) (n cap : Nat) (zs : List Int) (lo hi : Nat) (x : Int) (w : World) (h : Rd w lo hi A n (ints zs)) (hx : x ∈ zs) (hn : n * 8 ≤ 140737488355328) :
    Calls Try.prog 15 #[.slice A n cap, .int .i64 x] w fun e w' => e = .returned (.bool true) ∧ w = w' := by
  have hl : zs.length = n := by have := h.len; rwa [ints_len] at this
  go_enter Try.func15, Try.ntmps15
  go_wp2_with fail
  go_loopw [5] (fun i wr => ∃ k : Nat, k ≤ n ∧ i = .int .i64 k ∧ wr = w ∧ ∀ j, j < k → ¬ zs.getD j 0 = x) (fun i _ => n - (intOf i).toNat)
  case atStart => exact ⟨0, Nat.zero_le _, rfl, rfl, fun j hj => absurd hj (by omega)⟩
  case round =>
    obtain ⟨k, hk, rfl, rfl, hno⟩ := hrel
    have HNO := Go.Lib.hid hno
    clear hno
    by_cases hlt : k < n
    · obtain ⟨b1, o1, rfl, p1, q1, c1⟩ := h.at_ hlt
      have hcell1 : wr.cell? ⟨b1, o1 + k, none⟩ = some (.int .i64 (zs.getD k 0)) := c1 k _ (ints_at zs k (by omega))
      obtain ⟨y, hy⟩ : ∃ y, y = zs.getD k 0 := ⟨_, rfl⟩
      rw [← hy] at hcell1
      have HY := Go.Lib.hid hy
      clear c1 h hy
      by_cases hyx : y = x
      · have hyb : (y == x) = true := by simpa using hyx
        have HYX := Go.Lib.hid hyx
        clear hyx
        go_wp2_with fail
        go_ret
        exact ⟨rfl, rfl⟩
      · have hyb : (y == x) = false := by simpa using hyx
        have HYX := Go.Lib.hid hyx
        clear hyx
        go_wp2_with fail
        go_roundw
        case rel => exact ⟨k + 1, by omega, by go_num, trivial, fun j hj => by
          rcases Nat.lt_or_ge j k with h1 | h1
          · exact HNO.out j h1
          · obtain rfl : j = k := by omega
            rw [← HY.out]; exact HYX.out⟩
        case measure => simp [intOf]; omega
    · exfalso
      obtain ⟨i, hi, rfl⟩ := List.getElem_of_mem hx
      refine HNO.out i (by omega) ?_
      simp [List.getD, hi]

theorem sum_bd (zs : List Int) (h : ∀ z ∈ zs, Fair z) : -(1000000000001 * (zs.length : Int)) ≤ zs.sum ∧ zs.sum ≤ 1000000000001 * (zs.length : Int) := by
  induction zs with
  | nil => simp
  | cons z zs ih =>
    have h1 := ih fun y hy => h y (List.mem_cons_of_mem _ hy)
    have h2 : Fair z := h z List.mem_cons_self
    unfold Fair at h2
    simp only [List.sum_cons, List.length_cons]
    omega

theorem sumInts (A : Option Addr) (n cap : Nat) (zs : List Int) (lo hi : Nat) (w : World) (h : Rd w lo hi A n (ints zs)) (hf : ∀ z ∈ zs, Fair z) (hn : n ≤ 61) :
    Calls Try.prog 16 #[.slice A n cap] w fun e w' => e = .returned (.int .i64 zs.sum) ∧ w = w' := by
  have hl : zs.length = n := by have := h.len; rwa [ints_len] at this
  go_enter Try.func16, Try.ntmps16
  go_wp2_with fail
  go_loopw [3, 4] (fun t i wr => ∃ k : Nat, k ≤ n ∧ i = .int .i64 k ∧ wr = w ∧ t = .int .i64 (zs.take k).sum) (fun _ i _ => n - (intOf i).toNat)
  case atStart => exact ⟨0, Nat.zero_le _, rfl, rfl, by simp⟩
  case round =>
    obtain ⟨k, hk, rfl, rfl, rfl⟩ := hrel
    by_cases hlt : k < n
    · obtain ⟨b1, o1, rfl, p1, q1, c1⟩ := h.at_ hlt
      have hcell1 : wr.cell? ⟨b1, o1 + k, none⟩ = some (.int .i64 (zs.getD k 0)) := c1 k _ (ints_at zs k (by omega))
      have hbd := sum_bd (zs.take k) fun z hz => hf z (List.mem_of_mem_take hz)
      have hx : Fair (zs.getD k 0) := hf _ (by
        have : k < zs.length := by omega
        simp [List.getD, this])
      have hsum : (zs.take (k + 1)).sum = (zs.take k).sum + zs.getD k 0 := by
        have : k < zs.length := by omega
        have e : zs.take (k + 1) = zs.take k ++ [zs.getD k 0] := by
          rw [List.take_add_one]
          simp [List.getD, this]
        rw [e, List.sum_append]
        simp
      have HS := Go.Lib.hid hsum
      unfold Fair at hx
      have hlen : (zs.take k).length = k := by rw [List.length_take]; omega
      rw [hlen] at hbd
      generalize zs.getD k 0 = x at hcell1 hx HS
      generalize (zs.take k).sum = t at hbd HS ⊢
      obtain ⟨hb0, hb1⟩ := hbd
      obtain ⟨hx0, hx1⟩ := hx
      clear c1 h hf hsum hlen
      go_wp2_with fail
      go_roundw
      case rel => exact ⟨k + 1, by omega, by go_num, trivial, by rw [HS.out]⟩
      case measure => simp [intOf]; omega
    · obtain rfl : k = n := by omega
      go_wp2_with fail
      go_ret
      rw [List.take_of_length_le (by omega)]
      exact ⟨rfl, rfl⟩

theorem codeB_perm {a b : List Int} (h : a.Perm b) : codeB a = codeB b := by
  have ha : a.all okVal = b.all okVal := by
    rw [Bool.eq_iff_iff, List.all_eq_true, List.all_eq_true]
    exact ⟨fun f x hx => f x (h.mem_iff.2 hx), fun f x hx => f x (h.mem_iff.1 hx)⟩
  unfold codeB
  rw [ha, h.length_eq]
theorem sortR_perm {zs : List Int} (h : codeB zs = 0) : (sortR zs).Perm zs := by
  rw [sortR_good h]
  exact List.mergeSort_perm _ _
theorem sortR_pair {zs : List Int} (h : codeB zs = 0) : (sortR zs).Pairwise (· ≤ ·) := by
  rw [sortR_good h]
  have := List.pairwise_mergeSort (le := fun (x y : Int) => decide (x ≤ y)) (fun a b c h1 h2 => by simp only [decide_eq_true_eq] at *; omega) (fun a b => by simp only [Bool.or_eq_true, decide_eq_true_eq]; omega) zs
  simpa using this
theorem sortR_idem {zs : List Int} (h : codeB zs = 0) : codeB (sortR zs) = 0 ∧ sortR (sortR zs) = sortR zs := by
  have hc : codeB (sortR zs) = 0 := (codeB_perm (sortR_perm h)).trans h
  refine ⟨hc, ?_⟩
  exact (sortR_perm hc).eq_of_pairwise (fun a b _ _ h1 h2 => by omega) (sortR_pair hc) (sortR_pair h)
end Go.Proofs.Ytgdibahflhlakaa
