/- Contracts of the square roots and of RootInterval, in both programs. -/
import Derived.Test.YtcknknicknolaaaIv2
import Derived.StillTailTactics
namespace Go.Proofs.Ytcknknicknolaaa
open Go.RowKit

theorem sqle {a b : Int} (h0 : 0 ≤ a) (h : a ≤ b) : a * a ≤ b * b := Int.mul_le_mul h h h0 (by omega)
theorem rootI_bd {n : Int} (h0 : 0 ≤ n) (h1 : n ≤ 1000000000) : 0 ≤ rootI n ∧ rootI n ≤ 31623 := by
  obtain ⟨a, b, c⟩ := rootI_ok h0
  refine ⟨a, ?_⟩
  rcases Int.lt_or_le (rootI n) 31624 with h | h
  · omega
  · have := sqle (a := 31624) (by omega) h
    omega

set_option maxRecDepth 100000 in
theorem specRoot (n : Int) (w : World) (h0 : 0 ≤ n) (h1 : n ≤ 1000000000) :
    Calls Try.prog 55 #[.int .i64 n] w fun e w' => e = .returned (.int .i64 (rootI n)) ∧ w = w' := by
  go_enter Try.func55, Try.ntmps55
  go_wp2_with fail
  go_loop [3, 4] (fun a b => ∃ l h : Int, a = .int .i64 l ∧ b = .int .i64 h ∧ 0 ≤ l ∧ l < h ∧ h ≤ 2000000001 ∧ l * l ≤ n ∧ n < h * h) (fun a b => (intOf b - intOf a).toNat)
  case atStart => exact ⟨0, 2000000001, rfl, rfl, by omega, by omega, by omega, by omega, by omega⟩
  case round =>
    obtain ⟨l, h, rfl, rfl, p0, p1, p2, p3, p4⟩ := hrel
    by_cases hc : l + 1 < h
    · have m0 : 0 ≤ (l + h) / 2 := by omega
      have m1 : (l + h) / 2 ≤ 2000000001 := by omega
      have m2 : l < (l + h) / 2 := by omega
      have m3 : (l + h) / 2 < h := by omega
      have e1 := mul_bd (a := (l + h) / 2) (n := (l + h) / 2) (p := 2000000001) (q := 2000000001) (by omega) (by omega)
      obtain ⟨e1, e2⟩ := e1
      have wm : IntKind.i64.wrap ((l + h) / 2 * ((l + h) / 2)) = (l + h) / 2 * ((l + h) / 2) := IntWalk.i64_in _ (by omega)
      by_cases hm : (l + h) / 2 * ((l + h) / 2) ≤ n
      · go_wp2_with fail
        go_round
        case rel => exact ⟨(l + h) / 2, h, rfl, rfl, m0, m3, p2, hm, p4⟩
        case measure => simp [intOf]; omega
      · go_wp2_with fail
        go_round
        case rel => exact ⟨l, (l + h) / 2, rfl, rfl, p0, m2, m1, p3, by omega⟩
        case measure => simp [intOf]; omega
    · have HR := Go.Lib.hid (Root.is (n := n) (r := l) ⟨p0, p3, by rw [show h = l + 1 by omega] at p4; exact p4⟩ h0)
      go_wp2_with fail
      go_ret
      exact ⟨ret_int HR.out, rfl⟩

set_option maxRecDepth 100000 in
theorem implRootDown (n : Int) (w : World) (h0 : 0 ≤ n) (h1 : n ≤ 1000000000) :
    Calls Try.prog 53 #[.int .i64 n] w fun e w' => e = .returned (.int .i64 (rootI n)) ∧ w = w' := by
  go_enter Try.func53, Try.ntmps53
  go_wp2_with fail
  go_loop [3] (fun a => ∃ r : Int, a = .int .i64 r ∧ 0 ≤ r ∧ r ≤ 1000000000 ∧ n < (r + 1) * (r + 1)) (fun a => (intOf a).toNat)
  case atStart =>
    refine ⟨n, rfl, h0, h1, ?_⟩
    have := Int.mul_nonneg h0 h0
    simp only [Int.add_mul, Int.mul_add]
    omega
  case round =>
    obtain ⟨r, rfl, p0, p1, p2⟩ := hrel
    have e1 := mul_bd (a := r) (n := r) (p := 1000000000) (q := 1000000000) (by omega) (by omega)
    obtain ⟨e1, e2⟩ := e1
    have wm : IntKind.i64.wrap (r * r) = r * r := IntWalk.i64_in _ (by omega)
    by_cases hc : n < r * r
    · obtain ⟨q0, q1, q2⟩ := newton p0 hc h0
      have d0 : 0 ≤ n / r := Int.ediv_nonneg h0 p0
      have hr0 : 0 < r := by
        rcases Int.lt_or_le 0 r with h1 | h1
        · exact h1
        · obtain rfl : r = 0 := by omega
          omega
      have d1 : n / r ≤ 1000000000 := Int.le_trans (Int.ediv_le_self _ h0) h1
      have hne : (r == 0) = false := by simp; omega
      have ht : n.tdiv r = n / r := Int.tdiv_eq_ediv_of_nonneg h0
      have wd : IntKind.i64.wrap (n / r) = n / r := IntWalk.i64_in _ (by omega)
      have HQ := Go.Lib.hid (And.intro q0 (And.intro q1 q2))
      clear q2
      go_wp2_with fail
      go_round
      case rel => exact ⟨(r + n / r) / 2, rfl, HQ.out.1, by have := HQ.out.2.1; omega, HQ.out.2.2⟩
      case measure => have := HQ.out.1; have := HQ.out.2.1; simp [intOf]; omega
    · have HR := Go.Lib.hid (Root.is (n := n) (r := r) ⟨p0, by omega, p2⟩ h0)
      go_wp2_with fail
      go_ret
      exact ⟨ret_int HR.out, rfl⟩

theorem implRootUp (n : Int) (w : World) (h0 : 0 ≤ n) (h1 : n ≤ 1000000000) :
    Calls Try.prog 54 #[.int .i64 n] w fun e w' => e = .returned (.int .i64 (upI n)) ∧ w = w' := by
  have HC := Go.Lib.hid (fun w0 => implRootDown n w0 h0 h1)
  obtain ⟨r0, r1⟩ := rootI_bd h0 h1
  have hu : upI n = if rootI n * rootI n < n then rootI n + 1 else rootI n := rfl
  rw [hu]
  clear hu
  generalize rootI n = r at HC r0 r1 ⊢
  have e1 := mul_bd (a := r) (n := r) (p := 31623) (q := 31623) (by omega) (by omega)
  obtain ⟨e1, e2⟩ := e1
  have wm : IntKind.i64.wrap (r * r) = r * r := IntWalk.i64_in _ (by omega)
  by_cases hc : r * r < n
  · rw [if_pos hc]
    go_enter Try.func54, Try.ntmps54
    go_wp2_with fail
    refine (HC.out _).mono ?_
    rintro e w' ⟨rfl, rfl⟩
    go_wp2_with fail
    go_ret
    exact ⟨rfl, rfl⟩
  · rw [if_neg hc]
    go_enter Try.func54, Try.ntmps54
    go_wp2_with fail
    refine (HC.out _).mono ?_
    rintro e w' ⟨rfl, rfl⟩
    go_wp2_with fail
    go_ret
    exact ⟨rfl, rfl⟩
theorem specRootUp (n : Int) (w : World) (h0 : 0 ≤ n) (h1 : n ≤ 1000000000) :
    Calls Try.prog 56 #[.int .i64 n] w fun e w' => e = .returned (.int .i64 (upI n)) ∧ w = w' := by
  have HC := Go.Lib.hid (fun w0 => specRoot n w0 h0 h1)
  obtain ⟨r0, r1⟩ := rootI_bd h0 h1
  have hu : upI n = if rootI n * rootI n < n then rootI n + 1 else rootI n := rfl
  rw [hu]
  clear hu
  generalize rootI n = r at HC r0 r1 ⊢
  have e1 := mul_bd (a := r) (n := r) (p := 31623) (q := 31623) (by omega) (by omega)
  obtain ⟨e1, e2⟩ := e1
  have wm : IntKind.i64.wrap (r * r) = r * r := IntWalk.i64_in _ (by omega)
  by_cases hc : r * r < n
  · rw [if_pos hc]
    go_enter Try.func56, Try.ntmps56
    go_wp2_with fail
    refine (HC.out _).mono ?_
    rintro e w' ⟨rfl, rfl⟩
    go_wp2_with fail
    go_ret
    exact ⟨rfl, rfl⟩
  · rw [if_neg hc]
    go_enter Try.func56, Try.ntmps56
    go_wp2_with fail
    refine (HC.out _).mono ?_
    rintro e w' ⟨rfl, rfl⟩
    go_wp2_with fail
    go_ret
    exact ⟨rfl, rfl⟩

set_option maxHeartbeats 1000000 in
theorem implRoot (a b : Int) (w : World) : Calls Try.prog 30 #[ivV a b] w (NewR w (rootIv a b)) := by
  have k1 := isValid a b
  unfold rootIv
  cases hv : vldB a b
  · rw [if_neg (by simp)]
    rw [hv] at k1
    have K1 := Go.Lib.hid k1
    clear k1 hv
    go_enter Try.func30, Try.ntmps30
    go_wp2_with fail
    refine (K1.out _).mono ?_
    rintro e w1 ⟨rfl, b1⟩
    obtain ⟨hc1, hf1⟩ := bcell2 b1
    have B1 := up (a := w) (by go_grown) b1
    have z1 := b1.size
    simp only [World.size_alloc] at z1
    have s10 : w.heap.size < w1.heap.size := by omega
    have s11 : w.heap.size + 1 < w1.heap.size := by omega
    have t0 : w.heap.size < w.heap.size + 1 + 1 := by omega
    go_wp2_with fail
    refine bodyPost_ret (v := .tuple #[ivV 0 0, .int .i64 1]) (by simp [results, Try.results30, go_sem, hc1, s10, s11, t0]) rfl ⟨rfl, by go_grown⟩
  · obtain ⟨a1, a2, a3⟩ := vldB_of hv
    rw [if_pos rfl]
    rw [hv] at k1
    have K1 := Go.Lib.hid k1
    clear k1 hv
    by_cases hn : a < 0
    · rw [if_pos hn]
      go_enter Try.func30, Try.ntmps30
      go_wp2_with fail
      refine (K1.out _).mono ?_
      rintro e w1 ⟨rfl, b1⟩
      obtain ⟨hc1, hf1⟩ := bcell2 b1
      have B1 := up (a := w) (by go_grown) b1
      have z1 := b1.size
      simp only [World.size_alloc] at z1
      have s10 : w.heap.size < w1.heap.size := by omega
      have s11 : w.heap.size + 1 < w1.heap.size := by omega
      have t0 : w.heap.size < w.heap.size + 1 + 1 := by omega
      go_wp2_with fail
      refine bodyPost_ret (v := .tuple #[ivV 0 0, .int .i64 5]) (by simp [results, Try.results30, go_sem, hc1, s10, s11, t0]) rfl ⟨rfl, by go_grown⟩
    · rw [if_neg hn]
      have HD := Go.Lib.hid (fun w0 => (implRootDown a w0 (by omega) (by omega)).mono fun e w' h => And.intro h.1 h.2.symm)
      have HU := Go.Lib.hid (fun w0 => (implRootUp b w0 (by omega) a3).mono fun e w' h => And.intro h.1 h.2.symm)
      generalize rootI a = x at HD ⊢
      generalize upI b = y at HU ⊢
      go_enter Try.func30, Try.ntmps30
      go_wp2_with fail
      refine (K1.out _).mono ?_
      rintro e w1 ⟨rfl, b1⟩
      obtain ⟨hc1, hf1⟩ := bcell2 b1
      have B1 := up (a := w) (by go_grown) b1
      have z1 := b1.size
      simp only [World.size_alloc] at z1
      have s10 : w.heap.size < w1.heap.size := by omega
      have s11 : w.heap.size + 1 < w1.heap.size := by omega
      have t0 : w.heap.size < w.heap.size + 1 + 1 := by omega
      go_wp2_with fail
      refine wp_region_still_tail 7 (by kernel_rfl) (by kernel_rfl) ?_
      simp only [List.take_succ_cons, List.take_zero, List.drop_succ_cons, List.drop_zero]
      still_step
      still_step
      still_call (HD.out _)
      still_step
      still_step
      still_call (HU.out _)
      still_step
      refine wpStill_nil ?_
      change wpList _ _ _ _ _ (w1.drewN 1)
      have D1 := below_drewN B1 1
      have dc : ∀ q o, q < w.heap.size + 1 + 1 → (w1.drewN 1).cell? ⟨q, o, none⟩ = ((w.alloc (.cells #[.int .i64 a, .int .i64 b] 25)).alloc (.cells #[.int .i64 0, .int .i64 0] 25)).cell? ⟨q, o, none⟩ := fun q o h => hc1 q o (by simpa using h)
      have df : ∀ q o, q < w.heap.size + 1 + 1 → (w1.drewN 1).frozen? ⟨q, o, none⟩ = ((w.alloc (.cells #[.int .i64 a, .int .i64 b] 25)).alloc (.cells #[.int .i64 0, .int .i64 0] 25)).frozen? ⟨q, o, none⟩ := fun q o h => hf1 q o (by simpa using h)
      have ds : (w1.drewN 1).heap.size = w1.heap.size := rfl
      clear hc1 hf1
      rw [← ds] at s10 s11
      clear ds
      generalize w1.drewN 1 = w2 at D1 dc df s10 s11 ⊢
      clear b1 B1 z1
      go_wp2_with fail
      refine bodyPost_ret (v := .tuple #[ivV x y, .int .i64 0]) (by simp [results, Try.results30, go_sem, dc, s10, s11, t0]) rfl ⟨rfl, by go_grown⟩
set_option maxHeartbeats 1000000 in
theorem specRootInterval (a b : Int) (w : World) : Calls Try.prog 31 #[ivV a b] w (NewR w (rootIv a b)) := by
  have k1 := specIsInterval a b
  unfold rootIv
  cases hv : vldB a b
  · rw [if_neg (by simp)]
    rw [hv] at k1
    have K1 := Go.Lib.hid k1
    clear k1 hv
    go_enter Try.func31, Try.ntmps31
    go_wp2_with fail
    refine (K1.out _).mono ?_
    rintro e w1 ⟨rfl, b1⟩
    obtain ⟨hc1, hf1⟩ := bcell2 b1
    have B1 := up (a := w) (by go_grown) b1
    have z1 := b1.size
    simp only [World.size_alloc] at z1
    have s10 : w.heap.size < w1.heap.size := by omega
    have s11 : w.heap.size + 1 < w1.heap.size := by omega
    have t0 : w.heap.size < w.heap.size + 1 + 1 := by omega
    go_wp2_with fail
    refine bodyPost_ret (v := .tuple #[ivV 0 0, .int .i64 1]) (by simp [results, Try.results31, go_sem, hc1, s10, s11, t0]) rfl ⟨rfl, by go_grown⟩
  · obtain ⟨a1, a2, a3⟩ := vldB_of hv
    rw [if_pos rfl]
    rw [hv] at k1
    have K1 := Go.Lib.hid k1
    clear k1 hv
    by_cases hn : a < 0
    · rw [if_pos hn]
      go_enter Try.func31, Try.ntmps31
      go_wp2_with fail
      refine (K1.out _).mono ?_
      rintro e w1 ⟨rfl, b1⟩
      obtain ⟨hc1, hf1⟩ := bcell2 b1
      have B1 := up (a := w) (by go_grown) b1
      have z1 := b1.size
      simp only [World.size_alloc] at z1
      have s10 : w.heap.size < w1.heap.size := by omega
      have s11 : w.heap.size + 1 < w1.heap.size := by omega
      have t0 : w.heap.size < w.heap.size + 1 + 1 := by omega
      go_wp2_with fail
      refine bodyPost_ret (v := .tuple #[ivV 0 0, .int .i64 5]) (by simp [results, Try.results31, go_sem, hc1, s10, s11, t0]) rfl ⟨rfl, by go_grown⟩
    · rw [if_neg hn]
      have HD := Go.Lib.hid (fun w0 => (specRoot a w0 (by omega) (by omega)).mono fun e w' h => And.intro h.1 h.2.symm)
      have HU := Go.Lib.hid (fun w0 => (specRootUp b w0 (by omega) a3).mono fun e w' h => And.intro h.1 h.2.symm)
      generalize rootI a = x at HD ⊢
      generalize upI b = y at HU ⊢
      go_enter Try.func31, Try.ntmps31
      go_wp2_with fail
      refine (K1.out _).mono ?_
      rintro e w1 ⟨rfl, b1⟩
      obtain ⟨hc1, hf1⟩ := bcell2 b1
      have B1 := up (a := w) (by go_grown) b1
      have z1 := b1.size
      simp only [World.size_alloc] at z1
      have s10 : w.heap.size < w1.heap.size := by omega
      have s11 : w.heap.size + 1 < w1.heap.size := by omega
      have t0 : w.heap.size < w.heap.size + 1 + 1 := by omega
      go_wp2_with fail
      refine wp_region_still_tail 7 (by kernel_rfl) (by kernel_rfl) ?_
      simp only [List.take_succ_cons, List.take_zero, List.drop_succ_cons, List.drop_zero]
      still_step
      still_step
      still_call (HD.out _)
      still_step
      still_step
      still_call (HU.out _)
      still_step
      refine wpStill_nil ?_
      change wpList _ _ _ _ _ (w1.drewN 1)
      have D1 := below_drewN B1 1
      have dc : ∀ q o, q < w.heap.size + 1 + 1 → (w1.drewN 1).cell? ⟨q, o, none⟩ = ((w.alloc (.cells #[.int .i64 a, .int .i64 b] 25)).alloc (.cells #[.int .i64 0, .int .i64 0] 25)).cell? ⟨q, o, none⟩ := fun q o h => hc1 q o (by simpa using h)
      have df : ∀ q o, q < w.heap.size + 1 + 1 → (w1.drewN 1).frozen? ⟨q, o, none⟩ = ((w.alloc (.cells #[.int .i64 a, .int .i64 b] 25)).alloc (.cells #[.int .i64 0, .int .i64 0] 25)).frozen? ⟨q, o, none⟩ := fun q o h => hf1 q o (by simpa using h)
      have ds : (w1.drewN 1).heap.size = w1.heap.size := rfl
      clear hc1 hf1
      rw [← ds] at s10 s11
      clear ds
      generalize w1.drewN 1 = w2 at D1 dc df s10 s11 ⊢
      clear b1 B1 z1
      go_wp2_with fail
      refine bodyPost_ret (v := .tuple #[ivV x y, .int .i64 0]) (by simp [results, Try.results31, go_sem, dc, s10, s11, t0]) rfl ⟨rfl, by go_grown⟩
end Go.Proofs.Ytcknknicknolaaa
