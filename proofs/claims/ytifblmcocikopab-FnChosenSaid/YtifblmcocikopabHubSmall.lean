/- The program's small functions of chapter 4. -/
import Derived.Test.YtifblmcocikopabHubS
namespace Go.Proofs.Ytifblmcocikopab
open Go.RowKit

theorem implInN (n a b : Int) (w : World) : Calls Try.prog 38 #[.int .i64 n, .int .i64 a, .int .i64 b] w (Just (.bool (inB n a b)) w) := by
  by_cases h1 : a ≤ n
  · go_enter Try.func38, Try.ntmps38
    go_wp2
    go_ret
    exact ⟨by simp [inB, h1], rfl⟩
  · go_enter Try.func38, Try.ntmps38
    go_wp2
    go_ret
    exact ⟨by simp [inB]; intro; omega, rfl⟩
theorem implHoles (n : Int) (w : World) : Calls Try.prog 70 #[.int .i64 n] w (Just (.bool (holesB n)) w) := by
  by_cases h12 : n = 12
  · subst h12
    go_enter Try.func70, Try.ntmps70
    go_wp2_with fail
    go_ret
    exact ⟨rfl, rfl⟩
  by_cases h16 : n = 16
  · subst h16
    go_enter Try.func70, Try.ntmps70
    go_wp2_with fail
    go_ret
    exact ⟨rfl, rfl⟩
  by_cases h20 : n = 20
  · subst h20
    go_enter Try.func70, Try.ntmps70
    go_wp2_with fail
    go_ret
    exact ⟨rfl, rfl⟩
  by_cases h24 : n = 24
  · subst h24
    go_enter Try.func70, Try.ntmps70
    go_wp2_with fail
    go_ret
    exact ⟨rfl, rfl⟩
  by_cases h32 : n = 32
  · subst h32
    go_enter Try.func70, Try.ntmps70
    go_wp2_with fail
    go_ret
    exact ⟨rfl, rfl⟩
  by_cases h36 : n = 36
  · subst h36
    go_enter Try.func70, Try.ntmps70
    go_wp2_with fail
    go_ret
    exact ⟨rfl, rfl⟩
  by_cases h40 : n = 40
  · subst h40
    go_enter Try.func70, Try.ntmps70
    go_wp2_with fail
    go_ret
    exact ⟨rfl, rfl⟩
  by_cases h48 : n = 48
  · subst h48
    go_enter Try.func70, Try.ntmps70
    go_wp2_with fail
    go_ret
    exact ⟨rfl, rfl⟩
  have hv : holesB n = false := by simp only [holesB, holesL, List.any_cons, List.any_nil, Bool.or_false, Bool.or_eq_false_iff, beq_eq_false_iff_ne, ne_eq]; omega
  have HV := Go.Lib.hid hv
  clear hv
  have e12 : (n == 12) = false := by simpa using h12
  have e16 : (n == 16) = false := by simpa using h16
  have e20 : (n == 20) = false := by simpa using h20
  have e24 : (n == 24) = false := by simpa using h24
  have e32 : (n == 32) = false := by simpa using h32
  have e36 : (n == 36) = false := by simpa using h36
  have e40 : (n == 40) = false := by simpa using h40
  have e48 : (n == 48) = false := by simpa using h48
  have f12 : ((12 : Int) == n) = false := by simp; omega
  have f16 : ((16 : Int) == n) = false := by simp; omega
  have f20 : ((20 : Int) == n) = false := by simp; omega
  have f24 : ((24 : Int) == n) = false := by simp; omega
  have f32 : ((32 : Int) == n) = false := by simp; omega
  have f36 : ((36 : Int) == n) = false := by simp; omega
  have f40 : ((40 : Int) == n) = false := by simp; omega
  have f48 : ((48 : Int) == n) = false := by simp; omega
  clear h12 h16 h20 h24 h32 h36 h40 h48
  go_enter Try.func70, Try.ntmps70
  go_wp2_with fail
  go_ret
  exact ⟨by rw [HV.out]; rfl, rfl⟩
theorem implMost (n : Int) (w : World) (h0 : 0 ≤ n) (h1 : n ≤ 1000) : Calls Try.prog 63 #[.int .i64 n] w (Just (.int .i64 (n / 4 - 1)) w) := by
  have hq : n.tdiv 4 = n / 4 := Int.tdiv_eq_ediv_of_nonneg (by omega)
  go_enter Try.func63, Try.ntmps63
  go_wp2_with fail
  go_ret
  exact ⟨rfl, rfl⟩
theorem implHubValid (h : Hb) (w : World) : Calls Try.prog 61 #[hubV h] w (IsB w (hubB h)) := by
  unfold hubB
  have H0 := Go.Lib.hid (fun w0 => implHoles h.n w0)
  have H1 := Go.Lib.hid (fun w0 => implInN h.l 200 1200 w0)
  have H2 := Go.Lib.hid (fun w0 => implInN h.r 200 1200 w0)
  have H3 := Go.Lib.hid (fun w0 => implInN h.a 0 500 w0)
  have H4 := Go.Lib.hid (fun w0 => implInN h.b 0 500 w0)
  generalize holesB h.n = q0 at H0 ⊢
  generalize inB h.l 200 1200 = q1 at H1 ⊢
  generalize inB h.r 200 1200 = q2 at H2 ⊢
  generalize inB h.a 0 500 = q3 at H3 ⊢
  generalize inB h.b 0 500 = q4 at H4 ⊢
  cases q0
  · skip
    go_enter Try.func61, Try.ntmps61
    go_wp2_with fail
    refine (H0.out _).mono ?_
    rintro _ _ ⟨rfl, rfl⟩
    go_wp2_with fail
    go_ret
    exact ⟨rfl, by go_grown⟩
  · skip
    cases q1
    · skip
      go_enter Try.func61, Try.ntmps61
      go_wp2_with fail
      refine (H0.out _).mono ?_
      rintro _ _ ⟨rfl, rfl⟩
      go_wp2_with fail
      refine (H1.out _).mono ?_
      rintro _ _ ⟨rfl, rfl⟩
      go_wp2_with fail
      go_ret
      exact ⟨rfl, by go_grown⟩
    · skip
      cases q2
      · skip
        go_enter Try.func61, Try.ntmps61
        go_wp2_with fail
        refine (H0.out _).mono ?_
        rintro _ _ ⟨rfl, rfl⟩
        go_wp2_with fail
        refine (H1.out _).mono ?_
        rintro _ _ ⟨rfl, rfl⟩
        go_wp2_with fail
        refine (H2.out _).mono ?_
        rintro _ _ ⟨rfl, rfl⟩
        go_wp2_with fail
        go_ret
        exact ⟨rfl, by go_grown⟩
      · skip
        cases q3
        · skip
          go_enter Try.func61, Try.ntmps61
          go_wp2_with fail
          refine (H0.out _).mono ?_
          rintro _ _ ⟨rfl, rfl⟩
          go_wp2_with fail
          refine (H1.out _).mono ?_
          rintro _ _ ⟨rfl, rfl⟩
          go_wp2_with fail
          refine (H2.out _).mono ?_
          rintro _ _ ⟨rfl, rfl⟩
          go_wp2_with fail
          refine (H3.out _).mono ?_
          rintro _ _ ⟨rfl, rfl⟩
          go_wp2_with fail
          go_ret
          exact ⟨rfl, by go_grown⟩
        · skip
          go_enter Try.func61, Try.ntmps61
          go_wp2_with fail
          refine (H0.out _).mono ?_
          rintro _ _ ⟨rfl, rfl⟩
          go_wp2_with fail
          refine (H1.out _).mono ?_
          rintro _ _ ⟨rfl, rfl⟩
          go_wp2_with fail
          refine (H2.out _).mono ?_
          rintro _ _ ⟨rfl, rfl⟩
          go_wp2_with fail
          refine (H3.out _).mono ?_
          rintro _ _ ⟨rfl, rfl⟩
          go_wp2_with fail
          refine (H4.out _).mono ?_
          rintro _ _ ⟨rfl, rfl⟩
          go_wp2_with fail
          go_ret
          exact ⟨rfl, by go_grown⟩
end Go.Proofs.Ytifblmcocikopab
