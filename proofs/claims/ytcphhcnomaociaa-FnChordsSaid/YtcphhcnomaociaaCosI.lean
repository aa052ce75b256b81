/- Contracts of the program's functions of chapter 3. -/
import Derived.Test.YtcphhcnomaociaaCos3
import Derived.Test.YtcphhcnomaociaaCosImpl
namespace Go.Proofs.Ytcphhcnomaociaa
open Go.RowKit

theorem implRadius (n : Int) (w : World) : Calls Try.prog 35 #[.int .i64 n] w (Just (.bool (radB n)) w) := by
  by_cases h1 : 0 ≤ n
  · go_enter Try.func35, Try.ntmps35
    go_wp2
    go_ret
    exact ⟨by simp [radB, h1], rfl⟩
  · go_enter Try.func35, Try.ntmps35
    go_wp2
    go_ret
    exact ⟨by simp [radB]; intro; omega, rfl⟩
theorem implSine (n : Int) (w : World) (h0 : -100000 ≤ n) (h1 : n ≤ 100000) : Calls Try.prog 56 #[.int .i64 n] w (Ans (.int .i64 (cosI (180 - n))) w) := by
  have HC := Go.Lib.hid (fun w0 => implCosine (180 - n) w0 (by omega) (by omega))
  go_enter Try.func56, Try.ntmps56
  go_wp2_with fail
  refine (HC.out _).mono ?_
  rintro _ w1 ⟨rfl, b1⟩
  go_wp2_with fail
  go_ret
  exact ⟨rfl, b1⟩
theorem implSineOf (n : Int) (w : World) : Calls Try.prog 28 #[.int .i64 n] w (Ans (pairV (sinA n)) w) := by
  have HS := Go.Lib.hid (implSteps n w)
  cases hb : stepsB n
  · have HV : Hid (sinA n = (0, 2)) := by unfold sinA; rw [hb]; rfl
    go_enter Try.func28, Try.ntmps28
    go_wp2_with fail
    refine (HS.out).mono ?_
    rintro _ _ ⟨rfl, rfl⟩
    go_wp2_with fail
    go_ret2
    exact ⟨by rw [HV.out]; rfl, Below.refl _ _⟩
  · have HV : Hid (sinA n = (cosI (180 - n), 0)) := by unfold sinA; rw [hb]; rfl
    obtain ⟨h0, h1⟩ := stepsB_iff.1 hb
    have HC := Go.Lib.hid (fun w0 => implSine n w0 (by omega) (by omega))
    go_enter Try.func28, Try.ntmps28
    go_wp2_with fail
    refine (HS.out).mono ?_
    rintro _ _ ⟨rfl, rfl⟩
    go_wp2_with fail
    refine (HC.out _).mono ?_
    rintro _ w1 ⟨rfl, b1⟩
    go_wp2_with fail
    go_ret2
    exact ⟨by rw [HV.out]; rfl, b1⟩
theorem implPointOn (r n : Int) (w : World) : Calls Try.prog 25 #[.int .i64 r, .int .i64 n] w (Ans (tripV (pointA r n)) w) := by
  have HR := Go.Lib.hid (implRadius r w)
  have HS := Go.Lib.hid (implSteps n w)
  cases hr : radB r
  · have HV : Hid (pointA r n = (0, 0, 2)) := by unfold pointA; rw [hr]; rfl
    go_enter Try.func25, Try.ntmps25
    go_wp2_with fail
    refine (HR.out).mono ?_
    rintro _ _ ⟨rfl, rfl⟩
    go_wp2_with fail
    go_ret3
    exact ⟨by rw [HV.out]; rfl, Below.refl _ _⟩
  · cases hb : stepsB n
    · have HV : Hid (pointA r n = (0, 0, 2)) := by unfold pointA; rw [hr, hb]; rfl
      go_enter Try.func25, Try.ntmps25
      go_wp2_with fail
      refine (HR.out).mono ?_
      rintro _ _ ⟨rfl, rfl⟩
      go_wp2_with fail
      refine (HS.out).mono ?_
      rintro _ _ ⟨rfl, rfl⟩
      go_wp2_with fail
      go_ret3
      exact ⟨by rw [HV.out]; rfl, Below.refl _ _⟩
    · have HV : Hid (pointA r n = (nrm (r * cosI n), nrm (r * cosI (180 - n)), 0)) := by unfold pointA; rw [hr, hb]; rfl
      obtain ⟨h0, h1⟩ := stepsB_iff.1 hb
      obtain ⟨r0, r1⟩ := radB_iff.1 hr
      have HC := Go.Lib.hid (fun w0 => implCosine n w0 (by omega) (by omega))
      have HC2 := Go.Lib.hid (fun w0 => implSine n w0 (by omega) (by omega))
      have p1 := mul_bd2 r0 r1 (cosI_bd n)
      have p2 := mul_bd2 r0 r1 (cosI_bd (180 - n))
      have c1 := cosI_bd n
      have c2 := cosI_bd (180 - n)
      have HN := Go.Lib.hid (fun w0 => implNearest (r * cosI n) w0 (by omega) (by omega))
      have HN2 := Go.Lib.hid (fun w0 => implNearest (r * cosI (180 - n)) w0 (by omega) (by omega))
      generalize cosI n = x at HV HC HN p1 c1
      generalize cosI (180 - n) = y at HV HC2 HN2 p2 c2
      go_enter Try.func25, Try.ntmps25
      go_wp2_with fail
      refine (HR.out).mono ?_
      rintro _ _ ⟨rfl, rfl⟩
      go_wp2_with fail
      refine (HS.out).mono ?_
      rintro _ _ ⟨rfl, rfl⟩
      go_wp2_with fail
      refine (HC.out _).mono ?_
      rintro _ w1 ⟨rfl, b1⟩
      go_wp2_with fail
      refine (HN.out _).mono ?_
      rintro _ _ ⟨rfl, rfl⟩
      go_wp2_with fail
      refine (HC2.out _).mono ?_
      rintro _ w2 ⟨rfl, b2⟩
      go_wp2_with fail
      refine (HN2.out _).mono ?_
      rintro _ _ ⟨rfl, rfl⟩
      go_wp2_with fail
      go_ret3
      exact ⟨by rw [HV.out]; rfl, b1.trans (b2.mono b1.size)⟩
theorem implSquare (a b n : Int) (w : World) (a0 : 0 ≤ a) (a1 : a ≤ 10000) (b0 : 0 ≤ b) (b1 : b ≤ 10000) (h0 : -100000 ≤ n) (h1 : n ≤ 100000) : Calls Try.prog 41 #[.int .i64 a, .int .i64 b, .int .i64 n] w (Ans (.int .i64 (sqI a b n)) w) := by
  have HC := Go.Lib.hid (fun w0 => implCosine n w0 (by omega) (by omega))
  have hc := cosI_bd n
  obtain ⟨p0, p1⟩ := two_bd a0 a1 b0 b1
  have p2 := three_bd p0 p1 hc
  have p3 := nrm_mul p0 hc
  have s1 := sq_bd a0 a1
  have s2 := sq_bd b0 b1
  have HV : Hid (sqI a b n = a * a + b * b - nrm (2 * a * b * cosI n)) := rfl
  have HN := Go.Lib.hid (fun w0 => implNearest (2 * a * b * cosI n) w0 (by omega) (by omega))
  generalize cosI n = c at HC HN HV hc p2 p3
  go_enter Try.func41, Try.ntmps41
  go_wp2_with fail
  refine (HC.out _).mono ?_
  rintro _ w1 ⟨rfl, b1⟩
  go_wp2_with fail
  refine (HN.out _).mono ?_
  rintro _ _ ⟨rfl, rfl⟩
  go_wp2_with fail
  go_ret
  exact ⟨by rw [HV.out]; rfl, b1⟩
theorem implNear (n : Int) (w : World) (h0 : 0 ≤ n) (h1 : n ≤ 400000000) : Calls Try.prog 63 #[.int .i64 n] w (Just (.int .i64 (nearI n)) w) := by
  have HR := Go.Lib.hid (implRootDown n w h0 (by omega))
  have hv : nearI n = if rootI n < n - rootI n * rootI n then rootI n + 1 else rootI n := rfl
  obtain ⟨r0, r1⟩ := rootI_bd h0 (by omega)
  obtain ⟨q0, q1, q2⟩ := rootI_ok h0
  rw [hv]
  clear hv
  generalize rootI n = r at HR r0 r1 q1 q2 ⊢
  have hm : 0 ≤ r * r := sq0 r
  have e1 : r * (r + 1) = r * r + r := by rw [Int.mul_add, Int.mul_one]
  have wm : IntKind.i64.wrap (r * (r + 1)) = r * r + r := by rw [e1]; exact IntWalk.i64_in _ (by omega)
  by_cases hc : r < n - r * r
  · rw [if_pos hc]
    go_enter Try.func63, Try.ntmps63
    go_wp2_with fail
    refine (HR.out).mono ?_
    rintro _ _ ⟨rfl, rfl⟩
    go_wp2_with fail
    go_ret
    exact ⟨rfl, rfl⟩
  · rw [if_neg hc]
    go_enter Try.func63, Try.ntmps63
    go_wp2_with fail
    refine (HR.out).mono ?_
    rintro _ _ ⟨rfl, rfl⟩
    go_wp2_with fail
    go_ret
    exact ⟨rfl, rfl⟩
theorem implDistance (a b n : Int) (w : World) (a0 : 0 ≤ a) (a1 : a ≤ 10000) (b0 : 0 ≤ b) (b1 : b ≤ 10000) (h0 : -100000 ≤ n) (h1 : n ≤ 100000) : Calls Try.prog 37 #[.int .i64 a, .int .i64 b, .int .i64 n] w (Ans (.int .i64 (distI a b n)) w) := by
  have HQ := Go.Lib.hid (fun w0 => implSquare a b n w0 a0 a1 b0 b1 h0 h1)
  have q0 := sqI_nonneg n a0 b0
  have q1 := sqI_le n a0 b0 a1 b1
  have HD := Go.Lib.hid (fun w0 => implNear (sqI a b n) w0 q0 q1)
  have HE : Hid (distI a b n = nearI (sqI a b n)) := rfl
  generalize sqI a b n = S at HQ HD HE q0 q1
  go_enter Try.func37, Try.ntmps37
  go_wp2_with fail
  refine (HQ.out _).mono ?_
  rintro _ w1 ⟨rfl, b1⟩
  go_wp2_with fail
  refine (HD.out _).mono ?_
  rintro _ _ ⟨rfl, rfl⟩
  go_wp2_with fail
  go_ret
  exact ⟨by rw [HE.out]; rfl, b1⟩
theorem implSquareBetween (a b n : Int) (w : World) : Calls Try.prog 16 #[.int .i64 a, .int .i64 b, .int .i64 n] w (Ans (pairV (sqA a b n)) w) := by
  have HA := Go.Lib.hid (implRadius a w)
  have HB := Go.Lib.hid (implRadius b w)
  have HS := Go.Lib.hid (implSteps n w)
  have hv : sqA a b n = if okB a b n then (sqI a b n, 0) else (0, 2) := rfl
  cases ha : radB a
  · rw [ha] at HA
    have HV := Go.Lib.hid (show sqA a b n = (0, 2) by rw [hv]; unfold okB; simp [*])
    clear hv
    go_enter Try.func16, Try.ntmps16
    go_wp2_with fail
    refine (HA.out).mono ?_
    rintro _ _ ⟨rfl, rfl⟩
    go_wp2_with fail
    go_ret2
    exact ⟨by rw [HV.out]; rfl, Below.refl _ _⟩
  · rw [ha] at HA
    cases hb : radB b
    · rw [hb] at HB
      have HV := Go.Lib.hid (show sqA a b n = (0, 2) by rw [hv]; unfold okB; simp [*])
      clear hv
      go_enter Try.func16, Try.ntmps16
      go_wp2_with fail
      refine (HA.out).mono ?_
      rintro _ _ ⟨rfl, rfl⟩
      go_wp2_with fail
      refine (HB.out).mono ?_
      rintro _ _ ⟨rfl, rfl⟩
      go_wp2_with fail
      go_ret2
      exact ⟨by rw [HV.out]; rfl, Below.refl _ _⟩
    · rw [hb] at HB
      cases hs : stepsB n
      · rw [hs] at HS
        have HV := Go.Lib.hid (show sqA a b n = (0, 2) by rw [hv]; unfold okB; simp [*])
        clear hv
        go_enter Try.func16, Try.ntmps16
        go_wp2_with fail
        refine (HA.out).mono ?_
        rintro _ _ ⟨rfl, rfl⟩
        go_wp2_with fail
        refine (HB.out).mono ?_
        rintro _ _ ⟨rfl, rfl⟩
        go_wp2_with fail
        refine (HS.out).mono ?_
        rintro _ _ ⟨rfl, rfl⟩
        go_wp2_with fail
        go_ret2
        exact ⟨by rw [HV.out]; rfl, Below.refl _ _⟩
      · rw [hs] at HS
        have HV : Hid (sqA a b n = (sqI a b n, 0)) := by rw [hv]; unfold okB; rw [ha, hb, hs]; rfl
        clear hv
        obtain ⟨a0, a1⟩ := radB_iff.1 ha
        obtain ⟨c0, c1⟩ := radB_iff.1 hb
        obtain ⟨n0, n1⟩ := stepsB_iff.1 hs
        have HQ := Go.Lib.hid (fun w0 => implSquare a b n w0 a0 a1 c0 c1 n0 n1)
        go_enter Try.func16, Try.ntmps16
        go_wp2_with fail
        refine (HA.out).mono ?_
        rintro _ _ ⟨rfl, rfl⟩
        go_wp2_with fail
        refine (HB.out).mono ?_
        rintro _ _ ⟨rfl, rfl⟩
        go_wp2_with fail
        refine (HS.out).mono ?_
        rintro _ _ ⟨rfl, rfl⟩
        go_wp2_with fail
        refine (HQ.out _).mono ?_
        rintro _ w1 ⟨rfl, b1⟩
        go_wp2_with fail
        go_ret2
        exact ⟨by rw [HV.out]; rfl, b1⟩
theorem implDistanceBetween (a b n : Int) (w : World) : Calls Try.prog 14 #[.int .i64 a, .int .i64 b, .int .i64 n] w (Ans (pairV (distA a b n)) w) := by
  have HA := Go.Lib.hid (implRadius a w)
  have HB := Go.Lib.hid (implRadius b w)
  have HS := Go.Lib.hid (implSteps n w)
  have hv : distA a b n = if okB a b n then (distI a b n, 0) else (0, 2) := rfl
  cases ha : radB a
  · rw [ha] at HA
    have HV := Go.Lib.hid (show distA a b n = (0, 2) by rw [hv]; unfold okB; simp [*])
    clear hv
    go_enter Try.func14, Try.ntmps14
    go_wp2_with fail
    refine (HA.out).mono ?_
    rintro _ _ ⟨rfl, rfl⟩
    go_wp2_with fail
    go_ret2
    exact ⟨by rw [HV.out]; rfl, Below.refl _ _⟩
  · rw [ha] at HA
    cases hb : radB b
    · rw [hb] at HB
      have HV := Go.Lib.hid (show distA a b n = (0, 2) by rw [hv]; unfold okB; simp [*])
      clear hv
      go_enter Try.func14, Try.ntmps14
      go_wp2_with fail
      refine (HA.out).mono ?_
      rintro _ _ ⟨rfl, rfl⟩
      go_wp2_with fail
      refine (HB.out).mono ?_
      rintro _ _ ⟨rfl, rfl⟩
      go_wp2_with fail
      go_ret2
      exact ⟨by rw [HV.out]; rfl, Below.refl _ _⟩
    · rw [hb] at HB
      cases hs : stepsB n
      · rw [hs] at HS
        have HV := Go.Lib.hid (show distA a b n = (0, 2) by rw [hv]; unfold okB; simp [*])
        clear hv
        go_enter Try.func14, Try.ntmps14
        go_wp2_with fail
        refine (HA.out).mono ?_
        rintro _ _ ⟨rfl, rfl⟩
        go_wp2_with fail
        refine (HB.out).mono ?_
        rintro _ _ ⟨rfl, rfl⟩
        go_wp2_with fail
        refine (HS.out).mono ?_
        rintro _ _ ⟨rfl, rfl⟩
        go_wp2_with fail
        go_ret2
        exact ⟨by rw [HV.out]; rfl, Below.refl _ _⟩
      · rw [hs] at HS
        have HV : Hid (distA a b n = (distI a b n, 0)) := by rw [hv]; unfold okB; rw [ha, hb, hs]; rfl
        clear hv
        obtain ⟨a0, a1⟩ := radB_iff.1 ha
        obtain ⟨c0, c1⟩ := radB_iff.1 hb
        obtain ⟨n0, n1⟩ := stepsB_iff.1 hs
        have HQ := Go.Lib.hid (fun w0 => implDistance a b n w0 a0 a1 c0 c1 n0 n1)
        go_enter Try.func14, Try.ntmps14
        go_wp2_with fail
        refine (HA.out).mono ?_
        rintro _ _ ⟨rfl, rfl⟩
        go_wp2_with fail
        refine (HB.out).mono ?_
        rintro _ _ ⟨rfl, rfl⟩
        go_wp2_with fail
        refine (HS.out).mono ?_
        rintro _ _ ⟨rfl, rfl⟩
        go_wp2_with fail
        refine (HQ.out _).mono ?_
        rintro _ w1 ⟨rfl, b1⟩
        go_wp2_with fail
        go_ret2
        exact ⟨by rw [HV.out]; rfl, b1⟩
set_option maxRecDepth 100000 in
theorem implStepsFor (a b z : Int) (w : World) : Calls Try.prog 19 #[.int .i64 a, .int .i64 b, .int .i64 z] w (Ans (pairV (seekA a b z)) w) := by
  have HA := Go.Lib.hid (implRadius a w)
  have HB := Go.Lib.hid (implRadius b w)
  cases ha : radB a
  · rw [ha] at HA
    have HV := Go.Lib.hid (show seekA a b z = (0, 2) by unfold seekA; simp [*])
    go_enter Try.func19, Try.ntmps19
    go_wp2_with fail
    refine (HA.out).mono ?_
    rintro _ _ ⟨rfl, rfl⟩
    go_wp2_with fail
    go_ret2
    exact ⟨by rw [HV.out]; rfl, Below.refl _ _⟩
  · rw [ha] at HA
    cases hb : radB b
    · rw [hb] at HB
      have HV := Go.Lib.hid (show seekA a b z = (0, 2) by unfold seekA; simp [*])
      go_enter Try.func19, Try.ntmps19
      go_wp2_with fail
      refine (HA.out).mono ?_
      rintro _ _ ⟨rfl, rfl⟩
      go_wp2_with fail
      refine (HB.out).mono ?_
      rintro _ _ ⟨rfl, rfl⟩
      go_wp2_with fail
      go_ret2
      exact ⟨by rw [HV.out]; rfl, Below.refl _ _⟩
    · rw [hb] at HB
      by_cases z0 : z < 0
      · have HV := Go.Lib.hid (show seekA a b z = (0, 2) by unfold seekA; rw [ha, hb, decide_eq_false (by omega : ¬ 0 ≤ z)]; rfl)
        go_enter Try.func19, Try.ntmps19
        go_wp2_with fail
        refine (HA.out).mono ?_
        rintro _ _ ⟨rfl, rfl⟩
        go_wp2_with fail
        refine (HB.out).mono ?_
        rintro _ _ ⟨rfl, rfl⟩
        go_wp2_with fail
        go_ret2
        exact ⟨by rw [HV.out]; rfl, Below.refl _ _⟩
      · by_cases z1 : 20000 < z
        · have HV := Go.Lib.hid (show seekA a b z = (0, 2) by unfold seekA; rw [ha, hb, decide_eq_false (by omega : ¬ z ≤ 20000)]; simp)
          go_enter Try.func19, Try.ntmps19
          go_wp2_with fail
          refine (HA.out).mono ?_
          rintro _ _ ⟨rfl, rfl⟩
          go_wp2_with fail
          refine (HB.out).mono ?_
          rintro _ _ ⟨rfl, rfl⟩
          go_wp2_with fail
          go_ret2
          exact ⟨by rw [HV.out]; rfl, Below.refl _ _⟩
        · skip
          have hv : seekA a b z = (match seekI a b z with | some k => ((k : Int), 0) | none => (0, 4)) := by unfold seekA; rw [ha, hb, decide_eq_true (by omega : 0 ≤ z), decide_eq_true (by omega : z ≤ 20000)]; rfl
          have HF : Hid (∀ k, seekI a b z = some k → seekA a b z = ((k : Int), 0)) := fun k h => by rw [hv, h]
          have HN : Hid (seekI a b z = none → seekA a b z = (0, 4)) := fun h => by rw [hv, h]
          obtain ⟨a0, a1⟩ := radB_iff.1 ha
          obtain ⟨c0, c1⟩ := radB_iff.1 hb
          clear hv ha hb
          have HQ := Go.Lib.hid (fun k w0 h0 h1 => implDistance a b k w0 a0 a1 c0 c1 h0 h1)
          go_enter Try.func19, Try.ntmps19
          go_wp2_with fail
          refine (HA.out).mono ?_
          rintro _ _ ⟨rfl, rfl⟩
          go_wp2_with fail
          refine (HB.out).mono ?_
          rintro _ _ ⟨rfl, rfl⟩
          go_wp2_with fail
          go_loopw [8] (fun i wr => ∃ k : Nat, k ≤ 361 ∧ i = .int .i64 k ∧ seekI a b z = seek (farB a b z) (361 - k) k ∧ Below w.heap.size w wr) (fun i _ => 361 - (intOf i).toNat)
          case atStart => exact ⟨0, by omega, rfl, rfl, Below.refl _ _⟩
          case round =>
            obtain ⟨k, hk, rfl, hseek, hb⟩ := hrel
            by_cases hlt : k ≤ 360
            · have hltI : (k : Int) ≤ 360 := by omega
              have HQ1 := Go.Lib.hid (fun w0 => HQ.out k w0 (by omega) (by omega))
              have hstep : seek (farB a b z) (361 - k) k = if farB a b z k then some k else seek (farB a b z) (361 - (k + 1)) (k + 1) := by
                rw [show 361 - k = (360 - k) + 1 by omega, show 361 - (k + 1) = 360 - k by omega]; rfl
              have hfar : farB a b z k = decide (z ≤ distI a b k) := rfl
              rw [hstep, hfar] at hseek
              have SK := Go.Lib.hid hseek
              clear hseek hstep hfar
              generalize distI a b k = d at HQ1 SK
              by_cases hd : z ≤ d
              · have SV := SK.out
                rw [decide_eq_true hd, if_pos rfl] at SV
                have HV := Go.Lib.hid (HF.out k SV)
                clear SV
                go_wp2_with fail
                refine (HQ1.out _).mono ?_
                rintro _ w1 ⟨rfl, b1⟩
                go_wp2_with fail
                go_ret2
                exact ⟨by rw [HV.out]; rfl, hb.trans (b1.mono hb.size)⟩
              · have SV := SK.out
                rw [decide_eq_false hd, if_neg (by simp)] at SV
                have HV := Go.Lib.hid SV
                clear SV
                go_wp2_with fail
                refine (HQ1.out _).mono ?_
                rintro _ w1 ⟨rfl, b1⟩
                go_wp2_with fail
                go_roundw
                case rel => exact ⟨k + 1, by omega, by go_num, HV.out, hb.trans (b1.mono hb.size)⟩
                case measure => simp [intOf]; omega
            · have hgtI : ¬ (k : Int) ≤ 360 := by omega
              have HV := Go.Lib.hid (HN.out (by rw [hseek, show 361 - k = 0 by omega]; rfl))
              go_wp2_with fail
              go_ret2
              exact ⟨by rw [HV.out]; rfl, hb⟩
end Go.Proofs.Ytcphhcnomaociaa
