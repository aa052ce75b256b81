/- Contracts of the model's distances of chapter 3. -/
import Derived.Test.YtcphhcnomaociaaCos2
namespace Go.Proofs.Ytcphhcnomaociaa
open Go.RowKit

theorem sq_bd {a : Int} (h0 : 0 ≤ a) (h1 : a ≤ 10000) : 0 ≤ a * a ∧ a * a ≤ 100000000 := by
  have := prod_le (a := a) (b := a) (p := 10000) (q := 10000) ⟨by omega, h1⟩ ⟨by omega, h1⟩
  have := sq0 a
  omega
theorem two_bd {a b : Int} (a0 : 0 ≤ a) (a1 : a ≤ 10000) (b0 : 0 ≤ b) (b1 : b ≤ 10000) : 0 ≤ 2 * a * b ∧ 2 * a * b ≤ 200000000 := by
  have := prod_le (a := 2 * a) (b := b) (p := 20000) (q := 10000) ⟨by omega, by omega⟩ ⟨by omega, b1⟩
  have : 0 ≤ 2 * a * b := Int.mul_nonneg (by omega) b0
  omega
theorem three_bd {p c : Int} (h0 : 0 ≤ p) (h1 : p ≤ 200000000) (hc : -1000000000 ≤ c ∧ c ≤ 1000000000) : -200000000000000000 ≤ p * c ∧ p * c ≤ 200000000000000000 := by
  have := prod_le (a := p) (b := c) (p := 200000000) (q := 1000000000) ⟨by omega, h1⟩ hc
  omega
theorem specSquare (a b n : Int) (w : World) (a0 : 0 ≤ a) (a1 : a ≤ 10000) (b0 : 0 ≤ b) (b1 : b ≤ 10000) (h0 : -1000000 ≤ n) (h1 : n ≤ 1000000) : Calls Try.prog 40 #[.int .i64 a, .int .i64 b, .int .i64 n] w (Ans (.int .i64 (sqI a b n)) w) := by
  have HC := Go.Lib.hid (fun w0 => specCosine n w0 h0 h1)
  have hc := cosI_bd n
  obtain ⟨p0, p1⟩ := two_bd a0 a1 b0 b1
  have p2 := three_bd p0 p1 hc
  have p3 := nrm_mul p0 hc
  have s1 := sq_bd a0 a1
  have s2 := sq_bd b0 b1
  have HV : Hid (sqI a b n = a * a + b * b - nrm (2 * a * b * cosI n)) := rfl
  have HN := Go.Lib.hid (fun w0 => specNearestU (2 * a * b * cosI n) w0 (by omega) (by omega))
  generalize cosI n = c at HC HN HV hc p2 p3
  go_enter Try.func40, Try.ntmps40
  go_wp2_with fail
  refine (HC.out _).mono ?_
  rintro _ w1 ⟨rfl, b1⟩
  go_wp2_with fail
  refine (HN.out _).mono ?_
  rintro _ _ ⟨rfl, rfl⟩
  go_wp2_with fail
  go_ret
  exact ⟨by rw [HV.out]; rfl, b1⟩
theorem specNear (n : Int) (w : World) (h0 : 0 ≤ n) (h1 : n ≤ 400000000) : Calls Try.prog 39 #[.int .i64 n] w (Just (.int .i64 (nearI n)) w) := by
  have HR := Go.Lib.hid (specRoot n w h0 (by omega))
  have hv : nearI n = if rootI n < n - rootI n * rootI n then rootI n + 1 else rootI n := rfl
  obtain ⟨r0, r1⟩ := rootI_bd h0 (by omega)
  obtain ⟨q0, q1, q2⟩ := rootI_ok h0
  rw [hv]
  clear hv
  generalize rootI n = r at HR r0 r1 q1 q2 ⊢
  have hm : 0 ≤ r * r := sq0 r
  have wm : IntKind.i64.wrap (r * r) = r * r := IntWalk.i64_in _ (by omega)
  by_cases hc : r < n - r * r
  · rw [if_pos hc]
    go_enter Try.func39, Try.ntmps39
    go_wp2_with fail
    refine (HR.out).mono ?_
    rintro _ _ ⟨rfl, rfl⟩
    go_wp2_with fail
    go_ret
    exact ⟨rfl, rfl⟩
  · rw [if_neg hc]
    go_enter Try.func39, Try.ntmps39
    go_wp2_with fail
    refine (HR.out).mono ?_
    rintro _ _ ⟨rfl, rfl⟩
    go_wp2_with fail
    go_ret
    exact ⟨rfl, rfl⟩
theorem specCode (a b n : Int) (w : World) : Calls Try.prog 38 #[.int .i64 a, .int .i64 b, .int .i64 n] w (Just (.int .i64 (if okB a b n then 0 else 2)) w) := by
  have HA := Go.Lib.hid (specRadius a w)
  have HB := Go.Lib.hid (specRadius b w)
  have HS := Go.Lib.hid (specSteps n w)
  unfold okB
  generalize radB a = x at HA ⊢
  generalize radB b = y at HB ⊢
  generalize stepsB n = z at HS ⊢
  cases x
  · skip
    go_enter Try.func38, Try.ntmps38
    go_wp2_with fail
    refine (HA.out).mono ?_
    rintro _ _ ⟨rfl, rfl⟩
    go_wp2_with fail
    go_ret
    exact ⟨rfl, rfl⟩
  · cases y
    · skip
      go_enter Try.func38, Try.ntmps38
      go_wp2_with fail
      refine (HA.out).mono ?_
      rintro _ _ ⟨rfl, rfl⟩
      go_wp2_with fail
      refine (HB.out).mono ?_
      rintro _ _ ⟨rfl, rfl⟩
      go_wp2_with fail
      go_ret
      exact ⟨rfl, rfl⟩
    · cases z
      · skip
        go_enter Try.func38, Try.ntmps38
        go_wp2_with fail
        refine (HA.out).mono ?_
        rintro _ _ ⟨rfl, rfl⟩
        go_wp2_with fail
        refine (HB.out).mono ?_
        rintro _ _ ⟨rfl, rfl⟩
        go_wp2_with fail
        refine (HS.out).mono ?_
        rintro _ _ ⟨rfl, rfl⟩
        go_wp2_with fail
        go_ret
        exact ⟨rfl, rfl⟩
      · skip
        go_enter Try.func38, Try.ntmps38
        go_wp2_with fail
        refine (HA.out).mono ?_
        rintro _ _ ⟨rfl, rfl⟩
        go_wp2_with fail
        refine (HB.out).mono ?_
        rintro _ _ ⟨rfl, rfl⟩
        go_wp2_with fail
        refine (HS.out).mono ?_
        rintro _ _ ⟨rfl, rfl⟩
        go_wp2_with fail
        go_ret
        exact ⟨rfl, rfl⟩
theorem specSquareBetween (a b n : Int) (w : World) : Calls Try.prog 17 #[.int .i64 a, .int .i64 b, .int .i64 n] w (Ans (pairV (sqA a b n)) w) := by
  have HK := Go.Lib.hid (specCode a b n w)
  cases hb : okB a b n
  · rw [hb] at HK
    have HV : Hid (sqA a b n = (0, 2)) := by unfold sqA; rw [hb]; rfl
    go_enter Try.func17, Try.ntmps17
    go_wp2_with fail
    refine (HK.out).mono ?_
    rintro _ _ ⟨rfl, rfl⟩
    go_wp2_with fail
    go_ret2
    exact ⟨by rw [HV.out]; rfl, Below.refl _ _⟩
  · rw [hb] at HK
    have HV : Hid (sqA a b n = (sqI a b n, 0)) := by unfold sqA; rw [hb]; rfl
    have hb2 := hb
    unfold okB at hb2
    simp only [Bool.and_eq_true, radB_iff, stepsB_iff] at hb2
    obtain ⟨⟨⟨a0, a1⟩, c0, c1⟩, n0, n1⟩ := hb2
    have HQ := Go.Lib.hid (fun w0 => specSquare a b n w0 a0 a1 c0 c1 (by omega) (by omega))
    go_enter Try.func17, Try.ntmps17
    go_wp2_with fail
    refine (HK.out).mono ?_
    rintro _ _ ⟨rfl, rfl⟩
    go_wp2_with fail
    refine (HQ.out _).mono ?_
    rintro _ w1 ⟨rfl, b1⟩
    go_wp2_with fail
    go_ret2
    exact ⟨by rw [HV.out]; rfl, b1⟩
theorem specDistanceBetween (a b n : Int) (w : World) : Calls Try.prog 15 #[.int .i64 a, .int .i64 b, .int .i64 n] w (Ans (pairV (distA a b n)) w) := by
  have HK := Go.Lib.hid (specCode a b n w)
  cases hb : okB a b n
  · rw [hb] at HK
    have HV : Hid (distA a b n = (0, 2)) := by unfold distA; rw [hb]; rfl
    go_enter Try.func15, Try.ntmps15
    go_wp2_with fail
    refine (HK.out).mono ?_
    rintro _ _ ⟨rfl, rfl⟩
    go_wp2_with fail
    go_ret2
    exact ⟨by rw [HV.out]; rfl, Below.refl _ _⟩
  · rw [hb] at HK
    have HV : Hid (distA a b n = (distI a b n, 0)) := by unfold distA; rw [hb]; rfl
    have hb2 := hb
    unfold okB at hb2
    simp only [Bool.and_eq_true, radB_iff, stepsB_iff] at hb2
    obtain ⟨⟨⟨a0, a1⟩, c0, c1⟩, n0, n1⟩ := hb2
    have HQ := Go.Lib.hid (fun w0 => specSquare a b n w0 a0 a1 c0 c1 (by omega) (by omega))
    have q0 := sqI_nonneg n a0 c0
    have q1 := sqI_le n a0 c0 a1 c1
    have HD := Go.Lib.hid (fun w0 => specNear (sqI a b n) w0 q0 q1)
    have HE : Hid (distI a b n = nearI (sqI a b n)) := rfl
    generalize sqI a b n = S at HQ HD HE q0 q1
    go_enter Try.func15, Try.ntmps15
    go_wp2_with fail
    refine (HK.out).mono ?_
    rintro _ _ ⟨rfl, rfl⟩
    go_wp2_with fail
    refine (HQ.out _).mono ?_
    rintro _ w1 ⟨rfl, b1⟩
    go_wp2_with fail
    refine (HD.out _).mono ?_
    rintro _ _ ⟨rfl, rfl⟩
    go_wp2_with fail
    go_ret2
    exact ⟨by rw [HV.out, HE.out]; rfl, b1⟩
set_option maxRecDepth 100000 in
theorem specStepsFor (a b z : Int) (w : World) : Calls Try.prog 20 #[.int .i64 a, .int .i64 b, .int .i64 z] w (Ans (pairV (seekA a b z)) w) := by
  have HK := Go.Lib.hid (specCode a b 0 w)
  have HZ := Go.Lib.hid (inN z 0 20000 w)
  have hk : okB a b 0 = (radB a && radB b) := by unfold okB; simp [stepsB]
  rw [hk] at HK
  clear hk
  cases hb : (radB a && radB b)
  · rw [hb] at HK
    have HV : Hid (seekA a b z = (0, 2)) := by unfold seekA; rw [hb]; rfl
    go_enter Try.func20, Try.ntmps20
    go_wp2_with fail
    refine (HK.out).mono ?_
    rintro _ _ ⟨rfl, rfl⟩
    go_wp2_with fail
    go_ret2
    exact ⟨by rw [HV.out]; rfl, Below.refl _ _⟩
  · rw [hb] at HK
    cases hz : (decide (0 ≤ z) && decide (z ≤ 20000))
    · rw [hz] at HZ
      have HV : Hid (seekA a b z = (0, 2)) := by unfold seekA; rw [hb, hz]; rfl
      go_enter Try.func20, Try.ntmps20
      go_wp2_with fail
      refine (HK.out).mono ?_
      rintro _ _ ⟨rfl, rfl⟩
      go_wp2_with fail
      refine (HZ.out).mono ?_
      rintro _ _ ⟨rfl, rfl⟩
      go_wp2_with fail
      go_ret2
      exact ⟨by rw [HV.out]; rfl, Below.refl _ _⟩
    · rw [hz] at HZ
      have hv : seekA a b z = (match seekI a b z with | some k => ((k : Int), 0) | none => (0, 4)) := by unfold seekA; rw [hb, hz]; rfl
      have HF : Hid (∀ k, seekI a b z = some k → seekA a b z = ((k : Int), 0)) := fun k h => by rw [hv, h]
      have HN : Hid (seekI a b z = none → seekA a b z = (0, 4)) := fun h => by rw [hv, h]
      simp only [Bool.and_eq_true, radB_iff, decide_eq_true_eq] at hb hz
      obtain ⟨⟨a0, a1⟩, c0, c1⟩ := hb
      obtain ⟨z0, z1⟩ := hz
      clear hv
      have HQ := Go.Lib.hid (fun k w0 h0 h1 => specSquare a b k w0 a0 a1 c0 c1 h0 h1)
      go_enter Try.func20, Try.ntmps20
      go_wp2_with fail
      refine (HK.out).mono ?_
      rintro _ _ ⟨rfl, rfl⟩
      go_wp2_with fail
      refine (HZ.out).mono ?_
      rintro _ _ ⟨rfl, rfl⟩
      go_wp2_with fail
      go_loopw [9] (fun i wr => ∃ k : Nat, k ≤ 361 ∧ i = .int .i64 k ∧ seekI a b z = seek (farB a b z) (361 - k) k ∧ Below w.heap.size w wr) (fun i _ => 361 - (intOf i).toNat)
      case atStart => exact ⟨0, by omega, rfl, rfl, Below.refl _ _⟩
      case round =>
        obtain ⟨k, hk, rfl, hseek, hb⟩ := hrel
        by_cases hlt : k ≤ 360
        · have hltI : (k : Int) ≤ 360 := by omega
          have q0 := sqI_nonneg (k : Int) a0 c0
          have q1 := sqI_le (k : Int) a0 c0 a1 c1
          have HQ1 := Go.Lib.hid (fun w0 => HQ.out k w0 (by omega) (by omega))
          have HD := Go.Lib.hid (fun w0 => specNear (sqI a b k) w0 q0 q1)
          have hstep : seek (farB a b z) (361 - k) k = if farB a b z k then some k else seek (farB a b z) (361 - (k + 1)) (k + 1) := by
            rw [show 361 - k = (360 - k) + 1 by omega, show 361 - (k + 1) = 360 - k by omega]; rfl
          have hfar : farB a b z k = decide (z ≤ nearI (sqI a b k)) := rfl
          rw [hstep, hfar] at hseek
          have SK := Go.Lib.hid hseek
          clear hseek hstep hfar
          generalize sqI a b k = S at HQ1 HD q0 q1 SK
          generalize nearI S = d at HD SK
          by_cases hd : z ≤ d
          · have SV := SK.out
            rw [decide_eq_true hd, if_pos rfl] at SV
            have HV := Go.Lib.hid (HF.out k SV)
            clear SV
            go_wp2_with fail
            refine (HQ1.out _).mono ?_
            rintro _ w1 ⟨rfl, b1⟩
            go_wp2_with fail
            refine (HD.out _).mono ?_
            rintro _ _ ⟨rfl, rfl⟩
            go_wp2_with fail
            go_ret2
            exact ⟨by rw [HV.out]; rfl, hb.trans (b1.mono hb.size)⟩
          · have SV := SK.out
            rw [decide_eq_false hd, if_neg (by simp)] at SV
            have HV := Go.Lib.hid SV
            clear SV
            go_wp2_with fail
            refine (HQ1.out _).mono ?_
            rintro _ w1 ⟨rfl, b1⟩
            go_wp2_with fail
            refine (HD.out _).mono ?_
            rintro _ _ ⟨rfl, rfl⟩
            go_wp2_with fail
            go_roundw
            case rel => exact ⟨k + 1, by omega, by go_num, HV.out, hb.trans (b1.mono hb.size)⟩
            case measure => simp [intOf]; omega
        · have hgtI : ¬ (k : Int) ≤ 360 := by omega
          have HV := Go.Lib.hid (HN.out (by rw [hseek, show 361 - k = 0 by omega]; rfl))
          go_wp2_with fail
          go_ret2
          exact ⟨by rw [HV.out]; rfl, hb⟩
end Go.Proofs.Ytcphhcnomaociaa
