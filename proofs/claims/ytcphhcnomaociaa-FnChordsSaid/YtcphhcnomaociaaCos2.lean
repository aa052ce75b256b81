/- Contracts of the model's functions of chapter 3, whole. -/
import Derived.Test.YtcphhcnomaociaaCos
import Derived.Test.YtcphhcnomaociaaTurns
import Derived.Test.YtcphhcnomaociaaPlainCosA
namespace Go.Proofs.Ytcphhcnomaociaa
open Go.RowKit

theorem mul_bd2 {r c : Int} (h0 : 0 ≤ r) (h1 : r ≤ 10000) (hc : -1000000000 ≤ c ∧ c ≤ 1000000000) : -10000000000000 ≤ r * c ∧ r * c ≤ 10000000000000 := by
  have := prod_le (a := r) (b := c) (p := 10000) (q := 1000000000) ⟨by omega, h1⟩ hc
  omega
theorem specRadius (n : Int) (w : World) : Calls Try.prog 57 #[.int .i64 n] w (Just (.bool (radB n)) w) := by
  go_enter Try.func57, Try.ntmps57
  go_wp2_with fail
  refine (inN _ _ _ _).mono ?_
  rintro _ _ ⟨rfl, rfl⟩
  go_wp2_with fail
  go_ret
  exact ⟨rfl, rfl⟩
theorem specSineOf (n : Int) (w : World) : Calls Try.prog 27 #[.int .i64 n] w (Ans (pairV (sinA n)) w) := by
  have HS := Go.Lib.hid (specSteps n w)
  cases hb : stepsB n
  · have HV : Hid (sinA n = (0, 2)) := by unfold sinA; rw [hb]; rfl
    go_enter Try.func27, Try.ntmps27
    go_wp2_with fail
    refine (HS.out).mono ?_
    rintro _ _ ⟨rfl, rfl⟩
    go_wp2_with fail
    go_ret2
    exact ⟨by rw [HV.out]; rfl, Below.refl _ _⟩
  · have HV : Hid (sinA n = (cosI (180 - n), 0)) := by unfold sinA; rw [hb]; rfl
    obtain ⟨h0, h1⟩ := stepsB_iff.1 hb
    have HC := Go.Lib.hid (fun w0 => specCosine (180 - n) w0 (by omega) (by omega))
    go_enter Try.func27, Try.ntmps27
    go_wp2_with fail
    refine (HS.out).mono ?_
    rintro _ _ ⟨rfl, rfl⟩
    go_wp2_with fail
    refine (HC.out _).mono ?_
    rintro _ w1 ⟨rfl, b1⟩
    go_wp2_with fail
    go_ret2
    exact ⟨by rw [HV.out]; rfl, b1⟩
theorem specPointOn (r n : Int) (w : World) : Calls Try.prog 26 #[.int .i64 r, .int .i64 n] w (Ans (tripV (pointA r n)) w) := by
  have HR := Go.Lib.hid (specRadius r w)
  have HS := Go.Lib.hid (specSteps n w)
  cases hr : radB r
  · have HV : Hid (pointA r n = (0, 0, 2)) := by unfold pointA; rw [hr]; rfl
    go_enter Try.func26, Try.ntmps26
    go_wp2_with fail
    refine (HR.out).mono ?_
    rintro _ _ ⟨rfl, rfl⟩
    go_wp2_with fail
    go_ret3
    exact ⟨by rw [HV.out]; rfl, Below.refl _ _⟩
  · cases hb : stepsB n
    · have HV : Hid (pointA r n = (0, 0, 2)) := by unfold pointA; rw [hr, hb]; rfl
      go_enter Try.func26, Try.ntmps26
      go_wp2_with fail
      refine (HR.out).mono ?_
      rintro _ _ ⟨rfl, rfl⟩
      go_wp2_with fail
      refine (HS.out).mono ?_
      rintro _ _ ⟨rfl, rfl⟩
      go_wp2_with fail
      go_ret3
      exact ⟨by rw [HV.out]; rfl, Below.refl _ _⟩
    · have HV : Hid (pointA r n = (nrm (r * cosI n), nrm (r * cosI (180 - n)), 0)) := by unfold pointA; rw [hr, hb]; rfl
      obtain ⟨h0, h1⟩ := stepsB_iff.1 hb
      obtain ⟨r0, r1⟩ := radB_iff.1 hr
      have HC := Go.Lib.hid (fun w0 => specCosine n w0 (by omega) (by omega))
      have HC2 := Go.Lib.hid (fun w0 => specCosine (180 - n) w0 (by omega) (by omega))
      have p1 := mul_bd2 r0 r1 (cosI_bd n)
      have p2 := mul_bd2 r0 r1 (cosI_bd (180 - n))
      have c1 := cosI_bd n
      have c2 := cosI_bd (180 - n)
      have HN := Go.Lib.hid (fun w0 => specNearestU (r * cosI n) w0 (by omega) (by omega))
      have HN2 := Go.Lib.hid (fun w0 => specNearestU (r * cosI (180 - n)) w0 (by omega) (by omega))
      generalize cosI n = x at HV HC HN p1 c1
      generalize cosI (180 - n) = y at HV HC2 HN2 p2 c2
      go_enter Try.func26, Try.ntmps26
      go_wp2_with fail
      refine (HR.out).mono ?_
      rintro _ _ ⟨rfl, rfl⟩
      go_wp2_with fail
      refine (HS.out).mono ?_
      rintro _ _ ⟨rfl, rfl⟩
      go_wp2_with fail
      refine (HC.out _).mono ?_
      rintro _ w1 ⟨rfl, b1⟩
      go_wp2_with fail
      refine (HN.out _).mono ?_
      rintro _ _ ⟨rfl, rfl⟩
      go_wp2_with fail
      refine (HC2.out _).mono ?_
      rintro _ w2 ⟨rfl, b2⟩
      go_wp2_with fail
      refine (HN2.out _).mono ?_
      rintro _ _ ⟨rfl, rfl⟩
      go_wp2_with fail
      go_ret3
      exact ⟨by rw [HV.out]; rfl, b1.trans (b2.mono b1.size)⟩
end Go.Proofs.Ytcphhcnomaociaa
