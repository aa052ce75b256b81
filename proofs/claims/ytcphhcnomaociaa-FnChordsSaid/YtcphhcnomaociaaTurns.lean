/- Contracts of TurnsOf in both programs. -/
import Derived.Test.YtcphhcnomaociaaNum
import Derived.Test.YtcphhcnomaociaaPlainCos
namespace Go.Proofs.Ytcphhcnomaociaa
open Go.RowKit

theorem implRest (n : Int) (w : World) (h0 : -1000000 ≤ n) (h1 : n ≤ 1000000) :
    Calls Try.prog 50 #[.int .i64 n] w (Just (.int .i64 (n % 720)) w) := by
  have HD := Go.Lib.hid (implDown n 720 w (by omega) (by omega) (by omega) (by omega))
  have q0 : -4000 ≤ n / 720 := by omega
  have q1 : n / 720 ≤ 4000 := by omega
  have e : n - 720 * (n / 720) = n % 720 := by omega
  go_enter Try.func50, Try.ntmps50
  go_wp2_with fail
  refine HD.out.mono ?_
  rintro _ _ ⟨rfl, rfl⟩
  go_wp2_with fail
  go_ret
  exact ⟨rfl, rfl⟩

theorem specSteps (n : Int) (w : World) : Calls Try.prog 51 #[.int .i64 n] w (Just (.bool (stepsB n)) w) := by
  go_enter Try.func51, Try.ntmps51
  go_wp2_with fail
  refine (inN _ _ _ _).mono ?_
  rintro _ _ ⟨rfl, rfl⟩
  go_wp2_with fail
  go_ret
  exact ⟨rfl, rfl⟩
theorem implSteps (n : Int) (w : World) : Calls Try.prog 36 #[.int .i64 n] w (Just (.bool (stepsB n)) w) := by
  by_cases h1 : -100000 ≤ n
  · go_enter Try.func36, Try.ntmps36
    go_wp2
    go_ret
    exact ⟨by simp [stepsB, h1], rfl⟩
  · go_enter Try.func36, Try.ntmps36
    go_wp2
    go_ret
    exact ⟨by simp [stepsB]; intro; omega, rfl⟩

/-- What TurnsOf hands back in both programs. -/
def turnsV (n : Int) : Value := if stepsB n then .tuple #[.int .i64 (n / 720), .int .i64 (n % 720), .int .i64 0] else .tuple #[.int .i64 0, .int .i64 0, .int .i64 2]
theorem specTurnsOf (n : Int) (w : World) : Calls Try.prog 23 #[.int .i64 n] w (Just (turnsV n) w) := by
  have HS := Go.Lib.hid (specSteps n w)
  cases hb : stepsB n
  · have HV : Hid (turnsV n = .tuple #[.int .i64 0, .int .i64 0, .int .i64 2]) := by unfold turnsV; rw [hb]; rfl
    go_enter Try.func23, Try.ntmps23
    go_wp2_with fail
    refine HS.out.mono ?_
    rintro _ _ ⟨rfl, rfl⟩
    go_wp2_with fail
    go_ret3
    exact ⟨by rw [HV.out]; rfl, rfl⟩
  · have HV : Hid (turnsV n = .tuple #[.int .i64 (n / 720), .int .i64 (n % 720), .int .i64 0]) := by unfold turnsV; rw [hb]; rfl
    obtain ⟨h0, h1⟩ := stepsB_iff.1 hb
    have HF := Go.Lib.hid (specFloor n 720 w (by omega) (by omega) (by omega) (by omega))
    have HM := Go.Lib.hid (specMod n 720 w (by omega) (by omega) (by omega) (by omega))
    go_enter Try.func23, Try.ntmps23
    go_wp2_with fail
    refine HS.out.mono ?_
    rintro _ _ ⟨rfl, rfl⟩
    go_wp2_with fail
    refine HF.out.mono ?_
    rintro _ _ ⟨rfl, rfl⟩
    go_wp2_with fail
    refine HM.out.mono ?_
    rintro _ _ ⟨rfl, rfl⟩
    go_wp2_with fail
    go_ret3
    exact ⟨by rw [HV.out]; rfl, rfl⟩
theorem implTurnsOf (n : Int) (w : World) : Calls Try.prog 22 #[.int .i64 n] w (Just (turnsV n) w) := by
  have HS := Go.Lib.hid (implSteps n w)
  cases hb : stepsB n
  · have HV : Hid (turnsV n = .tuple #[.int .i64 0, .int .i64 0, .int .i64 2]) := by unfold turnsV; rw [hb]; rfl
    go_enter Try.func22, Try.ntmps22
    go_wp2_with fail
    refine HS.out.mono ?_
    rintro _ _ ⟨rfl, rfl⟩
    go_wp2_with fail
    go_ret3
    exact ⟨by rw [HV.out]; rfl, rfl⟩
  · have HV : Hid (turnsV n = .tuple #[.int .i64 (n / 720), .int .i64 (n % 720), .int .i64 0]) := by unfold turnsV; rw [hb]; rfl
    obtain ⟨h0, h1⟩ := stepsB_iff.1 hb
    have HF := Go.Lib.hid (implDown n 720 w (by omega) (by omega) (by omega) (by omega))
    have HM := Go.Lib.hid (implRest n w (by omega) (by omega))
    go_enter Try.func22, Try.ntmps22
    go_wp2_with fail
    refine HS.out.mono ?_
    rintro _ _ ⟨rfl, rfl⟩
    go_wp2_with fail
    refine HF.out.mono ?_
    rintro _ _ ⟨rfl, rfl⟩
    go_wp2_with fail
    refine HM.out.mono ?_
    rintro _ _ ⟨rfl, rfl⟩
    go_wp2_with fail
    go_ret3
    exact ⟨by rw [HV.out]; rfl, rfl⟩
end Go.Proofs.Ytcphhcnomaociaa
