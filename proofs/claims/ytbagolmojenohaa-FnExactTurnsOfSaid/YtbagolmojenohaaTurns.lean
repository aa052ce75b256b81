/- Contracts of TurnsOf in both programs, and of the divisions that round down. -/
import Derived.Test.YtbagolmojenohaaProg
import Derived.Test.YtbagolmojenohaaMem
import Derived.Test.YtbagolmojenohaaFloor
import Derived.WalkKit
import Derived.WalkLawsBesides
import Derived.WalkSpells
import Derived.Below
import Derived.Deep.QuietTactic
import Derived.BigQuiet
import Derived.KernelRfl
import Derived.Lib.Hide
namespace Go.Proofs.Ytbagolmojenohaa
open Go.RowKit

/-- An answer, and nothing else. -/
def Just (v : Value) (w : World) (e : Ending) (w' : World) : Prop := e = .returned v ∧ w = w'

theorem inN (n a b : Int) (w : World) :
    Calls Try.prog 12 #[.int .i64 n, .int .i64 a, .int .i64 b] w (Just (.bool (decide (a ≤ n) && decide (n ≤ b))) w) := by
  by_cases h1 : a ≤ n
  · go_enter Try.func12, Try.ntmps12
    go_wp2
    go_ret
    exact ⟨by simp [h1], rfl⟩
  · go_enter Try.func12, Try.ntmps12
    go_wp2
    go_ret
    exact ⟨by simp; intro; omega, rfl⟩

theorem specFloor (n d : Int) (w : World) (hd : 0 < d) (hd2 : d ≤ 4611686018427387904) (h0 : -4611686018427387904 ≤ n) (h1 : n ≤ 4611686018427387904) :
    Calls Try.prog 7 #[.int .i64 n, .int .i64 d] w (Just (.int .i64 (n / d)) w) := by
  obtain ⟨q0, q1⟩ := floor_bd hd h0 h1
  by_cases h : n.tmod d < 0
  · have e := (floor_neg hd h).1
    go_enter Try.func7, Try.ntmps7
    go_wp2
    go_ret
    exact ⟨rfl, rfl⟩
  · have e := (floor_pos hd h).1
    go_enter Try.func7, Try.ntmps7
    go_wp2
    go_ret
    exact ⟨rfl, rfl⟩
theorem implDown (n d : Int) (w : World) (hd : 0 < d) (hd2 : d ≤ 4611686018427387904) (h0 : -4611686018427387904 ≤ n) (h1 : n ≤ 4611686018427387904) :
    Calls Try.prog 10 #[.int .i64 n, .int .i64 d] w (Just (.int .i64 (n / d)) w) := by
  obtain ⟨q0, q1⟩ := floor_bd hd h0 h1
  by_cases h : n.tmod d < 0
  · have e := (floor_neg hd h).1
    go_enter Try.func10, Try.ntmps10
    go_wp2
    go_ret
    exact ⟨rfl, rfl⟩
  · have e := (floor_pos hd h).1
    go_enter Try.func10, Try.ntmps10
    go_wp2
    go_ret
    exact ⟨rfl, rfl⟩
theorem specMod (n d : Int) (w : World) (hd : 0 < d) (hd2 : d ≤ 4611686018427387904) (h0 : -4611686018427387904 ≤ n) (h1 : n ≤ 4611686018427387904) :
    Calls Try.prog 8 #[.int .i64 n, .int .i64 d] w (Just (.int .i64 (n % d)) w) := by
  have e := mod_of n hd
  obtain ⟨q0, q1⟩ := tmod_bd n hd
  go_enter Try.func8, Try.ntmps8
  go_wp2
  go_ret
  exact ⟨rfl, rfl⟩
theorem implRest (n : Int) (w : World) (h0 : -1000000 ≤ n) (h1 : n ≤ 1000000) :
    Calls Try.prog 11 #[.int .i64 n] w (Just (.int .i64 (n % 720)) w) := by
  have HD := Go.Lib.hid (implDown n 720 w (by omega) (by omega) (by omega) (by omega))
  have q0 : -4000 ≤ n / 720 := by omega
  have q1 : n / 720 ≤ 4000 := by omega
  have e : n - 720 * (n / 720) = n % 720 := by omega
  go_enter Try.func11, Try.ntmps11
  go_wp2_with fail
  refine HD.out.mono ?_
  rintro _ _ ⟨rfl, rfl⟩
  go_wp2_with fail
  go_ret
  exact ⟨rfl, rfl⟩

def stepsB (n : Int) : Bool := decide (-100000 ≤ n) && decide (n ≤ 100000)
theorem stepsB_iff {n : Int} : stepsB n = true ↔ -100000 ≤ n ∧ n ≤ 100000 := by simp [stepsB]
theorem specSteps (n : Int) (w : World) : Calls Try.prog 6 #[.int .i64 n] w (Just (.bool (stepsB n)) w) := by
  go_enter Try.func6, Try.ntmps6
  go_wp2_with fail
  refine (inN _ _ _ _).mono ?_
  rintro _ _ ⟨rfl, rfl⟩
  go_wp2_with fail
  go_ret
  exact ⟨rfl, rfl⟩
theorem implSteps (n : Int) (w : World) : Calls Try.prog 9 #[.int .i64 n] w (Just (.bool (stepsB n)) w) := by
  by_cases h1 : -100000 ≤ n
  · go_enter Try.func9, Try.ntmps9
    go_wp2
    go_ret
    exact ⟨by simp [stepsB, h1], rfl⟩
  · go_enter Try.func9, Try.ntmps9
    go_wp2
    go_ret
    exact ⟨by simp [stepsB]; intro; omega, rfl⟩

/-- What TurnsOf hands back in both programs. -/
def turnsV (n : Int) : Value := if stepsB n then .tuple #[.int .i64 (n / 720), .int .i64 (n % 720), .int .i64 0] else .tuple #[.int .i64 0, .int .i64 0, .int .i64 2]
theorem specTurnsOf (n : Int) (w : World) : Calls Try.prog 4 #[.int .i64 n] w (Just (turnsV n) w) := by
  have HS := Go.Lib.hid (specSteps n w)
  cases hb : stepsB n
  · have HV : Hid (turnsV n = .tuple #[.int .i64 0, .int .i64 0, .int .i64 2]) := by unfold turnsV; rw [hb]; rfl
    go_enter Try.func4, Try.ntmps4
    go_wp2_with fail
    refine HS.out.mono ?_
    rintro _ _ ⟨rfl, rfl⟩
    go_wp2_with fail
    go_ret3
    exact ⟨by rw [HV.out]; rfl, rfl⟩
  · have HV : Hid (turnsV n = .tuple #[.int .i64 (n / 720), .int .i64 (n % 720), .int .i64 0]) := by unfold turnsV; rw [hb]; rfl
    obtain ⟨h0, h1⟩ := stepsB_iff.1 hb
    have HF := Go.Lib.hid (specFloor n 720 w (by omega) (by omega) (by omega) (by omega))
    have HM := Go.Lib.hid (specMod n 720 w (by omega) (by omega) (by omega) (by omega))
    go_enter Try.func4, Try.ntmps4
    go_wp2_with fail
    refine HS.out.mono ?_
    rintro _ _ ⟨rfl, rfl⟩
    go_wp2_with fail
    refine HF.out.mono ?_
    rintro _ _ ⟨rfl, rfl⟩
    go_wp2_with fail
    refine HM.out.mono ?_
    rintro _ _ ⟨rfl, rfl⟩
    go_wp2_with fail
    go_ret3
    exact ⟨by rw [HV.out]; rfl, rfl⟩
theorem implTurnsOf (n : Int) (w : World) : Calls Try.prog 5 #[.int .i64 n] w (Just (turnsV n) w) := by
  have HS := Go.Lib.hid (implSteps n w)
  cases hb : stepsB n
  · have HV : Hid (turnsV n = .tuple #[.int .i64 0, .int .i64 0, .int .i64 2]) := by unfold turnsV; rw [hb]; rfl
    go_enter Try.func5, Try.ntmps5
    go_wp2_with fail
    refine HS.out.mono ?_
    rintro _ _ ⟨rfl, rfl⟩
    go_wp2_with fail
    go_ret3
    exact ⟨by rw [HV.out]; rfl, rfl⟩
  · have HV : Hid (turnsV n = .tuple #[.int .i64 (n / 720), .int .i64 (n % 720), .int .i64 0]) := by unfold turnsV; rw [hb]; rfl
    obtain ⟨h0, h1⟩ := stepsB_iff.1 hb
    have HF := Go.Lib.hid (implDown n 720 w (by omega) (by omega) (by omega) (by omega))
    have HM := Go.Lib.hid (implRest n w (by omega) (by omega))
    go_enter Try.func5, Try.ntmps5
    go_wp2_with fail
    refine HS.out.mono ?_
    rintro _ _ ⟨rfl, rfl⟩
    go_wp2_with fail
    refine HF.out.mono ?_
    rintro _ _ ⟨rfl, rfl⟩
    go_wp2_with fail
    refine HM.out.mono ?_
    rintro _ _ ⟨rfl, rfl⟩
    go_wp2_with fail
    go_ret3
    exact ⟨by rw [HV.out]; rfl, rfl⟩
end Go.Proofs.Ytbagolmojenohaa
