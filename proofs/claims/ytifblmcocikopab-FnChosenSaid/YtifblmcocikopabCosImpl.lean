/- The program's cosine (this text turns with the program). -/
import Derived.Test.YtifblmcocikopabCos
import Derived.Test.YtifblmcocikopabTurns
namespace Go.Proofs.Ytifblmcocikopab
open Go.RowKit
theorem implNearest (n : Int) (w : World) (h0 : -2000000000000000000 ≤ n) (h1 : n ≤ 2000000000000000000) :
    Calls Try.prog 64 #[.int .i64 n, .int .i64 1000000000] w (Just (.int .i64 (nrm n)) w) := by
  have HD := Go.Lib.hid (implDown (n + 500000000) 1000000000 w (by omega) (by omega) (by omega) (by omega))
  have HV : Hid (nrm n = (n + 500000000) / 1000000000) := rfl
  go_enter Try.func64, Try.ntmps64
  go_wp2_with fail
  refine HD.out.mono ?_
  rintro _ _ ⟨rfl, rfl⟩
  go_wp2_with fail
  go_ret
  exact ⟨by rw [HV.out]; rfl, rfl⟩
/-- The number before the k-th. -/
def bN (k : Nat) : Int := if k = 0 then 999961923 else cN (k - 1)
theorem bN_fit {k : Nat} (h : k ≤ 180) : 0 ≤ bN k ∧ bN k ≤ 1000000000 := by
  unfold bN
  split
  · omega
  · have := cN_fit (k := k - 1) (by omega); omega
theorem bN_next (k : Nat) : bN (k + 1) = cN k := rfl
theorem bN_step {k : Nat} (h : k < 179) : cN (k + 1) = nrm (1999923846 * cN k) - bN k := by
  match k, h with
  | 0, _ => decide +kernel
  | m + 1, h => exact cN_step (by omega)
theorem implQuarter (n : Nat) (w : World) (hn : n ≤ 180) :
    Calls Try.prog 73 #[.int .i64 n] w (Just (.int .i64 (cN n)) w) := by
  by_cases h180 : n = 180
  · subst h180
    go_enter Try.func73, Try.ntmps73
    go_wp2_with fail
    go_ret
    exact ⟨by rw [cN_180]; rfl, rfl⟩
  · have hne : ((n : Int) == 180) = false := by simp; omega
    go_enter Try.func73, Try.ntmps73
    go_wp2_with fail
    go_loopw [3, 4, 8] (fun p c i wr => ∃ k : Nat, k ≤ n ∧ i = .int .i64 k ∧ p = .int .i64 (bN k) ∧ c = .int .i64 (cN k) ∧ wr = w) (fun _ _ i _ => n - (intOf i).toNat)
    case atStart => exact ⟨0, by omega, rfl, rfl, rfl, rfl⟩
    case round =>
      obtain ⟨k, hk, rfl, rfl, rfl, rfl⟩ := hrel
      by_cases hlt : k < n
      · have hltI : (k : Int) < (n : Int) := by omega
        have f1 := cN_fit (k := k) (by omega)
        have f0 := bN_fit (k := k) (by omega)
        have hb1 := nrm_mul (p := 1999923846) (c := cN k) (by omega) (by omega)
        have ST := Go.Lib.hid (bN_step (k := k) (by omega))
        have SB := Go.Lib.hid (bN_next k)
        generalize cN k = x1 at *
        generalize bN k = x0 at *
        have HT := Go.Lib.hid (fun w0 => implNearest (1999923846 * x1) w0 (by omega) (by omega))
        have e1 : IntKind.i64.wrap (1999923846 * x1) = 1999923846 * x1 := IntWalk.i64_in _ (by omega)
        have e2 : IntKind.i64.wrap (nrm (1999923846 * x1) - x0) = nrm (1999923846 * x1) - x0 := IntWalk.i64_in _ (by omega)
        clear f1 f0 hb1
        go_wp2_with fail
        refine (HT.out _).mono ?_
        rintro _ _ ⟨rfl, rfl⟩
        go_wp2_with fail
        go_roundw
        case rel => exact ⟨k + 1, by omega, by go_num, by rw [SB.out], by rw [ST.out], trivial⟩
        case measure => simp [intOf]; omega
      · have hltI : ¬ (k : Int) < (n : Int) := by omega
        obtain rfl : k = n := by omega
        go_wp2_with fail
        go_ret
        exact ⟨rfl, rfl⟩
set_option maxRecDepth 100000 in
theorem implCosine (n : Int) (w : World) (h0 : -1000000 ≤ n) (h1 : n ≤ 1000000) :
    Calls Try.prog 65 #[.int .i64 n] w (Ans (.int .i64 (cosI n)) w) := by
  have HM := Go.Lib.hid (implRest n w (by omega) (by omega))
  have HQ := Go.Lib.hid (fun k (hk : k ≤ 180) => implQuarter k w hk)
  have hR0 : 0 ≤ n % 720 := by omega
  have hR1 : n % 720 < 720 := by omega
  have hc : cosI n = if foldI n ≤ 180 then cN (foldI n).toNat else -cN (360 - foldI n).toNat := rfl
  have hf : foldI n = if n % 720 ≤ 360 then n % 720 else 720 - n % 720 := rfl
  have hb := foldI_bd n
  generalize n % 720 = R at *
  generalize cosI n = c at *
  generalize foldI n = f at *
  obtain ⟨m, rfl⟩ : ∃ m : Nat, f = m := ⟨f.toNat, by omega⟩
  by_cases h1 : (m : Int) ≤ 180
  · rw [if_pos h1, Int.toNat_natCast] at hc
    have HC := Go.Lib.hid hc
    have hn1 : ¬ (m : Int) > 180 := by omega
    have HQ1 := Go.Lib.hid (HQ.out m (by omega))
    by_cases h2 : R ≤ 360
    · obtain rfl : R = m := by rw [if_pos h2] at hf; omega
      have hn2 : ¬ (m : Int) > 360 := by omega
      clear hc hf
      go_enter Try.func65, Try.ntmps65
      go_wp2_with fail
      refine HM.out.mono ?_
      rintro _ _ ⟨rfl, rfl⟩
      go_wp2_with fail
      refine HQ1.out.mono ?_
      rintro _ _ ⟨rfl, rfl⟩
      go_wp2_with fail
      go_ret
      exact ⟨by rw [HC.out]; rfl, Below.refl _ _⟩
    · obtain rfl : R = 720 - m := by rw [if_neg h2] at hf; omega
      have hn2 : (720 - m : Int) > 360 := by omega
      have e1 : IntKind.i64.wrap (720 - (720 - (m : Int))) = m := by rw [IntWalk.i64_in _ (by omega)]; omega
      have e2 : 720 - (720 - (m : Int)) = m := by omega
      clear hc hf
      go_enter Try.func65, Try.ntmps65
      go_wp2_with fail
      refine HM.out.mono ?_
      rintro _ _ ⟨rfl, rfl⟩
      go_wp2_with fail
      refine HQ1.out.mono ?_
      rintro _ _ ⟨rfl, rfl⟩
      go_wp2_with fail
      go_ret
      exact ⟨by rw [HC.out]; rfl, Below.refl _ _⟩
  · rw [if_neg h1] at hc
    obtain ⟨j, hj⟩ : ∃ j : Nat, (360 - m : Int) = j := ⟨(360 - m : Int).toNat, by omega⟩
    rw [hj, Int.toNat_natCast] at hc
    have hmj : (m : Int) = 360 - j := by omega
    have cf := cN_fit (k := j) (by omega)
    have HQ1 := Go.Lib.hid (HQ.out j (by omega))
    generalize cN j = cj at *
    have HC := Go.Lib.hid hc
    by_cases h2 : R ≤ 360
    · obtain rfl : R = 360 - j := by rw [if_pos h2] at hf; omega
      have hn1 : (360 - j : Int) > 180 := by omega
      have hn2 : ¬ (360 - j : Int) > 360 := by omega
      have e1 : IntKind.i64.wrap (360 - (360 - (j : Int))) = j := by rw [IntWalk.i64_in _ (by omega)]; omega
      have e2 : 360 - (360 - (j : Int)) = j := by omega
      clear hc hf hmj hj
      go_enter Try.func65, Try.ntmps65
      go_wp2_with fail
      refine HM.out.mono ?_
      rintro _ _ ⟨rfl, rfl⟩
      go_wp2_with fail
      refine HQ1.out.mono ?_
      rintro _ _ ⟨rfl, rfl⟩
      go_wp2_with fail
      go_ret
      exact ⟨by rw [HC.out]; rfl, Below.refl _ _⟩
    · obtain rfl : R = 360 + j := by rw [if_neg h2] at hf; omega
      have hn1 : (360 - j : Int) > 180 := by omega
      have hn2 : (360 + j : Int) > 360 := by omega
      have e0 : IntKind.i64.wrap (720 - (360 + (j : Int))) = 360 - j := by rw [IntWalk.i64_in _ (by omega)]; omega
      have e3 : 720 - (360 + (j : Int)) = 360 - j := by omega
      have e1 : IntKind.i64.wrap (360 - (360 - (j : Int))) = j := by rw [IntWalk.i64_in _ (by omega)]; omega
      have e2 : 360 - (360 - (j : Int)) = j := by omega
      clear hc hf hmj hj
      go_enter Try.func65, Try.ntmps65
      go_wp2_with fail
      refine HM.out.mono ?_
      rintro _ _ ⟨rfl, rfl⟩
      go_wp2_with fail
      refine HQ1.out.mono ?_
      rintro _ _ ⟨rfl, rfl⟩
      go_wp2_with fail
      go_ret
      exact ⟨by rw [HC.out]; rfl, Below.refl _ _⟩
end Go.Proofs.Ytifblmcocikopab
