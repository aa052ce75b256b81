/- The model: the least plan. -/
import Derived.Test.YtpcaakmcjdginaaTruS6
namespace Go.Proofs.Ytpcaakmcjdginaa
open Go.RowKit
set_option linter.unusedSimpArgs false
set_option linter.unusedVariables false

theorem emptyOw (w : World) : Ow (w.alloc (.cells #[] 2)) w.heap.size (w.alloc (.cells #[] 2)).heap.size 2 (some ⟨w.heap.size, 0, none⟩) 0 0 (ints []) := by
  obtain ⟨A, cap, e, ho⟩ := row_ow (Gat.start (Below.refl w.heap.size w)).row
  cases e
  exact ho
set_option maxRecDepth 100000 in
set_option maxHeartbeats 8000000 in
theorem specLeast (A : Option Addr) (c : Nat) (zs : List Int) (B : Option Addr) (b : Nat) (s : List Int) (tol : Int) (w : World) (L : Ls zs A c w) (L2 : Ls s B b w) (n : Nat) (hnn : zs.length = n) :
    Calls Try.prog 18 #[.slice A n c, .slice B s.length b, .int .i64 tol] w (GivesLN (leastR zs s tol) w) := by
  have HC := Go.Lib.hid (specCode8 A c zs B b s tol w L L2)
  have HL := Go.Lib.hid L
  have HS := Go.Lib.hid L2
  rw [hnn] at HC
  clear L L2
  by_cases h1 : (devB zs && effB s) = true
  case neg =>
    have HV := Go.Lib.hid (show leastR zs s tol = ([], 1) by unfold leastR; rw [if_neg h1])
    rw [show code8 zs s tol = 1 by unfold code8; rw [if_neg h1]] at HC
    clear h1 hnn
    go_enter Try.func18, Try.ntmps18
    go_wp2_with fail
    refine (HC.out).mono ?_
    rintro _ _ ⟨rfl, rfl⟩
    go_wp2_with fail
    go_ret2
    exact GivesLN.nil HV.out (Below.refl _ _)
  case pos =>
  by_cases h2 : (decide (0 ≤ tol) && decide (tol ≤ 500)) = true
  case neg =>
    have HV := Go.Lib.hid (show leastR zs s tol = ([], 2) by unfold leastR; rw [if_pos h1, if_neg h2])
    rw [show code8 zs s tol = 2 by unfold code8; rw [if_pos h1, if_neg h2]] at HC
    clear h1 hnn h2
    go_enter Try.func18, Try.ntmps18
    go_wp2_with fail
    refine (HC.out).mono ?_
    rintro _ _ ⟨rfl, rfl⟩
    go_wp2_with fail
    go_ret2
    exact GivesLN.nil HV.out (Below.refl _ _)
  case pos =>
  rw [show code8 zs s tol = 0 by unfold code8; rw [if_pos h1, if_pos h2]] at HC
  have HV := Go.Lib.hid (show leastR zs s tol = if 0 < (leastI zs s tol).length then (leastI zs s tol, 0) else ([], 4) by unfold leastR; rw [if_pos h1, if_pos h2])
  rw [Bool.and_eq_true] at h1
  have hD := devB_iff.1 h1.1
  have h4 : 4 ≤ n := hnn ▸ hD.lo
  have h10 : n ≤ 10 := hnn ▸ hD.hi
  have HF := Go.Lib.hid (fun (k : Nat) D d lo w0 L0 L1 h0 => specFirst A c zs B b s tol n hnn h4 h10 (effB_iff.1 h1.2) hD.bd n k [] D d lo w0 L0 L1 h0)
  have HLI := Go.Lib.hid (show leastI zs s tol = leastUp (fun eff => firstR zs s tol n eff []) ((0 : Nat) : Int) (5 - 0) by unfold leastI; rw [hnn]; rfl)
  clear h1 h2 hD hnn
  go_enter Try.func18, Try.ntmps18
  go_wp2_with fail
  refine (HC.out).mono ?_
  rintro _ _ ⟨rfl, rfl⟩
  go_wp2_with fail
  go_loopw [9] (fun u wr => ∃ k : Nat, k ≤ 5 ∧ u = .int .i64 k ∧ leastI zs s tol = leastUp (fun eff => firstR zs s tol n eff []) (k : Int) (5 - k) ∧ Below w.heap.size w wr) (fun u _ => (5 - intOf u).toNat)
  case atStart => exact ⟨0, by omega, rfl, HLI.out, Below.refl _ _⟩
  case round =>
    obtain ⟨k, hk, rfl, hli, hb⟩ := hrel
    have HLK := Go.Lib.hid hli
    have HB := Go.Lib.hid hb
    clear hli hb HLI
    by_cases hk4 : k ≤ 4
    case neg =>
      obtain rfl : k = 5 := by omega
      have HV2 := Go.Lib.hid (show leastR zs s tol = ([], 4) by rw [HV.out, HLK.out]; rfl)
      have hc : ¬ ((5 : Nat) : Int) ≤ 4 := by omega
      go_wp2_with fail
      go_ret2
      exact GivesLN.nil HV2.out HB.out
    case pos =>
      have HST := Go.Lib.hid (show leastI zs s tol = if 0 < (firstR zs s tol n (k : Int) []).length then firstR zs s tol n (k : Int) [] else leastUp (fun eff => firstR zs s tol n eff []) ((k : Int) + 1) (5 - (k + 1)) by
        rw [HLK.out, show 5 - k = (5 - (k + 1)) + 1 by omega]; rfl)
      have hk4i : (k : Int) ≤ 4 := by omega
      have HBA := Go.Lib.hid (show Below wr.heap.size wr (wr.alloc (.cells #[] 2)) from (Below.refl _ _).alloc (Nat.le_refl _) _)
      have HB1 := Go.Lib.hid (HB.out.trans (HBA.out.mono HB.out.size))
      have HF2 := Go.Lib.hid (HF.out k _ _ _ _ (HL.out.below HB1.out) (HS.out.below HB1.out) (emptyOw wr) HBA.out.size (by simp) hk4 rfl)
      generalize firstR zs s tol n (k : Int) [] = fr at *
      clear HLK
      go_wp2_with fail
      refine HF2.out.mono ?_
      rintro _ w4 ⟨E4, f4, rfl, ho4, b4⟩
      have HB4 := Go.Lib.hid (HB1.out.trans (b4.mono HB1.out.size))
      have HO4 := Go.Lib.hid ho4
      clear b4 ho4
      by_cases hfl : 0 < fr.length
      case pos =>
        have HV2 := Go.Lib.hid (show leastR zs s tol = (fr, 0) by rw [HV.out, show leastI zs s tol = fr by rw [HST.out, if_pos hfl], if_pos hfl])
        have hfl2 : (0 : Int) < fr.length := by omega
        go_wp2_with fail
        go_ret2
        exact GivesLN.own HV2.out rfl (HO4.out.lower HB.out.size) HB4.out
      case neg =>
        have HV2 := Go.Lib.hid (show leastI zs s tol = leastUp (fun eff => firstR zs s tol n eff []) (((k + 1 : Nat)) : Int) (5 - (k + 1)) by rw [HST.out, if_neg hfl]; rfl)
        have hfl3 : ¬ (0 : Int) < fr.length := by omega
        go_wp2_with fail
        go_roundw
        case rel => exact ⟨k + 1, by omega, by go_num, HV2.out, HB4.out⟩
        case measure => simp [intOf]; omega
end Go.Proofs.Ytpcaakmcjdginaa
