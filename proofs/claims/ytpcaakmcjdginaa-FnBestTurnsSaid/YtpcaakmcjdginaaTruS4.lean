/- The model: the best turn, truing by turns. -/
import Derived.Test.YtpcaakmcjdginaaTruS3
import Derived.Test.YtpcaakmcjdginaaOne
import Derived.Test.YtpcaakmcjdginaaPlainTru2
namespace Go.Proofs.Ytpcaakmcjdginaa
open Go.RowKit
set_option linter.unusedSimpArgs false
set_option linter.unusedVariables false

/-- The best turn within a round: 1 has been tried, and -1. -/
def bestJ (zs e : List Int) (i : Nat) : Nat → Best
  | 0 => bestTo zs e i
  | 1 => bestStep zs e i 1 (bestTo zs e i)
  | _ => bestTo zs e (i + 1)
theorem bestJ_succ (zs e : List Int) (i j : Nat) (hj : j < 2) : bestJ zs e i (j + 1) = bestStep zs e i (1 - 2 * j) (bestJ zs e i j) := by
  match j, hj with
  | 0, _ => rfl
  | 1, _ => rfl
theorem oneT_rng2 {n p : Nat} {q : Int} (hp : p < n) (h0 : -100 ≤ q) (h1 : q ≤ 100) : rngB (-100) 100 (oneT n p q) = true := by
  rw [oneT_rng hp]; simp [h0, h1]
theorem afterI_bd {zs e ts : List Int} {X : Int} (hX : Bd X zs) (hS : Eff e) (hR : rngB (-100) 100 ts = true) (hl : ts.length = zs.length) (hn : zs.length ≤ 10) : Bd (X + 120000) (afterI zs e ts) :=
  (bdAllTo2 (n := zs.length) hX (sgT_bd hR) hS.rng hS.hi zs.length (by rw [sgT_len]; omega)).mono (by omega)
set_option maxRecDepth 100000 in
set_option maxHeartbeats 8000000 in
theorem specBest (A : Option Addr) (c : Nat) (zs : List Int) (B : Option Addr) (b : Nat) (s : List Int) (w : World) (L : Ls zs A c w) (L2 : Ls s B b w) (n : Nat) (hnn : zs.length = n) (h4 : 4 ≤ n) (h10 : n ≤ 10) (hS : Eff s) (X : Int) (hX : Bd X zs) (hX0 : 0 ≤ X) (hX1 : X ≤ 9000000) :
    Calls Try.prog 64 #[.slice A n c, .slice B s.length b] w (IsV w (.tuple #[.int .i64 (bestI zs s).p, .int .i64 (bestI zs s).q])) := by
  have HL := Go.Lib.hid L
  have HS := Go.Lib.hid L2
  have HSQ := Go.Lib.hid (specSq A c zs w L (hX.mono (by omega)) (by omega))
  rw [hnn] at HSQ
  have HAF := Go.Lib.hid (fun C e ts w0 L0 L1 L2 hR hl => specAfter A c zs B b s C e ts w0 L0 L1 L2 n hnn h4 h10 hS hR hl X hX hX0 (by omega))
  have HQ := Go.Lib.hid (fun D d ts w0 (hR : rngB (-100) 100 ts = true) (hl : ts.length = n) (L0 : Ls (afterI zs s ts) D d w0) => specSq D d (afterI zs s ts) w0 L0 ((afterI_bd hX hS hR (hl.trans hnn.symm) (by omega)).mono (by omega)) (by rw [afterI_len]; omega))
  have HB0 := Go.Lib.hid (show bestTo zs s 0 = ⟨-1, 0, sqS zs⟩ from rfl)
  have HLN := Go.Lib.hid (fun ts => (afterI_len zs s ts).trans hnn)
  have HST := Go.Lib.hid (fun i q (b0 : Best) => show bestStep zs s i q b0 = if sqS (afterI zs s (oneT n i q)) < b0.s then ⟨i, q, sqS (afterI zs s (oneT n i q))⟩ else b0 by unfold bestStep turnSq; rw [hnn])
  have HBI := Go.Lib.hid (show bestI zs s = bestTo zs s n by unfold bestI; rw [hnn])
  have HON := Go.Lib.hid (fun (i : Nat) (q : Int) (hi : i < n) w0 => specOne n i q w0 hi (by omega))
  have HOR := Go.Lib.hid (fun (i : Nat) (q : Int) (hi : i < n) h0 h1 => oneT_rng2 (n := n) (p := i) (q := q) hi h0 h1)
  clear L L2 hS hX hnn
  go_enter Try.func64, Try.ntmps64
  go_wp2_with fail
  refine HSQ.out.mono ?_
  rintro _ w1 ⟨rfl, b1⟩
  have HW := Go.Lib.hid b1
  have HL := Go.Lib.hid (HL.out.below b1)
  have HS := Go.Lib.hid (HS.out.below b1)
  clear b1 HSQ
  generalize hq0 : sqS zs = q0 at *
  go_wp2_with fail
  go_loopw [6, 7, 8, 9] (fun p q s1 i wr => ∃ k : Nat, k ≤ n ∧ i = .int .i64 k ∧ p = .int .i64 (bestTo zs s k).p ∧ q = .int .i64 (bestTo zs s k).q ∧ s1 = .int .i64 (bestTo zs s k).s ∧ Below w1.heap.size w1 wr) (fun _ _ _ i _ => n - (intOf i).toNat)
  case atStart => exact ⟨0, Nat.zero_le _, rfl, by rw [HB0.out], by rw [HB0.out], by rw [HB0.out], Below.refl _ _⟩
  case round =>
    obtain ⟨i, hi, rfl, rfl, rfl, rfl, hb⟩ := hrel
    have HBW := Go.Lib.hid hb
    have HW2 := Go.Lib.hid (HW.out.trans (hb.mono HW.out.size))
    clear hb
    by_cases hlt : i < n
    case neg =>
      obtain rfl : i = n := by omega
      rw [← HBI.out]
      go_wp2_with fail
      go_ret2
      exact ⟨rfl, HW2.out⟩
    case pos =>
      have hkl : (i : Int) < n := by omega
      obtain ⟨wo, rfl⟩ : ∃ wo : World, wo = wr := ⟨_, rfl⟩
      have HJ2 := Go.Lib.hid (show bestTo zs s (i + 1) = bestJ zs s i 2 from rfl)
      have HJ0 := Go.Lib.hid (show bestTo zs s i = bestJ zs s i 0 from rfl)
      rw [HJ0.out]
      go_wp2_with fail
      go_loopw [6, 7, 8, 10] (fun p q s1 u wr => ∃ j : Nat, j ≤ 2 ∧ u = .int .i64 (1 - 2 * j) ∧ p = .int .i64 (bestJ zs s i j).p ∧ q = .int .i64 (bestJ zs s i j).q ∧ s1 = .int .i64 (bestJ zs s i j).s ∧ Below wo.heap.size wo wr) (fun _ _ _ u _ => (intOf u + 3).toNat)
      case atStart => exact ⟨0, by omega, rfl, rfl, rfl, rfl, Below.refl _ _⟩
      case round =>
        obtain ⟨j, hj, rfl, rfl, rfl, rfl, hb⟩ := hrel
        have HBJ := Go.Lib.hid hb
        clear hb
        by_cases hj2 : j < 2
        case neg =>
          obtain rfl : j = 2 := by omega
          rw [← HJ2.out]
          have hc : ¬ (-1 : Int) ≤ 1 - 2 * ((2 : Nat) : Int) := by omega
          go_wp2_with fail
          go_roundw
          case rel => exact ⟨i + 1, by omega, by go_num, rfl, rfl, rfl, HBW.out.trans (HBJ.out.mono HBW.out.size)⟩
          case measure => simp [intOf]; omega
        case pos =>
          have HJS := Go.Lib.hid (bestJ_succ zs s i j hj2)
          rw [HST.out] at HJS
          have hb01 : (-1 : Int) ≤ 1 - 2 * (j : Int) := by omega
          have hb02 : 1 - 2 * (j : Int) ≤ 1 := by omega
          have HJN := Go.Lib.hid (show (1 : Int) - 2 * ((j + 1 : Nat) : Int) = 1 - 2 * (j : Int) - 2 by omega)
          have HJM := Go.Lib.hid (show ((1 : Int) - 2 * (j : Int) - 2 + 3).toNat < ((1 : Int) - 2 * (j : Int) + 3).toNat by omega)
          generalize bestJ zs s i j = bj at *
          obtain ⟨pj, qj, sj⟩ := bj
          generalize (1 : Int) - 2 * (j : Int) = q at *
          have hOR := HOR.out i q hlt (by omega) (by omega)
          have HO1 := Go.Lib.hid (HON.out i q hlt)
          have hol := oneT_len n i q
          have HA1 := Go.Lib.hid (fun C e w0 L0 L1 L2 => HAF.out C e (oneT n i q) w0 L0 L1 L2 hOR hol)
          have HQ1 := Go.Lib.hid (fun D d w0 L0 => HQ.out D d (oneT n i q) w0 hOR hol L0)
          rw [hol] at HA1
          have hal := HLN.out (oneT n i q)
          rw [hal] at HQ1
          have HAL := Go.Lib.hid hal
          have HOL := Go.Lib.hid hol
          clear hOR hol hal
          generalize oneT n i q = os at *
          generalize afterI zs s os = us at *
          generalize sqS us = sq at *
          have HB1 := Go.Lib.hid (HBW.out.trans (HBJ.out.mono HBW.out.size))
          go_wp2_with fail
          refine (HO1.out _).mono ?_
          rintro _ w3 ⟨g, rfl, ho, b3⟩
          have HB3 := Go.Lib.hid (HB1.out.trans (b3.mono HB1.out.size))
          have HBJ3 := Go.Lib.hid (HBJ.out.trans (b3.mono HBJ.out.size))
          have HOS := Go.Lib.hid (show Ls os (some ⟨g, 0, none⟩) n w3 from ⟨by rw [HOL.out]; exact ho.rd.here, by rw [HOL.out]; exact Nat.le_refl _, by rw [HOL.out]; omega⟩)
          clear ho b3
          go_wp2_with fail
          refine (HA1.out _ _ _ (HL.out.below HB3.out) (HS.out.below HB3.out) HOS.out).mono ?_
          rintro _ w4 ⟨g4, cap4, rfl, ht⟩
          have HU := Go.Lib.hid (show Ls us (some ⟨g4, 0, none⟩) cap4 w4 from ⟨by rw [HAL.out]; exact ht.ow.rd.here, by rw [HAL.out]; exact ht.ow.le, by rw [HAL.out]; omega⟩)
          have HBJ4 := Go.Lib.hid (HBJ3.out.trans (ht.b.mono HBJ3.out.size))
          clear ht
          go_wp2_with fail
          refine (HQ1.out _ _ _ HU.out).mono ?_
          rintro _ w5 ⟨rfl, b5⟩
          have HBJ5 := Go.Lib.hid (HBJ4.out.trans (b5.mono HBJ4.out.size))
          clear b5
          by_cases hless : sq < sj
          case pos =>
            rw [if_pos hless] at HJS
            go_wp2_with fail
            go_roundw
            case rel => exact ⟨j + 1, by omega, by rw [HJN.out], by rw [HJS.out], by rw [HJS.out], by rw [HJS.out], HBJ5.out⟩
            case measure =>
              have := HJM.out
              simp [intOf]; omega
          case neg =>
            rw [if_neg hless] at HJS
            go_wp2_with fail
            go_roundw
            case rel => exact ⟨j + 1, by omega, by rw [HJN.out], by rw [HJS.out], by rw [HJS.out], by rw [HJS.out], HBJ5.out⟩
            case measure =>
              have := HJM.out
              simp [intOf]; omega
set_option maxRecDepth 100000 in
set_option maxHeartbeats 4000000 in
theorem specBestTurn (A : Option Addr) (c : Nat) (zs : List Int) (B : Option Addr) (b : Nat) (s : List Int) (w : World) (L : Ls zs A c w) (L2 : Ls s B b w) (n : Nat) (hnn : zs.length = n) :
    Calls Try.prog 31 #[.slice A n c, .slice B s.length b] w (IsV w (.tuple #[.int .i64 (bestR zs s).1, .int .i64 (bestR zs s).2.1, .int .i64 (bestR zs s).2.2])) := by
  have HC := Go.Lib.hid (specCode8 A c zs B b s 0 w L L2)
  rw [hnn] at HC
  by_cases h1 : (devB zs && effB s) = true
  case neg =>
    have HV := Go.Lib.hid (show bestR zs s = (0, 0, 1) by unfold bestR; rw [if_neg h1])
    rw [show code8 zs s 0 = 1 by unfold code8; rw [if_neg h1]] at HC
    clear h1 hnn L L2
    go_enter Try.func31, Try.ntmps31
    go_wp2_with fail
    refine (HC.out).mono ?_
    rintro _ _ ⟨rfl, rfl⟩
    go_wp2_with fail
    refine bodyPost_ret (results_tmp3 rfl _ _ _) rfl ?_
    exact ⟨by rw [HV.out]; rfl, Below.refl _ _⟩
  case pos =>
  rw [show code8 zs s 0 = 0 by unfold code8; rw [if_pos h1]; rfl] at HC
  have HR := Go.Lib.hid (show bestR zs s = if (bestI zs s).p < 0 then (0, 0, 4) else ((bestI zs s).p, (bestI zs s).q, 0) by unfold bestR; rw [if_pos h1])
  rw [Bool.and_eq_true] at h1
  have hD := devB_iff.1 h1.1
  have HBE := Go.Lib.hid (specBest A c zs B b s w L L2 n hnn (hnn ▸ hD.lo) (hnn ▸ hD.hi) (effB_iff.1 h1.2) 500 hD.bd (by omega) (by omega))
  clear h1 hD hnn L L2
  generalize bestI zs s = bb at *
  obtain ⟨p, q, sq⟩ := bb
  dsimp only at HBE HR
  by_cases hp : p < 0
  case pos =>
    rw [if_pos hp] at HR
    go_enter Try.func31, Try.ntmps31
    go_wp2_with fail
    refine (HC.out).mono ?_
    rintro _ _ ⟨rfl, rfl⟩
    go_wp2_with fail
    refine HBE.out.mono ?_
    rintro _ w1 ⟨rfl, b1⟩
    have HB := Go.Lib.hid b1
    clear b1
    go_wp2_with fail
    refine bodyPost_ret (results_tmp3 rfl _ _ _) rfl ?_
    exact ⟨by rw [HR.out]; rfl, HB.out⟩
  case neg =>
    rw [if_neg hp] at HR
    go_enter Try.func31, Try.ntmps31
    go_wp2_with fail
    refine (HC.out).mono ?_
    rintro _ _ ⟨rfl, rfl⟩
    go_wp2_with fail
    refine HBE.out.mono ?_
    rintro _ w1 ⟨rfl, b1⟩
    have HB := Go.Lib.hid b1
    clear b1
    go_wp2_with fail
    refine bodyPost_ret (results_tmp3 rfl _ _ _) rfl ?_
    exact ⟨by rw [HR.out]; rfl, HB.out⟩
end Go.Proofs.Ytpcaakmcjdginaa
