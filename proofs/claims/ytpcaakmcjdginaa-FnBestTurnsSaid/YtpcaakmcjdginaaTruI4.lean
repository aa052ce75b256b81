/- The program: the best turn, truing by turns. -/
import Derived.Test.YtpcaakmcjdginaaTruI3
import Derived.Test.YtpcaakmcjdginaaTruS4
import Derived.Deep.DeepCutAuto
namespace Go.Proofs.Ytpcaakmcjdginaa
open Go.RowKit
set_option linter.unusedSimpArgs false
set_option linter.unusedVariables false

theorem turn_after {zs s : List Int} {n i : Nat} {q : Int} (hn : zs.length = n) (hi : i < n) : turn1 n zs i (sgQ i q) s = afterI zs s (oneT n i q) := by
  subst hn
  exact (after_one hi).symm
theorem bestP_of (i : Nat) (q sq : Int) : bestP ⟨i, q, sq⟩ = i := by
  show max (i : Int) 0 = i
  omega
theorem bestF_of (i : Nat) (q sq : Int) : bestF ⟨i, q, sq⟩ = true := decide_eq_true (show (0 : Int) ≤ i by omega)
theorem litQ {w : World} {g : Nat} (hb : Box w g [.int .i64 1, .int .i64 (-1)]) (j : Nat) (hj : j < 2) : w.cell? ⟨g, j, none⟩ = some (.int .i64 (1 - 2 * (j : Int))) := by
  match j, hj with
  | 0, _ => exact hb.at_ 0 _ rfl
  | 1, _ => exact hb.at_ 1 _ rfl
set_option maxRecDepth 100000 in
set_option maxHeartbeats 8000000 in
theorem implBest (A : Option Addr) (c : Nat) (zs : List Int) (B : Option Addr) (b : Nat) (s : List Int) (w : World) (L : Ls zs A c w) (L2 : Ls s B b w) (n : Nat) (hnn : zs.length = n) (h4 : 4 ≤ n) (h10 : n ≤ 10) (hS : Eff s) (X : Int) (hX : Bd X zs) (hX0 : 0 ≤ X) (hX1 : X ≤ 9000000) :
    Calls Try.prog 63 #[.slice A n c, .slice B s.length b] w (IsV w (.tuple #[.int .i64 (bestP (bestI zs s)), .int .i64 (bestI zs s).q, .bool (bestF (bestI zs s))])) := by
  have HL := Go.Lib.hid L
  have HS := Go.Lib.hid L2
  have HSQ := Go.Lib.hid (implSq A c zs w L (hX.mono (by omega)) (by omega))
  rw [hnn] at HSQ
  have HCL := Go.Lib.hid (fun w0 L0 => implClone A c zs w0 L0 (by omega))
  rw [hnn] at HCL
  have HDV := Go.Lib.hid (fun g cap i q w0 lo hi O S hi2 r0 r1 => implDeviate g n cap zs B b s i q w0 lo hi O S L2.le hi2 h4 h10 hS r0 r1 X hX hX0 (by omega))
  have HTA := Go.Lib.hid (fun (i : Nat) (q : Int) (hi : i < n) => turn_after (s := s) (q := q) hnn hi)
  have HQ := Go.Lib.hid (fun D d ts w0 (hR : rngB (-100) 100 ts = true) (hl : ts.length = n) (L0 : Ls (afterI zs s ts) D d w0) => implSq D d (afterI zs s ts) w0 L0 ((afterI_bd hX hS hR (hl.trans hnn.symm) (by omega)).mono (by omega)) (by rw [afterI_len]; omega))
  have HB0 := Go.Lib.hid (show bestTo zs s 0 = ⟨-1, 0, sqS zs⟩ from rfl)
  have HLN := Go.Lib.hid (fun ts => (afterI_len zs s ts).trans hnn)
  have HST := Go.Lib.hid (fun i q (b0 : Best) => show bestStep zs s i q b0 = if sqS (afterI zs s (oneT n i q)) < b0.s then ⟨i, q, sqS (afterI zs s (oneT n i q))⟩ else b0 by unfold bestStep turnSq; rw [hnn])
  have HBI := Go.Lib.hid (show bestI zs s = bestTo zs s n by unfold bestI; rw [hnn])
  have HOR := Go.Lib.hid (fun (i : Nat) (q : Int) (hi : i < n) h0 h1 => oneT_rng2 (n := n) (p := i) (q := q) hi h0 h1)
  clear L L2 hS hX hnn
  go_enter Try.func63, Try.ntmps63
  go_wp2_with fail
  refine HSQ.out.mono ?_
  rintro _ w1 ⟨rfl, b1⟩
  have HW := Go.Lib.hid b1
  have HL := Go.Lib.hid (HL.out.below b1)
  have HS := Go.Lib.hid (HS.out.below b1)
  clear b1 HSQ
  generalize hq0 : sqS zs = q0 at *
  go_wp2_with fail
  go_loopw [7, 8, 9, 10, 20] (fun s1 p q f i wr => ∃ k : Nat, k ≤ n ∧ i = .int .i64 k ∧ s1 = .int .i64 (bestTo zs s k).s ∧ p = .int .i64 (bestP (bestTo zs s k)) ∧ q = .int .i64 (bestTo zs s k).q ∧ f = .bool (bestF (bestTo zs s k)) ∧ Below w1.heap.size w1 wr) (fun _ _ _ _ i _ => n - (intOf i).toNat)
  case atStart => exact ⟨0, Nat.zero_le _, rfl, by rw [HB0.out], by rw [HB0.out]; rfl, by rw [HB0.out], by rw [HB0.out]; rfl, Below.refl _ _⟩
  case round =>
    obtain ⟨i, hi, rfl, rfl, rfl, rfl, rfl, hb⟩ := hrel
    have HBW := Go.Lib.hid hb
    have HW2 := Go.Lib.hid (HW.out.trans (hb.mono HW.out.size))
    clear hb
    by_cases hlt : i < n
    case neg =>
      obtain rfl : i = n := by omega
      rw [← HBI.out]
      go_wp2_with fail
      refine bodyPost_ret (results_tmp3 rfl _ _ _) rfl ?_
      exact ⟨rfl, HW2.out⟩
    case pos =>
      have hkl : (i : Int) < n := by omega
      have HJ2 := Go.Lib.hid (show bestTo zs s (i + 1) = bestJ zs s i 2 from rfl)
      have HJ0 := Go.Lib.hid (show bestTo zs s i = bestJ zs s i 0 from rfl)
      have HBX := Go.Lib.hid (show Box (wr.alloc (.cells #[.int .i64 1, .int .i64 (-1)] 2)) wr.heap.size [.int .i64 1, .int .i64 (-1)] from Box.new rfl rfl)
      have HBA := Go.Lib.hid (show Below wr.heap.size wr (wr.alloc (.cells #[.int .i64 1, .int .i64 (-1)] 2)) from (Below.refl _ _).alloc (Nat.le_refl _) _)
      rw [HJ0.out]
      go_wp2_with fail
      go_loopw [7, 8, 9, 10, 25] (fun s1 p q f u wx => ∃ j : Nat, j ≤ 2 ∧ u = .int .i64 j ∧ s1 = .int .i64 (bestJ zs s i j).s ∧ p = .int .i64 (bestP (bestJ zs s i j)) ∧ q = .int .i64 (bestJ zs s i j).q ∧ f = .bool (bestF (bestJ zs s i j)) ∧ Below wr.heap.size wr wx ∧ Box wx wr.heap.size [.int .i64 1, .int .i64 (-1)]) (fun _ _ _ _ u _ => 2 - (intOf u).toNat)
      case atStart => exact ⟨0, by omega, rfl, rfl, rfl, rfl, rfl, HBA.out, HBX.out⟩
      case round =>
        obtain ⟨j, hj, rfl, rfl, rfl, rfl, rfl, hb, hbx⟩ := hrel
        have HBJ := Go.Lib.hid hb
        have HBXJ := Go.Lib.hid hbx
        clear hb HBX HBA
        by_cases hj2 : j < 2
        case neg =>
          obtain rfl : j = 2 := by omega
          rw [← HJ2.out]
          clear hbx
          go_wp2_with fail
          go_roundw
          case rel => exact ⟨i + 1, by omega, by go_num, rfl, rfl, rfl, rfl, HBW.out.trans (HBJ.out.mono HBW.out.size)⟩
          case measure => simp [intOf]; omega
        case pos =>
          have HJS := Go.Lib.hid (bestJ_succ zs s i j hj2)
          rw [HST.out] at HJS
          have hlit := litQ hbx j hj2
          have hb01 : (-1 : Int) ≤ 1 - 2 * (j : Int) := by omega
          have hb02 : 1 - 2 * (j : Int) ≤ 1 := by omega
          have hjl : (j : Int) < 2 := by omega
          clear hbx
          generalize bestJ zs s i j = bj at *
          obtain ⟨pj, qj, sj⟩ := bj
          generalize (1 : Int) - 2 * (j : Int) = q at *
          have hOR := HOR.out i q hlt (by omega) (by omega)
          have hol := oneT_len n i q
          have HDV2 := Go.Lib.hid (fun g cap w0 lo hi O S => HDV.out g cap i q w0 lo hi O S hlt (by omega) (by omega))
          rw [HTA.out i q hlt] at HDV2
          have HQ1 := Go.Lib.hid (fun D d w0 L0 => HQ.out D d (oneT n i q) w0 hOR hol L0)
          have hal := HLN.out (oneT n i q)
          rw [hal] at HQ1
          have HAL := Go.Lib.hid hal
          have HP1 := Go.Lib.hid (bestP_of i q)
          have HP2 := Go.Lib.hid (bestF_of i q)
          clear hOR hol hal
          generalize afterI zs s (oneT n i q) = us at *
          generalize sqS us = sq at *
          have HB1 := Go.Lib.hid (HBW.out.trans (HBJ.out.mono HBW.out.size))
          have HCL1 := Go.Lib.hid (HCL.out _ (HL.out.below HB1.out))
          go_wp2_with fail
          refine HCL1.out.mono ?_
          rintro _ w3 ⟨g, cap, rfl, ht⟩
          have HT3 := Go.Lib.hid ht
          have hlo := ht.lo (by omega)
          have HB3 := Go.Lib.hid (HB1.out.trans (ht.b.mono HB1.out.size))
          have HDV3 := Go.Lib.hid (HDV2.out g cap w3 _ _ ht.ow (HS.out.near HB3.out (Nat.le_trans HB1.out.size hlo.1)))
          clear ht hlo HCL1
          go_wp2_with fail
          refine HDV3.out.mono ?_
          rintro _ w4 ⟨⟨v, rfl⟩, hdv⟩
          have ht := hdv.tur HT3.out (by omega)
          have HU := Go.Lib.hid (show Ls us (some ⟨g, 0, none⟩) cap w4 from ⟨by rw [HAL.out]; exact ht.ow.rd.here, by rw [HAL.out]; exact ht.ow.le, by rw [HAL.out]; omega⟩)
          have HBJ4 := Go.Lib.hid (HBJ.out.trans (ht.b.mono HBJ.out.size))
          have HBX4 := Go.Lib.hid (HBXJ.out.below ht.b)
          clear ht hdv HDV3 HT3
          go_wp2_with fail
          refine (HQ1.out _ _ _ HU.out).mono ?_
          rintro _ w5 ⟨rfl, b5⟩
          have HBJ5 := Go.Lib.hid (HBJ4.out.trans (b5.mono HBJ4.out.size))
          have HBX5 := Go.Lib.hid (HBX4.out.below b5)
          clear b5
          by_cases hless : sq < sj
          case pos =>
            rw [if_pos hless] at HJS
            go_wp2_with fail
            go_roundw
            case rel => exact ⟨j + 1, by omega, by go_num, by rw [HJS.out], by rw [HJS.out, HP1.out], by rw [HJS.out], by rw [HJS.out, HP2.out], HBJ5.out, HBX5.out⟩
            case measure => simp [intOf]; omega
          case neg =>
            rw [if_neg hless] at HJS
            go_wp2_with fail
            go_roundw
            case rel => exact ⟨j + 1, by omega, by go_num, by rw [HJS.out], by rw [HJS.out], by rw [HJS.out], by rw [HJS.out], HBJ5.out, HBX5.out⟩
            case measure => simp [intOf]; omega
set_option maxRecDepth 100000 in
set_option maxHeartbeats 4000000 in
theorem implBestTurn (A : Option Addr) (c : Nat) (zs : List Int) (B : Option Addr) (b : Nat) (s : List Int) (w : World) (L : Ls zs A c w) (L2 : Ls s B b w) (n : Nat) (hnn : zs.length = n) :
    Calls Try.prog 30 #[.slice A n c, .slice B s.length b] w (IsV w (.tuple #[.int .i64 (bestR zs s).1, .int .i64 (bestR zs s).2.1, .int .i64 (bestR zs s).2.2])) := by
  have HD1 := Go.Lib.hid (implDev A c zs w L)
  have HE1 := Go.Lib.hid (implEff B b s w L2)
  rw [hnn] at HD1
  by_cases hd : devB zs = true
  case neg =>
    have HV := Go.Lib.hid (show bestR zs s = (0, 0, 1) by unfold bestR; rw [if_neg (by simp [hd])])
    rw [Bool.not_eq_true] at hd
    rw [hd] at HD1
    clear hd hnn L L2
    go_enter Try.func30, Try.ntmps30
    go_wp2_with fail
    refine (HD1.out).mono ?_
    rintro _ _ ⟨rfl, rfl⟩
    go_wp2_with fail
    refine bodyPost_ret (results_tmp3 rfl _ _ _) rfl ?_
    exact ⟨by rw [HV.out]; rfl, Below.refl _ _⟩
  case pos =>
  rw [hd] at HD1
  by_cases hs : effB s = true
  case neg =>
    have HV := Go.Lib.hid (show bestR zs s = (0, 0, 1) by unfold bestR; rw [if_neg (by simp [hs])])
    rw [Bool.not_eq_true] at hs
    rw [hs] at HE1
    clear hd hs hnn L L2
    go_enter Try.func30, Try.ntmps30
    go_wp2_with fail
    refine (HD1.out).mono ?_
    rintro _ _ ⟨rfl, rfl⟩
    go_wp2_with fail
    refine (HE1.out).mono ?_
    rintro _ _ ⟨rfl, rfl⟩
    go_wp2_with fail
    refine bodyPost_ret (results_tmp3 rfl _ _ _) rfl ?_
    exact ⟨by rw [HV.out]; rfl, Below.refl _ _⟩
  case pos =>
  rw [hs] at HE1
  have HR := Go.Lib.hid (bestR_of zs s hd hs)
  have hD := devB_iff.1 hd
  have h4 : 4 ≤ n := hnn ▸ hD.lo
  have h10 : n ≤ 10 := hnn ▸ hD.hi
  have HBE := Go.Lib.hid (implBest A c zs B b s w L L2 n hnn h4 h10 (effB_iff.1 hs) 500 hD.bd (by omega) (by omega))
  have hok : (bestI zs s).Ok (zs.length : Nat) := bestTo_bd zs s zs.length
  have hpb : 0 ≤ bestP (bestI zs s) ∧ bestP (bestI zs s) ≤ 10 := by
    unfold Best.Ok at hok
    unfold bestP
    omega
  clear hd hs hD hnn L L2 hok
  generalize bestI zs s = bb at *
  generalize bestP bb = p at *
  generalize bb.q = q at *
  obtain ⟨p0, p1⟩ := hpb
  have ew : IntKind.i64.wrap p = p := IntWalk.i64_in _ (by omega)
  generalize bestF bb = f at *
  cases f
  case true =>
    rw [if_pos rfl] at HR
    go_enter Try.func30, Try.ntmps30
    go_wp2_with fail
    refine (HD1.out).mono ?_
    rintro _ _ ⟨rfl, rfl⟩
    go_wp2_with fail
    refine (HE1.out).mono ?_
    rintro _ _ ⟨rfl, rfl⟩
    go_wp2_with fail
    refine HBE.out.mono ?_
    rintro _ w1 ⟨rfl, b1⟩
    have HB := Go.Lib.hid b1
    clear b1
    go_wp2_with fail
    refine bodyPost_ret (results_tmp3 rfl _ _ _) rfl ?_
    exact ⟨by rw [HR.out]; rfl, HB.out⟩
  case false =>
    rw [if_neg (by simp)] at HR
    go_enter Try.func30, Try.ntmps30
    go_wp2_with fail
    refine (HD1.out).mono ?_
    rintro _ _ ⟨rfl, rfl⟩
    go_wp2_with fail
    refine (HE1.out).mono ?_
    rintro _ _ ⟨rfl, rfl⟩
    go_wp2_with fail
    refine HBE.out.mono ?_
    rintro _ w1 ⟨rfl, b1⟩
    have HB := Go.Lib.hid b1
    clear b1
    go_wp2_with fail
    refine bodyPost_ret (results_tmp3 rfl _ _ _) rfl ?_
    exact ⟨by rw [HR.out]; rfl, HB.out⟩
end Go.Proofs.Ytpcaakmcjdginaa
