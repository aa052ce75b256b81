/- The model: UsableGears, RingShifts. -/
import Derived.Test.YthedanpldebjcaaShiftS5
import Derived.Lib.MinMax
namespace Go.Proofs.Ythedanpldebjcaa
open Go.RowKit
set_option linter.unusedSimpArgs false
set_option linter.unusedVariables false

set_option maxRecDepth 100000 in
set_option maxHeartbeats 4000000 in
theorem specAbs11 (n : Int) (w : World) (h : -1000000 ≤ n ∧ n ≤ 1000000) : Calls Try.prog 70 #[.int .i64 n] w (Just (.int .i64 (absI n)) w) := by
  have e1 : IntKind.i64.wrap (-n) = -n := IntWalk.i64_in _ (by omega)
  go_enter Try.func70, Try.ntmps70
  go_wp2_with fail
  go_ret
  exact ⟨rfl, rfl⟩
set_option maxRecDepth 100000 in
set_option maxHeartbeats 4000000 in
theorem specUsable (x : Trn) (A : Option Addr) (c : Nat) (B : Option Addr) (d : Nat) (lm : Int) (w : World) (T : TrL x A c B d w) :
    Calls Try.prog 27 #[trainV x A c B d, .int .i64 lm] w (GivesZ (usableR x lm) w) := by
  have HT := Go.Lib.hid T
  have HX := Go.Lib.hid (boxT_box x A c B d w)
  have HXB := Go.Lib.hid (boxT_below x A c B d w)
  clear T
  have H1 := Go.Lib.hid (fun w0 T0 => specCode11 x A c B d lm 0 0 w0 T0)
  by_cases h0 : code11 x lm 0 0 = 0
  case neg =>
    have HV := Go.Lib.hid (show usableR x lm = ([], code11 x lm 0 0) by unfold usableR; rw [if_neg h0])
    generalize code11 x lm 0 0 = cd at *
    unfold trainV at *
    go_enter Try.func27, Try.ntmps27
    go_upto_region 1 with fail
    refine wp_gen (R := fun W => Box W w.heap.size (trainC x A c B d) ∧ Below w.heap.size w W) ⟨HX.out, HXB.out⟩ ?_
    rintro W ⟨hx, hb⟩
    have HX1 := Go.Lib.hid hx
    have HB1 := Go.Lib.hid hb
    have HT1 := Go.Lib.hid (HT.out.below hb)
    clear hx hb HX HXB
    have hc0 : W.cell? ⟨w.heap.size, 0, none⟩ = some (.slice A x.f.length c) := HX1.out.at_ 0 _ rfl
    have hc1 : W.cell? ⟨w.heap.size, 1, none⟩ = some (.slice B x.r.length d) := HX1.out.at_ 1 _ rfl
    have hc2 : W.cell? ⟨w.heap.size, 2, none⟩ = some (.int .i64 x.n) := HX1.out.at_ 2 _ rfl
    go_wp2_with fail
    refine (H1.out _ HT1.out).mono ?_
    rintro _ w2 ⟨rfl, b2⟩
    have HX2 := Go.Lib.hid (HX1.out.below b2)
    have HB2 := Go.Lib.hid (upB HB1.out b2)
    have HT2 := Go.Lib.hid (HT1.out.below b2)
    clear b2
    go_wp2_with fail
    go_ret2
    exact GivesZ.nil HV.out HB2.out
  case pos =>
    have HV := Go.Lib.hid (show usableR x lm = (rowsG (usableI x lm), 0) by unfold usableR; rw [if_pos h0])
    have H2 := Go.Lib.hid (fun w0 T0 => specUsableI x A c B d lm w0 T0 (trainB_ok (code11_ok h0).1) (code11_lm h0))
    rw [h0] at H1
    clear h0
    generalize rowsG (usableI x lm) = zs at *
    unfold trainV at *
    go_enter Try.func27, Try.ntmps27
    go_upto_region 1 with fail
    refine wp_gen (R := fun W => Box W w.heap.size (trainC x A c B d) ∧ Below w.heap.size w W) ⟨HX.out, HXB.out⟩ ?_
    rintro W ⟨hx, hb⟩
    have HX1 := Go.Lib.hid hx
    have HB1 := Go.Lib.hid hb
    have HT1 := Go.Lib.hid (HT.out.below hb)
    clear hx hb HX HXB
    have hc0 : W.cell? ⟨w.heap.size, 0, none⟩ = some (.slice A x.f.length c) := HX1.out.at_ 0 _ rfl
    have hc1 : W.cell? ⟨w.heap.size, 1, none⟩ = some (.slice B x.r.length d) := HX1.out.at_ 1 _ rfl
    have hc2 : W.cell? ⟨w.heap.size, 2, none⟩ = some (.int .i64 x.n) := HX1.out.at_ 2 _ rfl
    go_wp2_with fail
    refine (H1.out _ HT1.out).mono ?_
    rintro _ w2 ⟨rfl, b2⟩
    have HX2 := Go.Lib.hid (HX1.out.below b2)
    have HB2 := Go.Lib.hid (upB HB1.out b2)
    have HT2 := Go.Lib.hid (HT1.out.below b2)
    clear b2
    clear hc0 hc1 hc2
    have hc0 : w2.cell? ⟨w.heap.size, 0, none⟩ = some (.slice A x.f.length c) := HX2.out.at_ 0 _ rfl
    have hc1 : w2.cell? ⟨w.heap.size, 1, none⟩ = some (.slice B x.r.length d) := HX2.out.at_ 1 _ rfl
    have hc2 : w2.cell? ⟨w.heap.size, 2, none⟩ = some (.int .i64 x.n) := HX2.out.at_ 2 _ rfl
    go_wp2_with fail
    refine (H2.out _ HT2.out).mono ?_
    rintro _ w3 ⟨b3, ⟨hz, rfl⟩ | ⟨g, cap, rfl, ho⟩⟩
    · have HB3 := Go.Lib.hid (upB HB2.out b3)
      subst hz
      clear b3
      go_wp2_with fail
      go_ret2
      exact GivesZ.nil HV.out HB3.out
    · have HB3 := Go.Lib.hid (upB HB2.out b3)
      have HO := Go.Lib.hid (ho.low HB2.out.size)
      clear b3 ho
      go_wp2_with fail
      go_ret2
      exact GivesZ.row HV.out rfl HO.out HB3.out
set_option maxRecDepth 100000 in
set_option maxHeartbeats 16000000 in
theorem specRing (x : Trn) (A : Option Addr) (c : Nat) (B : Option Addr) (d : Nat) (lm : Int) (w : World) (T : TrL x A c B d w) :
    Calls Try.prog 29 #[trainV x A c B d, .int .i64 lm] w (Gives2 (ringR x lm) w) := by
  have HT := Go.Lib.hid T
  have HX := Go.Lib.hid (boxT_box x A c B d w)
  have HXB := Go.Lib.hid (boxT_below x A c B d w)
  clear T
  have H1 := Go.Lib.hid (fun w0 T0 => specCode11 x A c B d lm 0 0 w0 T0)
  by_cases h0 : code11 x lm 0 0 = 0
  case neg =>
    have HV := Go.Lib.hid (show ringR x lm = (0, code11 x lm 0 0) by unfold ringR; rw [if_neg h0])
    generalize code11 x lm 0 0 = cd at *
    unfold trainV at *
    go_enter Try.func29, Try.ntmps29
    go_upto_region 1 with fail
    refine wp_gen (R := fun W => Box W w.heap.size (trainC x A c B d) ∧ Below w.heap.size w W) ⟨HX.out, HXB.out⟩ ?_
    rintro W ⟨hx, hb⟩
    have HX1 := Go.Lib.hid hx
    have HB1 := Go.Lib.hid hb
    have HT1 := Go.Lib.hid (HT.out.below hb)
    clear hx hb HX HXB
    have hc0 : W.cell? ⟨w.heap.size, 0, none⟩ = some (.slice A x.f.length c) := HX1.out.at_ 0 _ rfl
    have hc1 : W.cell? ⟨w.heap.size, 1, none⟩ = some (.slice B x.r.length d) := HX1.out.at_ 1 _ rfl
    have hc2 : W.cell? ⟨w.heap.size, 2, none⟩ = some (.int .i64 x.n) := HX1.out.at_ 2 _ rfl
    go_wp2_with fail
    refine (H1.out _ HT1.out).mono ?_
    rintro _ w2 ⟨rfl, b2⟩
    have HX2 := Go.Lib.hid (HX1.out.below b2)
    have HB2 := Go.Lib.hid (upB HB1.out b2)
    have HT2 := Go.Lib.hid (HT1.out.below b2)
    clear b2
    go_wp2_with fail
    go_ret2
    exact Gives2.of HV.out HB2.out
  case pos =>
    have HV := Go.Lib.hid (show ringR x lm = (ringTo (usableI x lm) ((usableI x lm).length - 1), 0) by unfold ringR; rw [if_pos h0])
    have HTR := Go.Lib.hid (trainB_ok (code11_ok h0).1)
    have H2 := Go.Lib.hid (fun w0 T0 => specUsableI x A c B d lm w0 T0 HTR.out (code11_lm h0))
    have HU := Go.Lib.hid (fun k (hk : k < (usableI x lm).length) => (usable_at HTR.out lm hk).2)
    have hu36 : (usableI x lm).length ≤ 36 := Nat.le_trans (usable_few x lm) (ordI_few HTR.out)
    rw [h0] at H1
    clear h0
    generalize usableI x lm = U at *
    unfold trainV at *
    go_enter Try.func29, Try.ntmps29
    go_upto_region 1 with fail
    refine wp_gen (R := fun W => Box W w.heap.size (trainC x A c B d) ∧ Below w.heap.size w W) ⟨HX.out, HXB.out⟩ ?_
    rintro W ⟨hx, hb⟩
    have HX1 := Go.Lib.hid hx
    have HB1 := Go.Lib.hid hb
    have HT1 := Go.Lib.hid (HT.out.below hb)
    clear hx hb HX HXB
    have hc0 : W.cell? ⟨w.heap.size, 0, none⟩ = some (.slice A x.f.length c) := HX1.out.at_ 0 _ rfl
    have hc1 : W.cell? ⟨w.heap.size, 1, none⟩ = some (.slice B x.r.length d) := HX1.out.at_ 1 _ rfl
    have hc2 : W.cell? ⟨w.heap.size, 2, none⟩ = some (.int .i64 x.n) := HX1.out.at_ 2 _ rfl
    go_wp2_with fail
    refine (H1.out _ HT1.out).mono ?_
    rintro _ w2 ⟨rfl, b2⟩
    have HX2 := Go.Lib.hid (HX1.out.below b2)
    have HB2 := Go.Lib.hid (upB HB1.out b2)
    have HT2 := Go.Lib.hid (HT1.out.below b2)
    clear b2
    clear hc0 hc1 hc2
    have hc0 : w2.cell? ⟨w.heap.size, 0, none⟩ = some (.slice A x.f.length c) := HX2.out.at_ 0 _ rfl
    have hc1 : w2.cell? ⟨w.heap.size, 1, none⟩ = some (.slice B x.r.length d) := HX2.out.at_ 1 _ rfl
    have hc2 : w2.cell? ⟨w.heap.size, 2, none⟩ = some (.int .i64 x.n) := HX2.out.at_ 2 _ rfl
    go_wp2_with fail
    refine (H2.out _ HT2.out).mono ?_
    rintro _ w3 ⟨b3, ⟨hz, rfl⟩ | ⟨gl, capl, rfl, ho⟩⟩
    · have HB3 := Go.Lib.hid (upB HB2.out b3)
      have hU : U = [] := by cases U with
        | nil => rfl
        | cons a l => simp [rowsG] at hz
      subst hU
      have HV2 := Go.Lib.hid (show ringR x lm = (0, 0) from HV.out)
      clear b3 hz hc0 hc1 hc2
      go_wp2_with fail
      go_loopw [8, 9] (fun s i wr => s = .int .i64 0 ∧ i = .int .i64 1 ∧ wr = w3) (fun _ i _ => 0)
      case atStart => exact ⟨rfl, rfl, rfl⟩
      case round =>
        obtain ⟨rfl, rfl, hw⟩ := hrel
        have hw2 := hw.symm
        clear hw
        subst hw2
        go_wp2_with fail
        go_ret2
        exact Gives2.of HV2.out HB3.out
    · have HB3 := Go.Lib.hid (upB HB2.out b3)
      have HLZ := Go.Lib.hid (ho.ls (by rw [rowsG_len]; omega))
      have HRL := Go.Lib.hid (rowsG_len U)
      clear b3 ho hc0 hc1 hc2
      rw [HRL.out]
      go_wp2_with fail
      go_loopw [8, 9] (fun s i wr => ∃ k : Nat, 1 ≤ k ∧ k ≤ max 1 U.length ∧ i = .int .i64 k ∧ s = .int .i64 (ringTo U (k - 1)) ∧ Eqw w3 wr) (fun _ i _ => U.length - (intOf i).toNat)
      case atStart => exact ⟨1, Nat.le_refl _, by omega, rfl, rfl, Eqw.refl _⟩
      case round =>
        obtain ⟨k, hk1, hk, rfl, rfl, hw⟩ := hrel
        have HW := Go.Lib.hid hw
        have HBW := Go.Lib.hid (upB HB3.out hw.below)
        by_cases hlt : k < U.length
        case neg =>
          have HV2 := Go.Lib.hid (show ringR x lm = (ringTo U (k - 1), 0) by
            rw [HV.out]
            rcases Nat.eq_zero_or_pos U.length with h | h
            · rw [h, show k = 1 by omega]
            · rw [show k = U.length by omega])
          have hkl : ¬ (k : Int) < U.length := by omega
          clear hw
          go_wp2_with fail
          go_ret2
          exact Gives2.of HV2.out HBW.out
        case pos =>
          obtain ⟨gb, go, D, dd, e, -, hrow, hlr⟩ := (HLZ.out.below hw.below).at_ (k := k) (by rw [HRL.out]; exact hlt)
          cases e
          obtain ⟨gb2, go2, E, pd, e, -, hrow1, hlr1⟩ := (HLZ.out.below hw.below).at_ (k := k - 1) (by rw [HRL.out]; omega)
          cases e
          rw [show (rowsG U).getD k [] = rowG (U.getD k (0, 0)) from rowsG_at hlt] at hrow hlr
          rw [show (rowsG U).getD (k - 1) [] = rowG (U.getD (k - 1) (0, 0)) from rowsG_at (by omega)] at hrow1 hlr1
          rw [Nat.zero_add] at hrow hrow1
          obtain ⟨eb, eo, e, -, hcs⟩ := hlr.at_ (k := 0) (by simp [rowG])
          subst e
          obtain ⟨pb, po, e, -, hcs1⟩ := hlr1.at_ (k := 0) (by simp [rowG])
          subst e
          have HSU := Go.Lib.hid (show ringTo U (k - 1) + absI (((U.getD k (0, 0)).1 : Int) - ((U.getD (k - 1) (0, 0)).1 : Int)) = ringTo U k by
            have e : k = (k - 1) + 1 := by omega
            conv => rhs; rw [e]
            show _ = ringTo U (k - 1) + absI (((U.getD (k - 1 + 1) (0, 0)).1 : Int) - ((U.getD (k - 1) (0, 0)).1 : Int))
            rw [← e])
          have hrb := ringTo_bd HU.out k hlt
          have hrb1 := ringTo_bd HU.out (k - 1) (by omega)
          have hg1 := HU.out k hlt
          have hg2 := HU.out (k - 1) (by omega)
          have hkl : (k : Int) < U.length := by omega
          have hk0 : (0 : Int) ≤ (k : Int) := by omega
          have ek1 : IntKind.i64.wrap ((k : Int) - 1) = ((k - 1 : Nat) : Int) := (IntWalk.i64_in _ (by omega)).trans (by omega)
          have hk2 : ((k - 1 : Nat) : Int) < U.length := by omega
          have hk3 : (0 : Int) ≤ ((k - 1 : Nat) : Int) := by omega
          generalize U.getD k (0, 0) = gg at *
          generalize U.getD (k - 1) (0, 0) = pg at *
          have hh0 : wr.cell? ⟨gl, k, none⟩ = some (.slice (some ⟨eb, eo, none⟩) 2 dd) := hrow
          have he0 : wr.cell? ⟨eb, eo, none⟩ = some (.int .i64 (gg.1 : Nat)) := hcs 0 (by simp [rowG])
          have hp0 : wr.cell? ⟨gl, k - 1, none⟩ = some (.slice (some ⟨pb, po, none⟩) 2 pd) := hrow1
          have hq0 : wr.cell? ⟨pb, po, none⟩ = some (.int .i64 (pg.1 : Nat)) := hcs1 0 (by simp [rowG])
          have e1 : IntKind.i64.wrap (((gg.1 : Nat) : Int) - ((pg.1 : Nat) : Int)) = ((gg.1 : Nat) : Int) - ((pg.1 : Nat) : Int) := IntWalk.i64_in _ (by omega)
          have HAB := Go.Lib.hid (fun w0 => specAbs11 (((gg.1 : Nat) : Int) - ((pg.1 : Nat) : Int)) w0 (by omega))
          have e2 : IntKind.i64.wrap (ringTo U (k - 1) + absI (((gg.1 : Nat) : Int) - ((pg.1 : Nat) : Int))) = ringTo U (k - 1) + absI (((gg.1 : Nat) : Int) - ((pg.1 : Nat) : Int)) := IntWalk.i64_in _ (by rw [HSU.out]; omega)
          clear hrow hrow1 hlr hlr1 hcs hcs1 hrb hrb1 hg1 hg2 hw
          generalize ringTo U (k - 1) = r0 at *
          generalize absI (((gg.1 : Nat) : Int) - ((pg.1 : Nat) : Int)) = ab at *
          go_upto_region 9 with fail
          refine wp_region_held_drew (S := fun w' => w'.cell? ⟨gl, k, none⟩ = some (.slice (some ⟨eb, eo, none⟩) 2 dd) ∧ w'.cell? ⟨eb, eo, none⟩ = some (.int .i64 (gg.1 : Nat)) ∧ w'.cell? ⟨gl, k - 1, none⟩ = some (.slice (some ⟨pb, po, none⟩) 2 pd) ∧ w'.cell? ⟨pb, po, none⟩ = some (.int .i64 (pg.1 : Nat))) (by kernel_rfl) (by exact ⟨hh0, he0, hp0, hq0⟩) (fun hHeld => ?_)
          refine wpAnyH_take (i := 0) (v := ?vr1) rfl (by kernel_rfl) (by kernel_rfl) (by kernel_rfl) (fun _ _ _ h => h) (Or.inl ⟨by rfl, ?hyr1⟩) (by assumption) ?restr1
          case hyr1 => (intro w hSw; (try dsimp only at hSw); go_simp; try with_reducible rfl)
          try simp only [List.getElem_toArray, List.getElem_cons_succ, List.getElem_cons_zero, Act.put, List.setIfInBounds_toArray, List.set_cons_zero, List.set_cons_succ]
          refine wpAnyH_take (i := 1) (v := ?vr2) rfl (by kernel_rfl) (by kernel_rfl) (by kernel_rfl) (fun _ _ _ h => h) (Or.inl ⟨by rfl, ?hyr2⟩) (by assumption) ?restr2
          case hyr2 => (intro w hSw; (try dsimp only at hSw); go_simp; try with_reducible rfl)
          try simp only [List.getElem_toArray, List.getElem_cons_succ, List.getElem_cons_zero, Act.put, List.setIfInBounds_toArray, List.set_cons_zero, List.set_cons_succ]
          refine wpAnyH_take (i := 2) (v := ?vr3) rfl (by kernel_rfl) (by kernel_rfl) (by kernel_rfl) (fun _ _ _ h => h) (Or.inl ⟨by rfl, ?hyr3⟩) (by assumption) ?restr3
          case hyr3 => (intro w hSw; (try dsimp only at hSw); go_simp; try with_reducible rfl)
          try simp only [List.getElem_toArray, List.getElem_cons_succ, List.getElem_cons_zero, Act.put, List.setIfInBounds_toArray, List.set_cons_zero, List.set_cons_succ]
          refine wpAnyH_take (i := 3) (v := ?vr4) rfl (by kernel_rfl) (by kernel_rfl) (by kernel_rfl) (fun _ _ _ h => h) (Or.inl ⟨by rfl, ?hyr4⟩) (by assumption) ?restr4
          case hyr4 => (intro w hSw; (try dsimp only at hSw); go_simp; try with_reducible rfl)
          try simp only [List.getElem_toArray, List.getElem_cons_succ, List.getElem_cons_zero, Act.put, List.setIfInBounds_toArray, List.set_cons_zero, List.set_cons_succ]
          refine wpAnyH_take (i := 4) (v := ?vr5) rfl (by kernel_rfl) (by kernel_rfl) (by kernel_rfl) (fun _ _ _ h => h) (Or.inl ⟨by rfl, ?hyr5⟩) (by assumption) ?restr5
          case hyr5 => (intro w hSw; (try dsimp only at hSw); go_simp; try with_reducible rfl)
          try simp only [List.getElem_toArray, List.getElem_cons_succ, List.getElem_cons_zero, Act.put, List.setIfInBounds_toArray, List.set_cons_zero, List.set_cons_succ]
          refine wpAnyH_take (i := 5) (v := ?vr6) rfl (by kernel_rfl) (by kernel_rfl) (by kernel_rfl) (fun _ _ _ h => h) (Or.inl ⟨by rfl, ?hyr6⟩) (by assumption) ?restr6
          case hyr6 => (intro w hSw; (try dsimp only at hSw); go_simp; try with_reducible rfl)
          try simp only [List.getElem_toArray, List.getElem_cons_succ, List.getElem_cons_zero, Act.put, List.setIfInBounds_toArray, List.set_cons_zero, List.set_cons_succ]
          refine wpAnyH_take (i := 6) (v := ?vr7) rfl (by kernel_rfl) (by kernel_rfl) (by kernel_rfl) (fun _ _ _ h => h) (Or.inl ⟨by rfl, ?hyr7⟩) (by assumption) ?restr7
          case hyr7 => (intro w hSw; (try dsimp only at hSw); go_simp; try with_reducible rfl)
          try simp only [List.getElem_toArray, List.getElem_cons_succ, List.getElem_cons_zero, Act.put, List.setIfInBounds_toArray, List.set_cons_zero, List.set_cons_succ]
          refine wpAnyH_take (i := 7) (v := ?vr8) rfl (by kernel_rfl) (by kernel_rfl) (by kernel_rfl) (fun _ _ _ h => h) (Or.inl ⟨by rfl, ?hyr8⟩) (by assumption) ?restr8
          case hyr8 => (intro w hSw; (try dsimp only at hSw); go_simp; try with_reducible rfl)
          try simp only [List.getElem_toArray, List.getElem_cons_succ, List.getElem_cons_zero, Act.put, List.setIfInBounds_toArray, List.set_cons_zero, List.set_cons_succ]
          refine wpAnyH_take (i := 8) (v := ?vr9) rfl (by kernel_rfl) (by kernel_rfl) (by kernel_rfl) (fun _ _ _ h => h) (Or.inl ⟨by rfl, ?hyr9⟩) (by assumption) ?restr9
          case hyr9 => (intro w hSw; (try dsimp only at hSw); go_simp; try with_reducible rfl)
          try simp only [List.getElem_toArray, List.getElem_cons_succ, List.getElem_cons_zero, Act.put, List.setIfInBounds_toArray, List.set_cons_zero, List.set_cons_succ]
          refine wpAnyH_take (i := 9) (v := ?vr10) rfl (by kernel_rfl) (by kernel_rfl) (by kernel_rfl) (fun _ _ _ h => h) (Or.inl ⟨by rfl, ?hyr10⟩) (by assumption) ?restr10
          case hyr10 => (intro w hSw; (try dsimp only at hSw); go_simp; try with_reducible rfl)
          try simp only [List.getElem_toArray, List.getElem_cons_succ, List.getElem_cons_zero, Act.put, List.setIfInBounds_toArray, List.set_cons_zero, List.set_cons_succ]
          refine wpAnyH_take (i := 10) (v := ?vr11) rfl (by kernel_rfl) (by kernel_rfl) (by kernel_rfl) (fun _ _ _ h => h) (Or.inl ⟨by rfl, ?hyr11⟩) (by assumption) ?restr11
          case hyr11 => (intro w hSw; (try dsimp only at hSw); go_simp; try with_reducible rfl)
          try simp only [List.getElem_toArray, List.getElem_cons_succ, List.getElem_cons_zero, Act.put, List.setIfInBounds_toArray, List.set_cons_zero, List.set_cons_succ]
          refine wpAnyH_take (i := 11) (v := ?vr12) rfl (by kernel_rfl) (by kernel_rfl) (by kernel_rfl) (fun _ _ _ h => h) (Or.inl ⟨by rfl, ?hyr12⟩) (by assumption) ?restr12
          case hyr12 => (intro w hSw; (try dsimp only at hSw); go_simp; try with_reducible rfl)
          try simp only [List.getElem_toArray, List.getElem_cons_succ, List.getElem_cons_zero, Act.put, List.setIfInBounds_toArray, List.set_cons_zero, List.set_cons_succ]
          refine wpAnyH_take (i := 12) (v := ?vr13) rfl (by kernel_rfl) (by kernel_rfl) (by kernel_rfl) (fun _ _ _ h => h) (Or.inl ⟨by rfl, ?hyr13⟩) (by assumption) ?restr13
          case hyr13 => (intro w hSw; (try dsimp only at hSw); go_simp; try with_reducible rfl)
          try simp only [List.getElem_toArray, List.getElem_cons_succ, List.getElem_cons_zero, Act.put, List.setIfInBounds_toArray, List.set_cons_zero, List.set_cons_succ]
          refine wpAnyH_take (i := 13) (v := ?vr14) rfl (by kernel_rfl) (by kernel_rfl) (by kernel_rfl) (fun _ _ _ h => h) (Or.inl ⟨by rfl, ?hyr14⟩) (by assumption) ?restr14
          case hyr14 => (intro w hSw; (try dsimp only at hSw); go_simp; try with_reducible rfl)
          try simp only [List.getElem_toArray, List.getElem_cons_succ, List.getElem_cons_zero, Act.put, List.setIfInBounds_toArray, List.set_cons_zero, List.set_cons_succ]
          refine wpAnyH_take (i := 14) (v := ?vr15) rfl (by kernel_rfl) (by kernel_rfl) (by kernel_rfl) (fun _ _ _ h => h) (Or.inl ⟨by rfl, ?hyr15⟩) (by assumption) ?restr15
          case hyr15 => (intro w hSw; (try dsimp only at hSw); go_simp; try with_reducible rfl)
          try simp only [List.getElem_toArray, List.getElem_cons_succ, List.getElem_cons_zero, Act.put, List.setIfInBounds_toArray, List.set_cons_zero, List.set_cons_succ]
          refine wpAnyH_ready (rs := [15]) (by kernel_rfl) (by simp) ?_
          refine AllReadyH.cons rfl (fun K hK => ?_) AllReadyH.nil
          go_simp
          (go_at_call 70; refine (HAB.out _).mono ?_; rintro _ _ ⟨rfl, rfl⟩)
          refine hK.out _ _ ?_ (fun hHeld => ?_)
          · exact hHeld
          clear hK K
          try simp only [List.getElem_toArray, List.getElem_cons_succ, List.getElem_cons_zero, Act.put, List.setIfInBounds_toArray, List.set_cons_zero, List.set_cons_succ]
          refine wpAnyH_take (i := 16) (v := ?vr16) rfl (by kernel_rfl) (by kernel_rfl) (by kernel_rfl) (fun _ _ _ h => h) (Or.inl ⟨by rfl, ?hyr16⟩) (by assumption) ?restr16
          case hyr16 => (intro w hSw; (try dsimp only at hSw); go_simp; try with_reducible rfl)
          try simp only [List.getElem_toArray, List.getElem_cons_succ, List.getElem_cons_zero, Act.put, List.setIfInBounds_toArray, List.set_cons_zero, List.set_cons_succ]
          refine wpAnyH_take (i := 17) (v := ?vr17) rfl (by kernel_rfl) (by kernel_rfl) (by kernel_rfl) (fun _ _ _ h => h) (Or.inl ⟨by rfl, ?hyr17⟩) (by assumption) ?restr17
          case hyr17 => (intro w hSw; (try dsimp only at hSw); go_simp; try with_reducible rfl)
          try simp only [List.getElem_toArray, List.getElem_cons_succ, List.getElem_cons_zero, Act.put, List.setIfInBounds_toArray, List.set_cons_zero, List.set_cons_succ]
          refine wpAnyH_done (by kernel_rfl) ?_ _
          clear hHeld hh0 he0 hp0 hq0
          go_wp2_with fail
          go_roundw
          case rel => exact ⟨k + 1, by omega, by omega, by go_num, by rw [show k + 1 - 1 = k by omega, HSU.out], HW.out.drewN 1⟩
          case measure => simp [intOf]; omega
end Go.Proofs.Ythedanpldebjcaa
