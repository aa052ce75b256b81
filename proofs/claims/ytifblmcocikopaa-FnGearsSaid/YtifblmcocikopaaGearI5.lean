/- The program: the range, the nearest gear, steps. -/
import Derived.Test.YtifblmcocikopaaGearI4
import Derived.Test.YtifblmcocikopaaPlainGear4
import Derived.Test.YtifblmcocikopaaGearFew
namespace Go.Proofs.Ytifblmcocikopaa
open Go.RowKit
set_option linter.unusedSimpArgs false
set_option linter.unusedVariables false

set_option maxRecDepth 100000 in
set_option maxHeartbeats 4000000 in
theorem implRange (x : Trn) (A : Option Addr) (c : Nat) (B : Option Addr) (d : Nat) (w : World) (T : TrL x A c B d w) :
    Calls Try.prog 31 #[trainV x A c B d] w (Gives2 (rangeR x) w) := by
  have HT := Go.Lib.hid T
  have HX := Go.Lib.hid (boxT_box x A c B d w)
  have HXB := Go.Lib.hid (boxT_below x A c B d w)
  clear T
  have H1 := Go.Lib.hid (fun w0 T0 => implTrain x A c B d w0 T0)
  by_cases ht : trainB x = true
  case neg =>
    have HV := Go.Lib.hid (show rangeR x = (0, 1) by unfold rangeR; rw [if_neg ht])
    rw [Bool.not_eq_true] at ht
    rw [ht] at H1
    clear ht
    unfold trainV at *
    go_enter Try.func31, Try.ntmps31
    go_upto_region 1 with fail
    refine wp_gen (R := fun W => Box W w.heap.size (trainC x A c B d) ∧ Below w.heap.size w W) ⟨HX.out, HXB.out⟩ ?_
    rintro W ⟨hx, hb⟩
    have HX1 := Go.Lib.hid hx
    have HB1 := Go.Lib.hid hb
    have HT1 := Go.Lib.hid (HT.out.below hb)
    clear hx hb HX HXB
    have hc0 : W.cell? ⟨w.heap.size, 0, none⟩ = some (.slice A x.f.length c) := HX1.out.at_ 0 _ rfl
    have hc1 : W.cell? ⟨w.heap.size, 1, none⟩ = some (.slice B x.r.length d) := HX1.out.at_ 1 _ rfl
    have hc2 : W.cell? ⟨w.heap.size, 2, none⟩ = some (.int .i64 x.n) := HX1.out.at_ 2 _ rfl
    go_wp2_with fail
    refine (H1.out _ HT1.out).mono ?_
    rintro _ w2 ⟨rfl, b2⟩
    have HX2 := Go.Lib.hid (HX1.out.below b2)
    have HB2 := Go.Lib.hid (upB HB1.out b2)
    have HT2 := Go.Lib.hid (HT1.out.below b2)
    clear b2 hc0 hc1 hc2 HX1 HB1 HT1
    go_wp2_with fail
    go_ret2
    exact Gives2.of HV.out HB2.out
  case pos =>
    have HV := Go.Lib.hid (show rangeR x = (rangeI x, 0) by unfold rangeR; rw [if_pos ht])
    have HTR := Go.Lib.hid (trainB_ok ht)
    have HGI := Go.Lib.hid (fun w0 T0 => implGears x A c B d w0 T0 (trainB_ok ht))
    rw [ht] at H1
    have hl1 := ordI_one HTR.out
    have HLA := Go.Lib.hid (ordI_last HTR.out)
    have HFI := Go.Lib.hid (ordI_first HTR.out)
    have HO1 := Go.Lib.hid (ordI_ok (x := x) (mem_getD (gs := ordI x) (i := (ordI x).length - 1) (by omega)))
    have HO2 := Go.Lib.hid (ordI_ok (x := x) (mem_getD (gs := ordI x) (i := 0) (by omega)))
    have HRI := Go.Lib.hid (rangeI_of HLA.out HFI.out)
    have hl36 : (ordI x).length ≤ 36 := ordI_few HTR.out
    generalize ordI x = L at *
    unfold trainV at *
    go_enter Try.func31, Try.ntmps31
    go_upto_region 1 with fail
    refine wp_gen (R := fun W => Box W w.heap.size (trainC x A c B d) ∧ Below w.heap.size w W) ⟨HX.out, HXB.out⟩ ?_
    rintro W ⟨hx, hb⟩
    have HX1 := Go.Lib.hid hx
    have HB1 := Go.Lib.hid hb
    have HT1 := Go.Lib.hid (HT.out.below hb)
    clear hx hb HX HXB
    have hc0 : W.cell? ⟨w.heap.size, 0, none⟩ = some (.slice A x.f.length c) := HX1.out.at_ 0 _ rfl
    have hc1 : W.cell? ⟨w.heap.size, 1, none⟩ = some (.slice B x.r.length d) := HX1.out.at_ 1 _ rfl
    have hc2 : W.cell? ⟨w.heap.size, 2, none⟩ = some (.int .i64 x.n) := HX1.out.at_ 2 _ rfl
    go_wp2_with fail
    refine (H1.out _ HT1.out).mono ?_
    rintro _ w2 ⟨rfl, b2⟩
    have HX2 := Go.Lib.hid (HX1.out.below b2)
    have HB2 := Go.Lib.hid (upB HB1.out b2)
    have HT2 := Go.Lib.hid (HT1.out.below b2)
    clear b2 hc0 hc1 hc2 HX1 HB1 HT1
    have hc0 : w2.cell? ⟨w.heap.size, 0, none⟩ = some (.slice A x.f.length c) := HX2.out.at_ 0 _ rfl
    have hc1 : w2.cell? ⟨w.heap.size, 1, none⟩ = some (.slice B x.r.length d) := HX2.out.at_ 1 _ rfl
    have hc2 : w2.cell? ⟨w.heap.size, 2, none⟩ = some (.int .i64 x.n) := HX2.out.at_ 2 _ rfl
    go_wp2_with fail
    refine (HGI.out _ HT2.out).mono ?_
    rintro _ w3 ⟨g, cap, rfl, hbx, hge, b3⟩
    have HGB := Go.Lib.hid hbx
    have HGE := Go.Lib.hid hge
    have HB3 := Go.Lib.hid (upB HB2.out b3)
    have HX3 := Go.Lib.hid (HX2.out.below b3)
    clear hbx hge b3 hc0 hc1 hc2
    obtain ⟨j, hj⟩ : ∃ j, L.length = j + 1 := ⟨L.length - 1, by omega⟩
    have ej : IntKind.i64.wrap ((L.length : Int) - 1) = (j : Int) := (IntWalk.i64_in _ (by omega)).trans (by omega)
    have hjl : (j : Int) < L.length := by omega
    have hj0 : (0 : Int) ≤ j := by omega
    have h0l : (0 : Int) < L.length := by omega
    have h0n : 0 < L.length := by omega
    obtain ⟨p0, p1, p2, p3⟩ := gbox_at HGB.out (show j < L.length by omega)
    obtain ⟨q0, q1, q2, q3⟩ := gbox_at HGB.out (show 0 < L.length by omega)
    rw [show L.length - 1 = j by omega] at HLA HO1 HRI
    rw [Nat.zero_mul] at q0 q1 q2 q3
    rw [Nat.zero_add] at q1 q2 q3
    have hgw : g < w3.heap.size := HGB.out.lt
    have ofb := HTR.out.fb HO1.out
    have orb := HTR.out.rb HO1.out
    have qfb := HTR.out.fb HO2.out
    have qrb := HTR.out.rb HO2.out
    generalize L.getD j (0, 0) = p at *
    generalize L.getD 0 (0, 0) = q at *
    have m1 := mul_bd (show 0 ≤ fI x p.1 by omega) ofb.2 (show 0 ≤ rI x q.2 by omega) qrb.2
    have m2 := mul_bd (show 0 ≤ rI x p.2 by omega) orb.2 (show 0 ≤ fI x q.1 by omega) qfb.2
    have m3 : 9 * 20 ≤ rI x p.2 * fI x q.1 := Int.mul_le_mul orb.1 qfb.1 (by omega) (by omega)
    have HOV := Go.Lib.hid (fun w0 => implOver p.1 p.2 (fI x p.1) (rI x p.2) q.1 q.2 (fI x q.1) (rI x q.2) w0 (IntWalk.i64_in _ (by omega)) (IntWalk.i64_in _ (by omega)))
    have HDN := Go.Lib.hid (fun w0 => implDown (100 * (fI x p.1 * rI x q.2)) (rI x p.2 * fI x q.1) w0 (by omega) (by omega) (by omega) (by omega))
    have e100 : IntKind.i64.wrap (100 * (fI x p.1 * rI x q.2)) = 100 * (fI x p.1 * rI x q.2) := IntWalk.i64_in _ (by omega)
    rw [← HRI.out] at HDN
    clear ofb orb qfb qrb m1 m2 m3 HRI HO1 HO2 HLA HFI ht
    generalize fI x p.1 = pf at *
    generalize rI x p.2 = pr at *
    generalize fI x q.1 = qf at *
    generalize rI x q.2 = qr at *
    generalize pf * qr = n1 at *
    generalize pr * qf = n2 at *
    have HJ := Go.Lib.hid hj
    clear hj hl1
    go_upto_region 4 with fail
    refine wp_region_held_drew (S := fun w' => w'.cell? ⟨g, j * 4, none⟩ = some (.int .i64 (p.1 : Nat)) ∧ w'.cell? ⟨g, j * 4 + 1, none⟩ = some (.int .i64 (p.2 : Nat)) ∧ w'.cell? ⟨g, j * 4 + 2, none⟩ = some (.int .i64 pf) ∧ w'.cell? ⟨g, j * 4 + 3, none⟩ = some (.int .i64 pr) ∧ w'.cell? ⟨g, 0, none⟩ = some (.int .i64 (q.1 : Nat)) ∧ w'.cell? ⟨g, 1, none⟩ = some (.int .i64 (q.2 : Nat)) ∧ w'.cell? ⟨g, 2, none⟩ = some (.int .i64 qf) ∧ w'.cell? ⟨g, 3, none⟩ = some (.int .i64 qr)) (by kernel_rfl) (by exact ⟨p0, p1, p2, p3, q0, q1, q2, q3⟩) (fun hHeld => ?_)
    refine wpAnyH_take (i := 0) (v := ?vr1) rfl (by kernel_rfl) (by kernel_rfl) (by kernel_rfl) (fun _ _ _ h => h) (Or.inl ⟨by rfl, ?hyr1⟩) (by assumption) ?restr1
    case hyr1 => (intro w hSw; (try dsimp only at hSw); go_simp; try with_reducible rfl)
    try simp only [List.getElem_toArray, List.getElem_cons_succ, List.getElem_cons_zero, Act.put, List.setIfInBounds_toArray, List.set_cons_zero, List.set_cons_succ]
    refine wpAnyH_take (i := 1) (v := ?vr2) rfl (by kernel_rfl) (by kernel_rfl) (by kernel_rfl) (fun _ _ _ h => h) (Or.inl ⟨by rfl, ?hyr2⟩) (by assumption) ?restr2
    case hyr2 => (intro w hSw; (try dsimp only at hSw); go_simp; try with_reducible rfl)
    try simp only [List.getElem_toArray, List.getElem_cons_succ, List.getElem_cons_zero, Act.put, List.setIfInBounds_toArray, List.set_cons_zero, List.set_cons_succ]
    refine wpAnyH_take (i := 2) (v := ?vr3) rfl (by kernel_rfl) (by kernel_rfl) (by kernel_rfl) (fun _ _ _ h => h) (Or.inl ⟨by rfl, ?hyr3⟩) (by assumption) ?restr3
    case hyr3 => (intro w hSw; (try dsimp only at hSw); go_simp; try with_reducible rfl)
    try simp only [List.getElem_toArray, List.getElem_cons_succ, List.getElem_cons_zero, Act.put, List.setIfInBounds_toArray, List.set_cons_zero, List.set_cons_succ]
    refine wpAnyH_take (i := 3) (v := ?vr4) rfl (by kernel_rfl) (by kernel_rfl) (by kernel_rfl) (fun _ _ _ h => h) (Or.inl ⟨by rfl, ?hyr4⟩) (by assumption) ?restr4
    case hyr4 => (intro w hSw; (try dsimp only at hSw); go_simp; try with_reducible rfl)
    try simp only [List.getElem_toArray, List.getElem_cons_succ, List.getElem_cons_zero, Act.put, List.setIfInBounds_toArray, List.set_cons_zero, List.set_cons_succ]
    refine wpAnyH_take (i := 4) (v := ?vr5) rfl (by kernel_rfl) (by kernel_rfl) (by kernel_rfl) (fun _ _ _ h => h) (Or.inl ⟨by rfl, ?hyr5⟩) (by assumption) ?restr5
    case hyr5 => (intro w hSw; (try dsimp only at hSw); go_simp; try with_reducible rfl)
    try simp only [List.getElem_toArray, List.getElem_cons_succ, List.getElem_cons_zero, Act.put, List.setIfInBounds_toArray, List.set_cons_zero, List.set_cons_succ]
    refine wpAnyH_take (i := 5) (v := ?vr6) rfl (by kernel_rfl) (by kernel_rfl) (by kernel_rfl) (fun _ _ _ h => h) (Or.inl ⟨by rfl, ?hyr6⟩) (by assumption) ?restr6
    case hyr6 => (intro w hSw; (try dsimp only at hSw); go_simp; try with_reducible rfl)
    try simp only [List.getElem_toArray, List.getElem_cons_succ, List.getElem_cons_zero, Act.put, List.setIfInBounds_toArray, List.set_cons_zero, List.set_cons_succ]
    refine wpAnyH_take (i := 6) (v := ?vr7) rfl (by kernel_rfl) (by kernel_rfl) (by kernel_rfl) (fun _ _ _ h => h) (Or.inl ⟨by rfl, ?hyr7⟩) (by assumption) ?restr7
    case hyr7 => (intro w hSw; (try dsimp only at hSw); go_simp; try with_reducible rfl)
    try simp only [List.getElem_toArray, List.getElem_cons_succ, List.getElem_cons_zero, Act.put, List.setIfInBounds_toArray, List.set_cons_zero, List.set_cons_succ]
    refine wpAnyH_take (i := 7) (v := ?vr8) rfl (by kernel_rfl) (by kernel_rfl) (by kernel_rfl) (fun _ _ _ h => h) (Or.inl ⟨by rfl, ?hyr8⟩) (by assumption) ?restr8
    case hyr8 => (intro w hSw; (try dsimp only at hSw); go_simp; try with_reducible rfl)
    try simp only [List.getElem_toArray, List.getElem_cons_succ, List.getElem_cons_zero, Act.put, List.setIfInBounds_toArray, List.set_cons_zero, List.set_cons_succ]
    refine wpAnyH_take (i := 8) (v := ?vr9) rfl (by kernel_rfl) (by kernel_rfl) (by kernel_rfl) (fun _ _ _ h => h) (Or.inl ⟨by rfl, ?hyr9⟩) (by assumption) ?restr9
    case hyr9 => (intro w hSw; (try dsimp only at hSw); go_simp; try with_reducible rfl)
    try simp only [List.getElem_toArray, List.getElem_cons_succ, List.getElem_cons_zero, Act.put, List.setIfInBounds_toArray, List.set_cons_zero, List.set_cons_succ]
    refine wpAnyH_ready (rs := [9]) (by kernel_rfl) (by simp) ?_
    refine AllReadyH.cons rfl (fun K hK => ?_) AllReadyH.nil
    go_simp
    (go_at_call 68; refine (HOV.out _).mono ?_; rintro _ wc ⟨rfl, bc⟩)
    refine hK.out _ _ ?_ (fun hHeld => ?_)
    · exact ⟨(bc.cell (p := ⟨g, j * 4, none⟩) hgw).trans p0, (bc.cell (p := ⟨g, j * 4 + 1, none⟩) hgw).trans p1, (bc.cell (p := ⟨g, j * 4 + 2, none⟩) hgw).trans p2, (bc.cell (p := ⟨g, j * 4 + 3, none⟩) hgw).trans p3, (bc.cell (p := ⟨g, 0, none⟩) hgw).trans q0, (bc.cell (p := ⟨g, 1, none⟩) hgw).trans q1, (bc.cell (p := ⟨g, 2, none⟩) hgw).trans q2, (bc.cell (p := ⟨g, 3, none⟩) hgw).trans q3⟩
    clear hK K
    try simp only [List.getElem_toArray, List.getElem_cons_succ, List.getElem_cons_zero, Act.put, List.setIfInBounds_toArray, List.set_cons_zero, List.set_cons_succ]
    refine wpAnyH_take (i := 10) (v := ?vr10) rfl (by kernel_rfl) (by kernel_rfl) (by kernel_rfl) (fun _ _ _ h => h) (Or.inl ⟨by rfl, ?hyr10⟩) (by assumption) ?restr10
    case hyr10 => (intro w hSw; (try dsimp only at hSw); go_simp; try with_reducible rfl)
    try simp only [List.getElem_toArray, List.getElem_cons_succ, List.getElem_cons_zero, Act.put, List.setIfInBounds_toArray, List.set_cons_zero, List.set_cons_succ]
    refine wpAnyH_take (i := 11) (v := ?vr11) rfl (by kernel_rfl) (by kernel_rfl) (by kernel_rfl) (fun _ _ _ h => h) (Or.inl ⟨by rfl, ?hyr11⟩) (by assumption) ?restr11
    case hyr11 => (intro w hSw; (try dsimp only at hSw); go_simp; try with_reducible rfl)
    try simp only [List.getElem_toArray, List.getElem_cons_succ, List.getElem_cons_zero, Act.put, List.setIfInBounds_toArray, List.set_cons_zero, List.set_cons_succ]
    refine wpAnyH_take (i := 12) (v := ?vr12) rfl (by kernel_rfl) (by kernel_rfl) (by kernel_rfl) (fun _ _ _ h => h) (Or.inl ⟨by rfl, ?hyr12⟩) (by assumption) ?restr12
    case hyr12 => (intro w hSw; (try dsimp only at hSw); go_simp; try with_reducible rfl)
    try simp only [List.getElem_toArray, List.getElem_cons_succ, List.getElem_cons_zero, Act.put, List.setIfInBounds_toArray, List.set_cons_zero, List.set_cons_succ]
    refine wpAnyH_take (i := 13) (v := ?vr13) rfl (by kernel_rfl) (by kernel_rfl) (by kernel_rfl) (fun _ _ _ h => h) (Or.inl ⟨by rfl, ?hyr13⟩) (by assumption) ?restr13
    case hyr13 => (intro w hSw; (try dsimp only at hSw); go_simp; try with_reducible rfl)
    try simp only [List.getElem_toArray, List.getElem_cons_succ, List.getElem_cons_zero, Act.put, List.setIfInBounds_toArray, List.set_cons_zero, List.set_cons_succ]
    refine wpAnyH_take (i := 14) (v := ?vr14) rfl (by kernel_rfl) (by kernel_rfl) (by kernel_rfl) (fun _ _ _ h => h) (Or.inl ⟨by rfl, ?hyr14⟩) (by assumption) ?restr14
    case hyr14 => (intro w hSw; (try dsimp only at hSw); go_simp; try with_reducible rfl)
    try simp only [List.getElem_toArray, List.getElem_cons_succ, List.getElem_cons_zero, Act.put, List.setIfInBounds_toArray, List.set_cons_zero, List.set_cons_succ]
    refine wpAnyH_done (by kernel_rfl) ?_ _
    clear p0 p1 p2 p3 q0 q1 q2 q3
    have HB5 := Go.Lib.hid (HB3.out.drew.trans (bc.mono HB3.out.drew.size))
    clear bc
    go_wp2_with fail
    refine (HDN.out _).mono ?_
    rintro _ _ ⟨rfl, rfl⟩
    go_wp2_with fail
    go_ret2
    exact Gives2.of HV.out HB5.out
set_option maxRecDepth 100000 in
set_option maxHeartbeats 16000000 in
theorem implSteps (x : Trn) (A : Option Addr) (c : Nat) (B : Option Addr) (d : Nat) (w : World) (T : TrL x A c B d w) :
    Calls Try.prog 29 #[trainV x A c B d] w (GivesLN (stepsR x) w) := by
  obtain ⟨i0, hi, hz0, hz1, hz2⟩ := info_parts infoI64
  have HT := Go.Lib.hid T
  have HX := Go.Lib.hid (boxT_box x A c B d w)
  have HXB := Go.Lib.hid (boxT_below x A c B d w)
  clear T
  have H1 := Go.Lib.hid (fun w0 T0 => implTrain x A c B d w0 T0)
  by_cases ht : trainB x = true
  case neg =>
    have HV := Go.Lib.hid (show stepsR x = ([], 1) by unfold stepsR; rw [if_neg ht])
    rw [Bool.not_eq_true] at ht
    rw [ht] at H1
    clear ht
    unfold trainV at *
    go_enter Try.func29, Try.ntmps29
    go_upto_region 1 with fail
    refine wp_gen (R := fun W => Box W w.heap.size (trainC x A c B d) ∧ Below w.heap.size w W) ⟨HX.out, HXB.out⟩ ?_
    rintro W ⟨hx, hb⟩
    have HX1 := Go.Lib.hid hx
    have HB1 := Go.Lib.hid hb
    have HT1 := Go.Lib.hid (HT.out.below hb)
    clear hx hb HX HXB
    have hc0 : W.cell? ⟨w.heap.size, 0, none⟩ = some (.slice A x.f.length c) := HX1.out.at_ 0 _ rfl
    have hc1 : W.cell? ⟨w.heap.size, 1, none⟩ = some (.slice B x.r.length d) := HX1.out.at_ 1 _ rfl
    have hc2 : W.cell? ⟨w.heap.size, 2, none⟩ = some (.int .i64 x.n) := HX1.out.at_ 2 _ rfl
    go_wp2_with fail
    refine (H1.out _ HT1.out).mono ?_
    rintro _ w2 ⟨rfl, b2⟩
    have HX2 := Go.Lib.hid (HX1.out.below b2)
    have HB2 := Go.Lib.hid (upB HB1.out b2)
    have HT2 := Go.Lib.hid (HT1.out.below b2)
    clear b2 hc0 hc1 hc2 HX1 HB1 HT1
    go_wp2_with fail
    go_ret2
    exact GivesLN.nil HV.out HB2.out
  case pos =>
    have HV := Go.Lib.hid (show stepsR x = (stepsTo x (ordI x) ((ordI x).length - 1), 0) by unfold stepsR; rw [if_pos ht])
    have HTR := Go.Lib.hid (trainB_ok ht)
    have HGI := Go.Lib.hid (fun w0 T0 => implGears x A c B d w0 T0 (trainB_ok ht))
    rw [ht] at H1
    have hn1 := ordI_one HTR.out
    have hn36 : (ordI x).length ≤ 36 := ordI_few HTR.out
    have HUP := Go.Lib.hid (show ∀ i, i + 1 < (ordI x).length → leG x ((ordI x).getD i (0, 0)) ((ordI x).getD (i + 1) (0, 0)) from fun i hi => (ordI_up x).at_ hi)
    have HOK := Go.Lib.hid (fun i (hi : i < (ordI x).length) => ordI_ok (x := x) (mem_getD (gs := ordI x) (i := i) hi))
    clear ht
    generalize ordI x = L at *
    unfold trainV at *
    go_enter Try.func29, Try.ntmps29
    go_upto_region 1 with fail
    refine wp_gen (R := fun W => Box W w.heap.size (trainC x A c B d) ∧ Below w.heap.size w W) ⟨HX.out, HXB.out⟩ ?_
    rintro W ⟨hx, hb⟩
    have HX1 := Go.Lib.hid hx
    have HB1 := Go.Lib.hid hb
    have HT1 := Go.Lib.hid (HT.out.below hb)
    clear hx hb HX HXB
    have hc0 : W.cell? ⟨w.heap.size, 0, none⟩ = some (.slice A x.f.length c) := HX1.out.at_ 0 _ rfl
    have hc1 : W.cell? ⟨w.heap.size, 1, none⟩ = some (.slice B x.r.length d) := HX1.out.at_ 1 _ rfl
    have hc2 : W.cell? ⟨w.heap.size, 2, none⟩ = some (.int .i64 x.n) := HX1.out.at_ 2 _ rfl
    go_wp2_with fail
    refine (H1.out _ HT1.out).mono ?_
    rintro _ w2 ⟨rfl, b2⟩
    have HX2 := Go.Lib.hid (HX1.out.below b2)
    have HB2 := Go.Lib.hid (upB HB1.out b2)
    have HT2 := Go.Lib.hid (HT1.out.below b2)
    clear b2 hc0 hc1 hc2 HX1 HB1 HT1
    have hc0 : w2.cell? ⟨w.heap.size, 0, none⟩ = some (.slice A x.f.length c) := HX2.out.at_ 0 _ rfl
    have hc1 : w2.cell? ⟨w.heap.size, 1, none⟩ = some (.slice B x.r.length d) := HX2.out.at_ 1 _ rfl
    have hc2 : w2.cell? ⟨w.heap.size, 2, none⟩ = some (.int .i64 x.n) := HX2.out.at_ 2 _ rfl
    go_wp2_with fail
    refine (HGI.out _ HT2.out).mono ?_
    rintro _ w3 ⟨g, cap, rfl, hbx, hge, b3⟩
    have HGB := Go.Lib.hid hbx
    have HGE := Go.Lib.hid hge
    have HB3 := Go.Lib.hid (upB HB2.out b3)
    have HX3 := Go.Lib.hid (HX2.out.below b3)
    clear hbx hge b3 hc0 hc1 hc2
    have HG0 := Go.Lib.hid (show Gat w3 (stepsTo x L (1 - 1)) (.slice none 0 0) w3 from Gat.nil (Below.refl w3.heap.size w3))
    go_wp2_with fail
    go_loopw [5, 6] (fun v u wr => ∃ (k : Nat), 1 ≤ k ∧ k ≤ L.length ∧ u = .int .i64 k ∧ Gat w3 (stepsTo x L (k - 1)) v wr) (fun _ u _ => L.length - (intOf u).toNat)
    case atStart => exact ⟨1, Nat.le_refl _, hn1, rfl, HG0.out⟩
    case round =>
      obtain ⟨k, hk1, hk, rfl, hgat⟩ := hrel
      have HGT := Go.Lib.hid hgat
      have hbq := hgat.b
      clear hgat HG0
      by_cases hlt : k < L.length
      case neg =>
        obtain rfl : k = L.length := by omega
        have HF := Go.Lib.hid ((HGT.out.done HV.out).up HB3.out)
        clear hbq
        go_wp2_with fail
        go_ret2
        exact HF.out
      case pos =>
        have HGW := Go.Lib.hid (HGB.out.below hbq)
        have HSU := Go.Lib.hid (stepsTo_succ x L (k - 1))
        have HSL := Go.Lib.hid (stepsTo_len x L (k - 1))
        rw [Nat.sub_add_cancel hk1] at HSU
        obtain ⟨j, hj⟩ : ∃ j, k = j + 1 := ⟨k - 1, by omega⟩
        have ek : IntKind.i64.wrap ((k : Int) - 1) = (j : Int) := (IntWalk.i64_in _ (by omega)).trans (by omega)
        have hj0 : (0 : Int) ≤ j := by omega
        have hjl : (j : Int) < L.length := by omega
        have hkl : (k : Int) < L.length := by omega
        obtain ⟨p0, p1, p2, p3⟩ := gbox_at HGW.out (show j < L.length by omega)
        obtain ⟨q0, q1, q2, q3⟩ := gbox_at HGW.out (show k < L.length by omega)
        have hgw : g < wr.heap.size := HGW.out.lt
        have HO1 := Go.Lib.hid (HOK.out j (by omega))
        have HO2 := Go.Lib.hid (HOK.out k hlt)
        have hup := HUP.out j (by omega)
        rw [show k - 1 = j by omega] at *
        rw [show j + 1 = k by omega] at *
        have pfb := HTR.out.fb HO1.out
        have prb := HTR.out.rb HO1.out
        have qfb := HTR.out.fb HO2.out
        have qrb := HTR.out.rb HO2.out
        generalize L.getD j (0, 0) = p at *
        generalize L.getD k (0, 0) = q at *
        have m1 := mul_bd (show 0 ≤ fI x q.1 by omega) qfb.2 (show 0 ≤ rI x p.2 by omega) prb.2
        have m2 := mul_bd (show 0 ≤ rI x q.2 by omega) qrb.2 (show 0 ≤ fI x p.1 by omega) pfb.2
        have m3 : 9 * 20 ≤ rI x q.2 * fI x p.1 := Int.mul_le_mul qrb.1 pfb.1 (by omega) (by omega)
        have HOV := Go.Lib.hid (fun w0 => implOver q.1 q.2 (fI x q.1) (rI x q.2) p.1 p.2 (fI x p.1) (rI x p.2) w0 (IntWalk.i64_in _ (by omega)) (IntWalk.i64_in _ (by omega)))
        have HSG := Go.Lib.hid (show stepG x p q = 1000 * (fI x q.1 * rI x p.2 - rI x q.2 * fI x p.1) / (rI x q.2 * fI x p.1) by unfold stepG; rw [Int.mul_comm (fI x p.1)])
        unfold leG at hup
        rw [Int.mul_comm (fI x p.1)] at hup
        have HDN := Go.Lib.hid (fun w0 => implDown (1000 * (fI x q.1 * rI x p.2 - rI x q.2 * fI x p.1)) (rI x q.2 * fI x p.1) w0 (by omega) (by omega) (by omega) (by omega))
        have e1 : IntKind.i64.wrap (fI x q.1 * rI x p.2 - rI x q.2 * fI x p.1) = fI x q.1 * rI x p.2 - rI x q.2 * fI x p.1 := IntWalk.i64_in _ (by omega)
        have e2 : IntKind.i64.wrap (1000 * (fI x q.1 * rI x p.2 - rI x q.2 * fI x p.1)) = 1000 * (fI x q.1 * rI x p.2 - rI x q.2 * fI x p.1) := IntWalk.i64_in _ (by omega)
        rw [← HSG.out] at HDN
        clear pfb prb qfb qrb m1 m2 m3 hup hbq HSG HO1 HO2 HGW
        generalize stepG x p q = sg at *
        generalize fI x p.1 = pf at *
        generalize rI x p.2 = pr at *
        generalize fI x q.1 = qf at *
        generalize rI x q.2 = qr at *
        generalize qf * pr = n1 at *
        generalize qr * pf = n2 at *
        have HJ := Go.Lib.hid hj
        clear hj
        go_upto_region 8 with fail
        refine wp_region_held_drew (S := fun w' => w'.cell? ⟨g, j * 4, none⟩ = some (.int .i64 (p.1 : Nat)) ∧ w'.cell? ⟨g, j * 4 + 1, none⟩ = some (.int .i64 (p.2 : Nat)) ∧ w'.cell? ⟨g, j * 4 + 2, none⟩ = some (.int .i64 pf) ∧ w'.cell? ⟨g, j * 4 + 3, none⟩ = some (.int .i64 pr) ∧ w'.cell? ⟨g, k * 4, none⟩ = some (.int .i64 (q.1 : Nat)) ∧ w'.cell? ⟨g, k * 4 + 1, none⟩ = some (.int .i64 (q.2 : Nat)) ∧ w'.cell? ⟨g, k * 4 + 2, none⟩ = some (.int .i64 qf) ∧ w'.cell? ⟨g, k * 4 + 3, none⟩ = some (.int .i64 qr)) (by kernel_rfl) (by exact ⟨p0, p1, p2, p3, q0, q1, q2, q3⟩) (fun hHeld => ?_)
        refine wpAnyH_take (i := 0) (v := ?vu1) rfl (by kernel_rfl) (by kernel_rfl) (by kernel_rfl) (fun _ _ _ h => h) (Or.inl ⟨by rfl, ?hyu1⟩) (by assumption) ?restu1
        case hyu1 => (intro w hSw; (try dsimp only at hSw); go_simp; try with_reducible rfl)
        try simp only [List.getElem_toArray, List.getElem_cons_succ, List.getElem_cons_zero, Act.put, List.setIfInBounds_toArray, List.set_cons_zero, List.set_cons_succ]
        refine wpAnyH_take (i := 1) (v := ?vu2) rfl (by kernel_rfl) (by kernel_rfl) (by kernel_rfl) (fun _ _ _ h => h) (Or.inl ⟨by rfl, ?hyu2⟩) (by assumption) ?restu2
        case hyu2 => (intro w hSw; (try dsimp only at hSw); go_simp; try with_reducible rfl)
        try simp only [List.getElem_toArray, List.getElem_cons_succ, List.getElem_cons_zero, Act.put, List.setIfInBounds_toArray, List.set_cons_zero, List.set_cons_succ]
        refine wpAnyH_take (i := 2) (v := ?vu3) rfl (by kernel_rfl) (by kernel_rfl) (by kernel_rfl) (fun _ _ _ h => h) (Or.inl ⟨by rfl, ?hyu3⟩) (by assumption) ?restu3
        case hyu3 => (intro w hSw; (try dsimp only at hSw); go_simp; try with_reducible rfl)
        try simp only [List.getElem_toArray, List.getElem_cons_succ, List.getElem_cons_zero, Act.put, List.setIfInBounds_toArray, List.set_cons_zero, List.set_cons_succ]
        refine wpAnyH_take (i := 3) (v := ?vu4) rfl (by kernel_rfl) (by kernel_rfl) (by kernel_rfl) (fun _ _ _ h => h) (Or.inl ⟨by rfl, ?hyu4⟩) (by assumption) ?restu4
        case hyu4 => (intro w hSw; (try dsimp only at hSw); go_simp; try with_reducible rfl)
        try simp only [List.getElem_toArray, List.getElem_cons_succ, List.getElem_cons_zero, Act.put, List.setIfInBounds_toArray, List.set_cons_zero, List.set_cons_succ]
        refine wpAnyH_take (i := 4) (v := ?vu5) rfl (by kernel_rfl) (by kernel_rfl) (by kernel_rfl) (fun _ _ _ h => h) (Or.inl ⟨by rfl, ?hyu5⟩) (by assumption) ?restu5
        case hyu5 => (intro w hSw; (try dsimp only at hSw); go_simp; try with_reducible rfl)
        try simp only [List.getElem_toArray, List.getElem_cons_succ, List.getElem_cons_zero, Act.put, List.setIfInBounds_toArray, List.set_cons_zero, List.set_cons_succ]
        refine wpAnyH_take (i := 5) (v := ?vu6) rfl (by kernel_rfl) (by kernel_rfl) (by kernel_rfl) (fun _ _ _ h => h) (Or.inl ⟨by rfl, ?hyu6⟩) (by assumption) ?restu6
        case hyu6 => (intro w hSw; (try dsimp only at hSw); go_simp; try with_reducible rfl)
        try simp only [List.getElem_toArray, List.getElem_cons_succ, List.getElem_cons_zero, Act.put, List.setIfInBounds_toArray, List.set_cons_zero, List.set_cons_succ]
        refine wpAnyH_take (i := 6) (v := ?vu7) rfl (by kernel_rfl) (by kernel_rfl) (by kernel_rfl) (fun _ _ _ h => h) (Or.inl ⟨by rfl, ?hyu7⟩) (by assumption) ?restu7
        case hyu7 => (intro w hSw; (try dsimp only at hSw); go_simp; try with_reducible rfl)
        try simp only [List.getElem_toArray, List.getElem_cons_succ, List.getElem_cons_zero, Act.put, List.setIfInBounds_toArray, List.set_cons_zero, List.set_cons_succ]
        refine wpAnyH_take (i := 7) (v := ?vu8) rfl (by kernel_rfl) (by kernel_rfl) (by kernel_rfl) (fun _ _ _ h => h) (Or.inl ⟨by rfl, ?hyu8⟩) (by assumption) ?restu8
        case hyu8 => (intro w hSw; (try dsimp only at hSw); go_simp; try with_reducible rfl)
        try simp only [List.getElem_toArray, List.getElem_cons_succ, List.getElem_cons_zero, Act.put, List.setIfInBounds_toArray, List.set_cons_zero, List.set_cons_succ]
        refine wpAnyH_take (i := 8) (v := ?vu9) rfl (by kernel_rfl) (by kernel_rfl) (by kernel_rfl) (fun _ _ _ h => h) (Or.inl ⟨by rfl, ?hyu9⟩) (by assumption) ?restu9
        case hyu9 => (intro w hSw; (try dsimp only at hSw); go_simp; try with_reducible rfl)
        try simp only [List.getElem_toArray, List.getElem_cons_succ, List.getElem_cons_zero, Act.put, List.setIfInBounds_toArray, List.set_cons_zero, List.set_cons_succ]
        refine wpAnyH_ready (rs := [9]) (by kernel_rfl) (by simp) ?_
        refine AllReadyH.cons rfl (fun K hK => ?_) AllReadyH.nil
        go_simp
        (go_at_call 68; refine (HOV.out _).mono ?_; rintro _ wc ⟨rfl, bc⟩)
        refine hK.out _ _ ?_ (fun hHeld => ?_)
        · exact ⟨(bc.cell (p := ⟨g, j * 4, none⟩) hgw).trans p0, (bc.cell (p := ⟨g, j * 4 + 1, none⟩) hgw).trans p1, (bc.cell (p := ⟨g, j * 4 + 2, none⟩) hgw).trans p2, (bc.cell (p := ⟨g, j * 4 + 3, none⟩) hgw).trans p3, (bc.cell (p := ⟨g, k * 4, none⟩) hgw).trans q0, (bc.cell (p := ⟨g, k * 4 + 1, none⟩) hgw).trans q1, (bc.cell (p := ⟨g, k * 4 + 2, none⟩) hgw).trans q2, (bc.cell (p := ⟨g, k * 4 + 3, none⟩) hgw).trans q3⟩
        clear hK K
        try simp only [List.getElem_toArray, List.getElem_cons_succ, List.getElem_cons_zero, Act.put, List.setIfInBounds_toArray, List.set_cons_zero, List.set_cons_succ]
        refine wpAnyH_take (i := 10) (v := ?vu10) rfl (by kernel_rfl) (by kernel_rfl) (by kernel_rfl) (fun _ _ _ h => h) (Or.inl ⟨by rfl, ?hyu10⟩) (by assumption) ?restu10
        case hyu10 => (intro w hSw; (try dsimp only at hSw); go_simp; try with_reducible rfl)
        try simp only [List.getElem_toArray, List.getElem_cons_succ, List.getElem_cons_zero, Act.put, List.setIfInBounds_toArray, List.set_cons_zero, List.set_cons_succ]
        refine wpAnyH_take (i := 11) (v := ?vu11) rfl (by kernel_rfl) (by kernel_rfl) (by kernel_rfl) (fun _ _ _ h => h) (Or.inl ⟨by rfl, ?hyu11⟩) (by assumption) ?restu11
        case hyu11 => (intro w hSw; (try dsimp only at hSw); go_simp; try with_reducible rfl)
        try simp only [List.getElem_toArray, List.getElem_cons_succ, List.getElem_cons_zero, Act.put, List.setIfInBounds_toArray, List.set_cons_zero, List.set_cons_succ]
        refine wpAnyH_take (i := 12) (v := ?vu12) rfl (by kernel_rfl) (by kernel_rfl) (by kernel_rfl) (fun _ _ _ h => h) (Or.inl ⟨by rfl, ?hyu12⟩) (by assumption) ?restu12
        case hyu12 => (intro w hSw; (try dsimp only at hSw); go_simp; try with_reducible rfl)
        try simp only [List.getElem_toArray, List.getElem_cons_succ, List.getElem_cons_zero, Act.put, List.setIfInBounds_toArray, List.set_cons_zero, List.set_cons_succ]
        refine wpAnyH_take (i := 13) (v := ?vu13) rfl (by kernel_rfl) (by kernel_rfl) (by kernel_rfl) (fun _ _ _ h => h) (Or.inl ⟨by rfl, ?hyu13⟩) (by assumption) ?restu13
        case hyu13 => (intro w hSw; (try dsimp only at hSw); go_simp; try with_reducible rfl)
        try simp only [List.getElem_toArray, List.getElem_cons_succ, List.getElem_cons_zero, Act.put, List.setIfInBounds_toArray, List.set_cons_zero, List.set_cons_succ]
        refine wpAnyH_take (i := 14) (v := ?vu14) rfl (by kernel_rfl) (by kernel_rfl) (by kernel_rfl) (fun _ _ _ h => h) (Or.inl ⟨by rfl, ?hyu14⟩) (by assumption) ?restu14
        case hyu14 => (intro w hSw; (try dsimp only at hSw); go_simp; try with_reducible rfl)
        try simp only [List.getElem_toArray, List.getElem_cons_succ, List.getElem_cons_zero, Act.put, List.setIfInBounds_toArray, List.set_cons_zero, List.set_cons_succ]
        refine wpAnyH_done (by kernel_rfl) ?_ _
        have HG8 := Go.Lib.hid ((HGT.out.drewN 1).below bc)
        have HSZ := Go.Lib.hid HG8.out.b.size
        have hrow := HG8.out.row
        rw [HSL.out] at hrow
        clear bc p0 p1 p2 p3 q0 q1 q2 q3 hgw
        go_wp2_with fail
        refine (HDN.out _).mono ?_
        rintro _ _ ⟨rfl, rfl⟩
        go_wp2_with (at_builtin; refine wpList_append_own_at _ rfl _ _ 24 rfl w3.heap.size 2 i0 (.int .i64 0) 1 8 Try.underlying24 hi hz0 hz1 hz2 rfl (by decide) _ _ _ rfl (hrow.alloc _) ⟨wc.heap.size, 0, none⟩ 1 1 [.int .i64 sg] rfl rfl (cell_one_new _ _ _) (by simp [Value.oneCell']) (by unfold maxLen; omega) (by omega) (by have := HSZ.out; simp; omega) ?_; intro v' w5 hown' hgrow hnil hat; clear hnil hat)
        have HNZ := Go.Lib.hid (HG8.out.step (z := sg) (by rw [HSL.out]; exact hown') hgrow)
        clear hown' hgrow hrow
        go_wp2_with fail
        go_roundw
        case rel => exact ⟨k + 1, by omega, by omega, by go_num, by rw [Nat.add_sub_cancel, HSU.out]; exact HNZ.out⟩
        case measure => simp [intOf]; omega
end Go.Proofs.Ytifblmcocikopaa
