/- The model: equal gears. -/
import Derived.Test.YtifblmcocikopaaGearS5
namespace Go.Proofs.Ytifblmcocikopaa
open Go.RowKit
set_option linter.unusedSimpArgs false
set_option linter.unusedVariables false

set_option maxRecDepth 100000 in
set_option maxHeartbeats 16000000 in
theorem specEqual (x : Trn) (A : Option Addr) (c : Nat) (B : Option Addr) (d : Nat) (w : World) (T : TrL x A c B d w) :
    Calls Try.prog 28 #[trainV x A c B d] w (GivesZ (equalR x) w) := by
  obtain ⟨i0, hi, hz0, hz1, hz2⟩ := info_parts infoRow
  have HT := Go.Lib.hid T
  have HX := Go.Lib.hid (boxT_box x A c B d w)
  have HXB := Go.Lib.hid (boxT_below x A c B d w)
  clear T
  have H1 := Go.Lib.hid (fun w0 T0 => specTrain x A c B d w0 T0)
  by_cases ht : trainB x = true
  case neg =>
    have HV := Go.Lib.hid (show equalR x = ([], 1) by unfold equalR; rw [if_neg ht])
    rw [Bool.not_eq_true] at ht
    rw [ht] at H1
    clear ht
    unfold trainV at *
    go_enter Try.func28, Try.ntmps28
    go_upto_region 1 with fail
    refine wp_gen (R := fun W => Box W w.heap.size (trainC x A c B d) ∧ Below w.heap.size w W) ⟨HX.out, HXB.out⟩ ?_
    rintro W ⟨hx, hb⟩
    have HX1 := Go.Lib.hid hx
    have HB1 := Go.Lib.hid hb
    have HT1 := Go.Lib.hid (HT.out.below hb)
    clear hx hb HX HXB
    have hc0 : W.cell? ⟨w.heap.size, 0, none⟩ = some (.slice A x.f.length c) := HX1.out.at_ 0 _ rfl
    have hc1 : W.cell? ⟨w.heap.size, 1, none⟩ = some (.slice B x.r.length d) := HX1.out.at_ 1 _ rfl
    have hc2 : W.cell? ⟨w.heap.size, 2, none⟩ = some (.int .i64 x.n) := HX1.out.at_ 2 _ rfl
    go_wp2_with fail
    refine (H1.out _ HT1.out).mono ?_
    rintro _ w2 ⟨rfl, b2⟩
    have HX2 := Go.Lib.hid (HX1.out.below b2)
    have HB2 := Go.Lib.hid (upB HB1.out b2)
    have HT2 := Go.Lib.hid (HT1.out.below b2)
    clear b2
    go_wp2_with fail
    go_ret2
    exact GivesZ.nil HV.out HB2.out
  case pos =>
    have HC := Go.Lib.hid (fun a b D e E h w0 T0 ha hb R R2 => specCmp x A c B d a b D e E h w0 T0 (trainB_ok ht) ha hb R R2)
    have HV := Go.Lib.hid (show equalR x = (rowsG (equalTo x (ordI x) ((ordI x).length - 1)), 0) by unfold equalR; rw [if_pos ht])
    have HD := Go.Lib.hid (fun w0 T0 => specOrder x A c B d w0 T0 (trainB_ok ht))
    have HTr := Go.Lib.hid (trainB_ok ht)
    rw [ht] at H1
    clear ht
    have hTr := HTr.out
    have hn1 : 1 ≤ (ordI x).length := by rw [ordI_len]; exact Nat.mul_pos hTr.f.one hTr.r.one
    have hn36 : (ordI x).length ≤ 36 := by
      rw [ordI_len]
      have h1 := hTr.f.few
      have h2 := hTr.r.few
      exact Nat.le_trans (Nat.mul_le_mul (by omega : x.f.length ≤ 3) (by omega : x.r.length ≤ 12)) (by decide)
    have HOK := Go.Lib.hid (fun i (hi : i < (ordI x).length) => ordTo_ok (x := x) (k := x.f.length * x.r.length) (Nat.le_refl _) (mem_getD (gs := ordI x) (i := i) hi))
    have HRA := Go.Lib.hid (fun i (hi : i < (ordI x).length) => rowsG_at (gs := ordI x) (i := i) hi)
    have HLE := Go.Lib.hid (rowsG_len (ordI x))
    clear hTr
    generalize ordI x = L at *
    rw [HLE.out] at HD

    unfold trainV at *
    go_enter Try.func28, Try.ntmps28
    go_upto_region 1 with fail
    refine wp_gen (R := fun W => Box W w.heap.size (trainC x A c B d) ∧ Below w.heap.size w W) ⟨HX.out, HXB.out⟩ ?_
    rintro W ⟨hx, hb⟩
    have HX1 := Go.Lib.hid hx
    have HB1 := Go.Lib.hid hb
    have HT1 := Go.Lib.hid (HT.out.below hb)
    clear hx hb HX HXB
    have hc0 : W.cell? ⟨w.heap.size, 0, none⟩ = some (.slice A x.f.length c) := HX1.out.at_ 0 _ rfl
    have hc1 : W.cell? ⟨w.heap.size, 1, none⟩ = some (.slice B x.r.length d) := HX1.out.at_ 1 _ rfl
    have hc2 : W.cell? ⟨w.heap.size, 2, none⟩ = some (.int .i64 x.n) := HX1.out.at_ 2 _ rfl
    go_wp2_with fail
    refine (H1.out _ HT1.out).mono ?_
    rintro _ w2 ⟨rfl, b2⟩
    have HX2 := Go.Lib.hid (HX1.out.below b2)
    have HB2 := Go.Lib.hid (upB HB1.out b2)
    have HT2 := Go.Lib.hid (HT1.out.below b2)
    clear b2
    clear hc0 hc1 hc2
    have hc0 : w2.cell? ⟨w.heap.size, 0, none⟩ = some (.slice A x.f.length c) := HX2.out.at_ 0 _ rfl
    have hc1 : w2.cell? ⟨w.heap.size, 1, none⟩ = some (.slice B x.r.length d) := HX2.out.at_ 1 _ rfl
    have hc2 : w2.cell? ⟨w.heap.size, 2, none⟩ = some (.int .i64 x.n) := HX2.out.at_ 2 _ rfl
    go_wp2_with fail
    refine (HD.out _ HT2.out).mono ?_
    rintro _ w3 ⟨gl, capl, rfl, oz, b3⟩
    have HLZ := Go.Lib.hid (oz.ls (by rw [HLE.out]; omega))
    have HB3 := Go.Lib.hid (upB HB2.out b3)
    have HX3 := Go.Lib.hid (HX2.out.below b3)
    have HT3 := Go.Lib.hid (HT2.out.below b3)
    clear oz b3 hc0 hc1 hc2
    have HG0 := Go.Lib.hid (GatZ.start w3)
    have HLC := Go.Lib.hid HLZ.out.le
    go_wp2_with fail
    go_loopw [5, 6] (fun v u wr => ∃ (k : Nat), 1 ≤ k ∧ k ≤ L.length ∧ u = .int .i64 k ∧ GatZ w3 (rowsG (equalTo x L (k - 1))) v wr) (fun _ u _ => L.length - (intOf u).toNat)
    case atStart => exact ⟨1, Nat.le_refl _, hn1, rfl, HG0.out⟩
    case round =>
      obtain ⟨k, hk1, hk, rfl, hgat⟩ := hrel
      have HGT := Go.Lib.hid hgat
      have hbq := hgat.b
      clear hgat HG0
      by_cases hlt : k < L.length
      case neg =>
        obtain rfl : k = L.length := by omega
        have HF := Go.Lib.hid (HGT.out.done HV.out HB3.out)
        clear hbq
        go_wp2_with fail
        go_ret2
        exact HF.out
      case pos =>
        obtain ⟨eb, eo, D, dd, e, -, hrow0, hlr0⟩ := HLZ.out.at_ (k := k - 1) (by rw [HLE.out]; omega)
        cases e
        obtain ⟨eb2, eo2, E, ee, e, -, hrow1, hlr1⟩ := HLZ.out.at_ (k := k) (by rw [HLE.out]; omega)
        cases e
        rw [HRA.out (k - 1) (by omega)] at hrow0 hlr0
        rw [HRA.out k hlt] at hrow1 hlr1
        rw [Nat.zero_add] at hrow0 hrow1
        have hra : wr.cell? ⟨gl, k - 1, none⟩ = some (.slice D 2 dd) := (hbq.cell (p := ⟨gl, k - 1, none⟩) (cell_in hrow0)).trans hrow0
        have hrb : wr.cell? ⟨gl, k, none⟩ = some (.slice E 2 ee) := (hbq.cell (p := ⟨gl, k, none⟩) (cell_in hrow1)).trans hrow1
        have HLB := Go.Lib.hid hlr1
        have HXQ := Go.Lib.hid (HX3.out.below hbq)
        have hc0 : wr.cell? ⟨w.heap.size, 0, none⟩ = some (.slice A x.f.length c) := HXQ.out.at_ 0 _ rfl
        have hc1 : wr.cell? ⟨w.heap.size, 1, none⟩ = some (.slice B x.r.length d) := HXQ.out.at_ 1 _ rfl
        have hc2 : wr.cell? ⟨w.heap.size, 2, none⟩ = some (.int .i64 x.n) := HXQ.out.at_ 2 _ rfl
        have HCM := Go.Lib.hid (HC.out (L.getD (k - 1) (0, 0)) (L.getD k (0, 0)) D dd E ee (wr.drewN 1) (HT3.out.below (below_drewN hbq 1)) (HOK.out _ (by omega)) (HOK.out _ hlt) (hlr0.below (below_drewN hbq 1)) (hlr1.below (below_drewN hbq 1)))
        have HCZ := Go.Lib.hid (cmpI_zero x (L.getD (k - 1) (0, 0)) (L.getD k (0, 0)))
        have HSU := Go.Lib.hid (equalTo_succ x L (k - 1))
        have HSW := Go.Lib.hid (show Below wr.heap.size wr (wr.drewN 1) from below_drewN (Below.refl _ _) 1)
        have HLZ2 := Go.Lib.hid (rowsG_len (equalTo x L (k - 1)))
        have hel := equalTo_len x L (k - 1)
        have hki : (k : Int) < L.length := by omega
        have hkj : (k : Int) < capl := by have := HLC.out; rw [HLE.out] at this; omega
        have ek1 : IntKind.i64.wrap ((k : Int) - 1) = ((k - 1 : Nat) : Int) := (IntWalk.i64_in _ (by omega)).trans (by omega)
        have hk2 : ((k - 1 : Nat) : Int) < L.length := by omega
        have hk3 : (0 : Int) ≤ ((k - 1 : Nat) : Int) := by omega
        have hk4 : (0 : Int) ≤ (k : Int) := by omega
        rw [Nat.sub_add_cancel hk1] at HSU
        clear hrow0 hlr0 hrow1 hlr1 hbq
        generalize cmpI x (L.getD (k - 1) (0, 0)) (L.getD k (0, 0)) = cv at *
        by_cases hcv : cv = 0
        case pos =>
          have HSP := Go.Lib.hid (show rowsG (equalTo x L k) = rowsG (equalTo x L (k - 1)) ++ [rowG (L.getD k (0, 0))] by rw [HSU.out, if_pos (HCZ.out.1 hcv)]; simp [rowsG])
          subst hcv
          go_upto_region 8 with fail
          refine wp_region_held_drew (S := fun w' => w'.cell? ⟨w.heap.size, 0, none⟩ = some (.slice A x.f.length c) ∧ w'.cell? ⟨w.heap.size, 1, none⟩ = some (.slice B x.r.length d) ∧ w'.cell? ⟨w.heap.size, 2, none⟩ = some (.int .i64 x.n) ∧ w'.cell? ⟨gl, k - 1, none⟩ = some (.slice D 2 dd) ∧ w'.cell? ⟨gl, k, none⟩ = some (.slice E 2 ee)) (by kernel_rfl) (by exact ⟨hc0, hc1, hc2, hra, hrb⟩) (fun hHeld => ?_)
          refine wpAnyH_take (i := 0) (v := ?vp1) rfl (by kernel_rfl) (by kernel_rfl) (by kernel_rfl) (fun _ _ _ h => h) (Or.inl ⟨by rfl, ?hyp1⟩) (by assumption) ?restp1
          case hyp1 => (intro w hSw; (try dsimp only at hSw); go_simp; try with_reducible rfl)
          try simp only [List.getElem_toArray, List.getElem_cons_succ, List.getElem_cons_zero, Act.put, List.setIfInBounds_toArray, List.set_cons_zero, List.set_cons_succ]
          refine wpAnyH_take (i := 1) (v := ?vp2) rfl (by kernel_rfl) (by kernel_rfl) (by kernel_rfl) (fun _ _ _ h => h) (Or.inl ⟨by rfl, ?hyp2⟩) (by assumption) ?restp2
          case hyp2 => (intro w hSw; (try dsimp only at hSw); go_simp; try with_reducible rfl)
          try simp only [List.getElem_toArray, List.getElem_cons_succ, List.getElem_cons_zero, Act.put, List.setIfInBounds_toArray, List.set_cons_zero, List.set_cons_succ]
          refine wpAnyH_take (i := 2) (v := ?vp3) rfl (by kernel_rfl) (by kernel_rfl) (by kernel_rfl) (fun _ _ _ h => h) (Or.inl ⟨by rfl, ?hyp3⟩) (by assumption) ?restp3
          case hyp3 => (intro w hSw; (try dsimp only at hSw); go_simp; try with_reducible rfl)
          try simp only [List.getElem_toArray, List.getElem_cons_succ, List.getElem_cons_zero, Act.put, List.setIfInBounds_toArray, List.set_cons_zero, List.set_cons_succ]
          refine wpAnyH_take (i := 3) (v := ?vp4) rfl (by kernel_rfl) (by kernel_rfl) (by kernel_rfl) (fun _ _ _ h => h) (Or.inl ⟨by rfl, ?hyp4⟩) (by assumption) ?restp4
          case hyp4 => (intro w hSw; (try dsimp only at hSw); go_simp; try with_reducible rfl)
          try simp only [List.getElem_toArray, List.getElem_cons_succ, List.getElem_cons_zero, Act.put, List.setIfInBounds_toArray, List.set_cons_zero, List.set_cons_succ]
          refine wpAnyH_take (i := 4) (v := ?vp5) rfl (by kernel_rfl) (by kernel_rfl) (by kernel_rfl) (fun _ _ _ h => h) (Or.inl ⟨by rfl, ?hyp5⟩) (by assumption) ?restp5
          case hyp5 => (intro w hSw; (try dsimp only at hSw); go_simp; try with_reducible rfl)
          try simp only [List.getElem_toArray, List.getElem_cons_succ, List.getElem_cons_zero, Act.put, List.setIfInBounds_toArray, List.set_cons_zero, List.set_cons_succ]
          refine wpAnyH_take (i := 5) (v := ?vp6) rfl (by kernel_rfl) (by kernel_rfl) (by kernel_rfl) (fun _ _ _ h => h) (Or.inl ⟨by rfl, ?hyp6⟩) (by assumption) ?restp6
          case hyp6 => (intro w hSw; (try dsimp only at hSw); go_simp; try with_reducible rfl)
          try simp only [List.getElem_toArray, List.getElem_cons_succ, List.getElem_cons_zero, Act.put, List.setIfInBounds_toArray, List.set_cons_zero, List.set_cons_succ]
          refine wpAnyH_take (i := 6) (v := ?vp7) rfl (by kernel_rfl) (by kernel_rfl) (by kernel_rfl) (fun _ _ _ h => h) (Or.inl ⟨by rfl, ?hyp7⟩) (by assumption) ?restp7
          case hyp7 => (intro w hSw; (try dsimp only at hSw); go_simp; try with_reducible rfl)
          try simp only [List.getElem_toArray, List.getElem_cons_succ, List.getElem_cons_zero, Act.put, List.setIfInBounds_toArray, List.set_cons_zero, List.set_cons_succ]
          refine wpAnyH_take (i := 7) (v := ?vp8) rfl (by kernel_rfl) (by kernel_rfl) (by kernel_rfl) (fun _ _ _ h => h) (Or.inl ⟨by rfl, ?hyp8⟩) (by assumption) ?restp8
          case hyp8 => (intro w hSw; (try dsimp only at hSw); go_simp; try with_reducible rfl)
          try simp only [List.getElem_toArray, List.getElem_cons_succ, List.getElem_cons_zero, Act.put, List.setIfInBounds_toArray, List.set_cons_zero, List.set_cons_succ]
          refine wpAnyH_take (i := 8) (v := ?vp9) rfl (by kernel_rfl) (by kernel_rfl) (by kernel_rfl) (fun _ _ _ h => h) (Or.inl ⟨by rfl, ?hyp9⟩) (by assumption) ?restp9
          case hyp9 => (intro w hSw; (try dsimp only at hSw); go_simp; try with_reducible rfl)
          try simp only [List.getElem_toArray, List.getElem_cons_succ, List.getElem_cons_zero, Act.put, List.setIfInBounds_toArray, List.set_cons_zero, List.set_cons_succ]
          refine wpAnyH_take (i := 9) (v := ?vp10) rfl (by kernel_rfl) (by kernel_rfl) (by kernel_rfl) (fun _ _ _ h => h) (Or.inl ⟨by rfl, ?hyp10⟩) (by assumption) ?restp10
          case hyp10 => (intro w hSw; (try dsimp only at hSw); go_simp; try with_reducible rfl)
          try simp only [List.getElem_toArray, List.getElem_cons_succ, List.getElem_cons_zero, Act.put, List.setIfInBounds_toArray, List.set_cons_zero, List.set_cons_succ]
          refine wpAnyH_ready (rs := [10]) (by kernel_rfl) (by simp) ?_
          refine AllReadyH.cons rfl (fun K hK => ?_) AllReadyH.nil
          go_simp
          (go_at_call 69; refine HCM.out.mono ?_; rintro _ wc2 ⟨rfl, bc2⟩)
          have HB2 := Go.Lib.hid (HSW.out.trans bc2)
          clear bc2
          refine hK.out _ _ ?_ (fun hHeld => ?_)
          · exact ⟨(HB2.out.cell (p := ⟨w.heap.size, 0, none⟩) (cell_in hc0)).trans hc0, (HB2.out.cell (p := ⟨w.heap.size, 1, none⟩) (cell_in hc1)).trans hc1, (HB2.out.cell (p := ⟨w.heap.size, 2, none⟩) (cell_in hc2)).trans hc2, (HB2.out.cell (p := ⟨gl, k - 1, none⟩) (cell_in hra)).trans hra, (HB2.out.cell (p := ⟨gl, k, none⟩) (cell_in hrb)).trans hrb⟩
          clear hK K
          try simp only [List.getElem_toArray, List.getElem_cons_succ, List.getElem_cons_zero, Act.put, List.setIfInBounds_toArray, List.set_cons_zero, List.set_cons_succ]
          refine wpAnyH_take (i := 11) (v := ?vp11) rfl (by kernel_rfl) (by kernel_rfl) (by kernel_rfl) (fun _ _ _ h => h) (Or.inl ⟨by rfl, ?hyp11⟩) (by assumption) ?restp11
          case hyp11 => (intro w hSw; (try dsimp only at hSw); go_simp; try with_reducible rfl)
          try simp only [List.getElem_toArray, List.getElem_cons_succ, List.getElem_cons_zero, Act.put, List.setIfInBounds_toArray, List.set_cons_zero, List.set_cons_succ]
          refine wpAnyH_done (by kernel_rfl) ?_ _
          have hrb2 : wc2.cell? ⟨gl, k, none⟩ = some (.slice E 2 ee) := (HB2.out.cell (p := ⟨gl, k, none⟩) (cell_in hrb)).trans hrb
          have HG2 := Go.Lib.hid (HGT.out.below HB2.out)
          obtain ⟨us, hrow, hzz⟩ := HG2.out.us
          have HZZ := Go.Lib.hid hzz
          have HBS := Go.Lib.hid HG2.out.b.size
          have HRW := Go.Lib.hid hrow
          rw [HLZ2.out] at hrow
          clear hc0 hc1 hc2 hra hrb hzz
          go_wp2_with (at_builtin; refine wpList_append_own_at _ rfl _ _ 31 rfl w3.heap.size 24 i0 (.slice none 0 0) 1 24 Try.underlying31 hi hz0 hz1 hz2 rfl (by decide) _ _ _ rfl (hrow.alloc _) ⟨wc2.heap.size, 0, none⟩ 1 1 [.slice E 2 ee] rfl rfl (cell_one_new _ _ _) (by simp [Value.oneCell']) (by unfold maxLen; omega) (by omega) (by have := HBS.out; simp; omega) ?_; intro v' w5 hown' hgrow hnil hat; clear hnil hat)
          rw [← HLZ2.out] at hown'
          have HNZ := Go.Lib.hid (GatZ.step HRW.out HZZ.out HG2.out.b HLB.out rfl hown' hgrow)
          clear hown' hgrow hrow
          go_wp2_with fail
          go_roundw
          case rel => exact ⟨k + 1, by omega, by omega, by go_num, by rw [Nat.add_sub_cancel, HSP.out]; exact HNZ.out⟩
          case measure => simp [intOf]; omega
        case neg =>
          have HSN := Go.Lib.hid (show equalTo x L k = equalTo x L (k - 1) by rw [HSU.out, if_neg (fun h => hcv (HCZ.out.2 h))])
          have hcb : (cv == 0) = false := by simpa using hcv
          go_upto_region 8 with fail
          refine wp_region_held_drew (S := fun w' => w'.cell? ⟨w.heap.size, 0, none⟩ = some (.slice A x.f.length c) ∧ w'.cell? ⟨w.heap.size, 1, none⟩ = some (.slice B x.r.length d) ∧ w'.cell? ⟨w.heap.size, 2, none⟩ = some (.int .i64 x.n) ∧ w'.cell? ⟨gl, k - 1, none⟩ = some (.slice D 2 dd) ∧ w'.cell? ⟨gl, k, none⟩ = some (.slice E 2 ee)) (by kernel_rfl) (by exact ⟨hc0, hc1, hc2, hra, hrb⟩) (fun hHeld => ?_)
          refine wpAnyH_take (i := 0) (v := ?vn1) rfl (by kernel_rfl) (by kernel_rfl) (by kernel_rfl) (fun _ _ _ h => h) (Or.inl ⟨by rfl, ?hyn1⟩) (by assumption) ?restn1
          case hyn1 => (intro w hSw; (try dsimp only at hSw); go_simp; try with_reducible rfl)
          try simp only [List.getElem_toArray, List.getElem_cons_succ, List.getElem_cons_zero, Act.put, List.setIfInBounds_toArray, List.set_cons_zero, List.set_cons_succ]
          refine wpAnyH_take (i := 1) (v := ?vn2) rfl (by kernel_rfl) (by kernel_rfl) (by kernel_rfl) (fun _ _ _ h => h) (Or.inl ⟨by rfl, ?hyn2⟩) (by assumption) ?restn2
          case hyn2 => (intro w hSw; (try dsimp only at hSw); go_simp; try with_reducible rfl)
          try simp only [List.getElem_toArray, List.getElem_cons_succ, List.getElem_cons_zero, Act.put, List.setIfInBounds_toArray, List.set_cons_zero, List.set_cons_succ]
          refine wpAnyH_take (i := 2) (v := ?vn3) rfl (by kernel_rfl) (by kernel_rfl) (by kernel_rfl) (fun _ _ _ h => h) (Or.inl ⟨by rfl, ?hyn3⟩) (by assumption) ?restn3
          case hyn3 => (intro w hSw; (try dsimp only at hSw); go_simp; try with_reducible rfl)
          try simp only [List.getElem_toArray, List.getElem_cons_succ, List.getElem_cons_zero, Act.put, List.setIfInBounds_toArray, List.set_cons_zero, List.set_cons_succ]
          refine wpAnyH_take (i := 3) (v := ?vn4) rfl (by kernel_rfl) (by kernel_rfl) (by kernel_rfl) (fun _ _ _ h => h) (Or.inl ⟨by rfl, ?hyn4⟩) (by assumption) ?restn4
          case hyn4 => (intro w hSw; (try dsimp only at hSw); go_simp; try with_reducible rfl)
          try simp only [List.getElem_toArray, List.getElem_cons_succ, List.getElem_cons_zero, Act.put, List.setIfInBounds_toArray, List.set_cons_zero, List.set_cons_succ]
          refine wpAnyH_take (i := 4) (v := ?vn5) rfl (by kernel_rfl) (by kernel_rfl) (by kernel_rfl) (fun _ _ _ h => h) (Or.inl ⟨by rfl, ?hyn5⟩) (by assumption) ?restn5
          case hyn5 => (intro w hSw; (try dsimp only at hSw); go_simp; try with_reducible rfl)
          try simp only [List.getElem_toArray, List.getElem_cons_succ, List.getElem_cons_zero, Act.put, List.setIfInBounds_toArray, List.set_cons_zero, List.set_cons_succ]
          refine wpAnyH_take (i := 5) (v := ?vn6) rfl (by kernel_rfl) (by kernel_rfl) (by kernel_rfl) (fun _ _ _ h => h) (Or.inl ⟨by rfl, ?hyn6⟩) (by assumption) ?restn6
          case hyn6 => (intro w hSw; (try dsimp only at hSw); go_simp; try with_reducible rfl)
          try simp only [List.getElem_toArray, List.getElem_cons_succ, List.getElem_cons_zero, Act.put, List.setIfInBounds_toArray, List.set_cons_zero, List.set_cons_succ]
          refine wpAnyH_take (i := 6) (v := ?vn7) rfl (by kernel_rfl) (by kernel_rfl) (by kernel_rfl) (fun _ _ _ h => h) (Or.inl ⟨by rfl, ?hyn7⟩) (by assumption) ?restn7
          case hyn7 => (intro w hSw; (try dsimp only at hSw); go_simp; try with_reducible rfl)
          try simp only [List.getElem_toArray, List.getElem_cons_succ, List.getElem_cons_zero, Act.put, List.setIfInBounds_toArray, List.set_cons_zero, List.set_cons_succ]
          refine wpAnyH_take (i := 7) (v := ?vn8) rfl (by kernel_rfl) (by kernel_rfl) (by kernel_rfl) (fun _ _ _ h => h) (Or.inl ⟨by rfl, ?hyn8⟩) (by assumption) ?restn8
          case hyn8 => (intro w hSw; (try dsimp only at hSw); go_simp; try with_reducible rfl)
          try simp only [List.getElem_toArray, List.getElem_cons_succ, List.getElem_cons_zero, Act.put, List.setIfInBounds_toArray, List.set_cons_zero, List.set_cons_succ]
          refine wpAnyH_take (i := 8) (v := ?vn9) rfl (by kernel_rfl) (by kernel_rfl) (by kernel_rfl) (fun _ _ _ h => h) (Or.inl ⟨by rfl, ?hyn9⟩) (by assumption) ?restn9
          case hyn9 => (intro w hSw; (try dsimp only at hSw); go_simp; try with_reducible rfl)
          try simp only [List.getElem_toArray, List.getElem_cons_succ, List.getElem_cons_zero, Act.put, List.setIfInBounds_toArray, List.set_cons_zero, List.set_cons_succ]
          refine wpAnyH_take (i := 9) (v := ?vn10) rfl (by kernel_rfl) (by kernel_rfl) (by kernel_rfl) (fun _ _ _ h => h) (Or.inl ⟨by rfl, ?hyn10⟩) (by assumption) ?restn10
          case hyn10 => (intro w hSw; (try dsimp only at hSw); go_simp; try with_reducible rfl)
          try simp only [List.getElem_toArray, List.getElem_cons_succ, List.getElem_cons_zero, Act.put, List.setIfInBounds_toArray, List.set_cons_zero, List.set_cons_succ]
          refine wpAnyH_ready (rs := [10]) (by kernel_rfl) (by simp) ?_
          refine AllReadyH.cons rfl (fun K hK => ?_) AllReadyH.nil
          go_simp
          (go_at_call 69; refine HCM.out.mono ?_; rintro _ wc2 ⟨rfl, bc2⟩)
          have HB2 := Go.Lib.hid (HSW.out.trans bc2)
          clear bc2
          refine hK.out _ _ ?_ (fun hHeld => ?_)
          · exact ⟨(HB2.out.cell (p := ⟨w.heap.size, 0, none⟩) (cell_in hc0)).trans hc0, (HB2.out.cell (p := ⟨w.heap.size, 1, none⟩) (cell_in hc1)).trans hc1, (HB2.out.cell (p := ⟨w.heap.size, 2, none⟩) (cell_in hc2)).trans hc2, (HB2.out.cell (p := ⟨gl, k - 1, none⟩) (cell_in hra)).trans hra, (HB2.out.cell (p := ⟨gl, k, none⟩) (cell_in hrb)).trans hrb⟩
          clear hK K
          try simp only [List.getElem_toArray, List.getElem_cons_succ, List.getElem_cons_zero, Act.put, List.setIfInBounds_toArray, List.set_cons_zero, List.set_cons_succ]
          refine wpAnyH_take (i := 11) (v := ?vn11) rfl (by kernel_rfl) (by kernel_rfl) (by kernel_rfl) (fun _ _ _ h => h) (Or.inl ⟨by rfl, ?hyn11⟩) (by assumption) ?restn11
          case hyn11 => (intro w hSw; (try dsimp only at hSw); go_simp; try with_reducible rfl)
          try simp only [List.getElem_toArray, List.getElem_cons_succ, List.getElem_cons_zero, Act.put, List.setIfInBounds_toArray, List.set_cons_zero, List.set_cons_succ]
          refine wpAnyH_done (by kernel_rfl) ?_ _
          have HG2 := Go.Lib.hid (HGT.out.below HB2.out)
          clear hc0 hc1 hc2 hra hrb
          go_wp2_with fail
          go_roundw
          case rel => exact ⟨k + 1, by omega, by omega, by go_num, by rw [Nat.add_sub_cancel, HSN.out]; exact HG2.out⟩
          case measure => simp [intOf]; omega
end Go.Proofs.Ytifblmcocikopaa
