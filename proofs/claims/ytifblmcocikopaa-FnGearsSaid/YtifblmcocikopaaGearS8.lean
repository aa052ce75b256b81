/- The model: the gear nearest to a development. -/
import Derived.Test.YtifblmcocikopaaGearS5
import Derived.Test.YtifblmcocikopaaNum
namespace Go.Proofs.Ytifblmcocikopaa
open Go.RowKit
set_option linter.unusedSimpArgs false
set_option linter.unusedVariables false

theorem nearTo_ok {x : Trn} {d : Int} {gs : List Gr} (h : ∀ i, i < gs.length → GOk x (gs.getD i (0, 0))) (h1 : 1 ≤ gs.length) : ∀ k, k ≤ gs.length → GOk x (nearTo x d gs k)
  | 0, _ => h 0 (by omega)
  | k + 1, hk => by
    unfold nearTo
    split
    · exact h k (by omega)
    · exact nearTo_ok h h1 k (by omega)
theorem nearTo_hit {x : Trn} {d : Int} {gs : List Gr} {k : Nat} (h : farI x d (gs.getD k (0, 0)) < farI x d (nearTo x d gs k)) : nearTo x d gs (k + 1) = gs.getD k (0, 0) := by rw [nearTo, if_pos h]
theorem nearTo_miss {x : Trn} {d : Int} {gs : List Gr} {k : Nat} (h : ¬ farI x d (gs.getD k (0, 0)) < farI x d (nearTo x d gs k)) : nearTo x d gs (k + 1) = nearTo x d gs k := by rw [nearTo, if_neg h]
set_option maxRecDepth 100000 in
set_option maxHeartbeats 16000000 in
theorem specNearest9 (x : Trn) (A : Option Addr) (c : Nat) (B : Option Addr) (d : Nat) (dv : Int) (w : World) (T : TrL x A c B d w) :
    Calls Try.prog 18 #[trainV x A c B d, .int .i64 dv] w (IsV w (.tuple #[.int .i64 (nearR x dv).1, .int .i64 (nearR x dv).2.1, .int .i64 (nearR x dv).2.2])) := by
  have HT := Go.Lib.hid T
  have HX := Go.Lib.hid (boxT_box x A c B d w)
  have HXB := Go.Lib.hid (boxT_below x A c B d w)
  clear T
  have H1 := Go.Lib.hid (fun w0 T0 => specTrain x A c B d w0 T0)
  have HI := Go.Lib.hid (fun w0 => inN2 dv 0 20000 w0)
  have HIB := Go.Lib.hid (show inB dv 0 20000 = (decide (0 ≤ dv) && decide (dv ≤ 20000)) from rfl)
  by_cases ht : trainB x = true
  case neg =>
    have HV := Go.Lib.hid (show nearR x dv = (0, 0, 1) by unfold nearR; rw [if_neg ht])
    rw [Bool.not_eq_true] at ht
    rw [ht] at H1
    clear ht HI HIB
    unfold trainV at *
    go_enter Try.func18, Try.ntmps18
    go_upto_region 1 with fail
    refine wp_gen (R := fun W => Box W w.heap.size (trainC x A c B d) ∧ Below w.heap.size w W) ⟨HX.out, HXB.out⟩ ?_
    rintro W ⟨hx, hb⟩
    have HX1 := Go.Lib.hid hx
    have HB1 := Go.Lib.hid hb
    have HT1 := Go.Lib.hid (HT.out.below hb)
    clear hx hb HX HXB
    have hc0 : W.cell? ⟨w.heap.size, 0, none⟩ = some (.slice A x.f.length c) := HX1.out.at_ 0 _ rfl
    have hc1 : W.cell? ⟨w.heap.size, 1, none⟩ = some (.slice B x.r.length d) := HX1.out.at_ 1 _ rfl
    have hc2 : W.cell? ⟨w.heap.size, 2, none⟩ = some (.int .i64 x.n) := HX1.out.at_ 2 _ rfl
    go_wp2_with fail
    refine (H1.out _ HT1.out).mono ?_
    rintro _ w2 ⟨rfl, b2⟩
    have HX2 := Go.Lib.hid (HX1.out.below b2)
    have HB2 := Go.Lib.hid (upB HB1.out b2)
    have HT2 := Go.Lib.hid (HT1.out.below b2)
    clear b2
    go_wp2_with fail
    go_ret3
    exact ⟨by rw [HV.out]; rfl, HB2.out⟩
  case pos =>
  by_cases hin : inB dv 0 20000 = true
  case neg =>
    have HV := Go.Lib.hid (show nearR x dv = (0, 0, 2) by unfold nearR; rw [if_pos ht, if_neg (by rw [← HIB.out]; exact hin)])
    rw [Bool.not_eq_true] at hin
    rw [ht] at H1
    rw [hin] at HI
    clear ht hin HIB
    unfold trainV at *
    go_enter Try.func18, Try.ntmps18
    go_upto_region 1 with fail
    refine wp_gen (R := fun W => Box W w.heap.size (trainC x A c B d) ∧ Below w.heap.size w W) ⟨HX.out, HXB.out⟩ ?_
    rintro W ⟨hx, hb⟩
    have HX1 := Go.Lib.hid hx
    have HB1 := Go.Lib.hid hb
    have HT1 := Go.Lib.hid (HT.out.below hb)
    clear hx hb HX HXB
    have hc0 : W.cell? ⟨w.heap.size, 0, none⟩ = some (.slice A x.f.length c) := HX1.out.at_ 0 _ rfl
    have hc1 : W.cell? ⟨w.heap.size, 1, none⟩ = some (.slice B x.r.length d) := HX1.out.at_ 1 _ rfl
    have hc2 : W.cell? ⟨w.heap.size, 2, none⟩ = some (.int .i64 x.n) := HX1.out.at_ 2 _ rfl
    go_wp2_with fail
    refine (H1.out _ HT1.out).mono ?_
    rintro _ w2 ⟨rfl, b2⟩
    have HX2 := Go.Lib.hid (HX1.out.below b2)
    have HB2 := Go.Lib.hid (upB HB1.out b2)
    have HT2 := Go.Lib.hid (HT1.out.below b2)
    clear b2
    go_wp2_with fail
    refine (HI.out _).mono ?_
    rintro _ _ ⟨rfl, rfl⟩
    go_wp2_with fail
    go_ret3
    exact ⟨by rw [HV.out]; rfl, HB2.out⟩
  case pos =>
    have hib : 0 ≤ dv ∧ dv ≤ 20000 := by simpa [HIB.out] using hin
    have HV := Go.Lib.hid (show nearR x dv = (((nearTo x dv (ordI x) (ordI x).length).1 : Int), ((nearTo x dv (ordI x) (ordI x).length).2 : Int), (0 : Int)) by unfold nearR; rw [if_pos ht, if_pos (by rw [← HIB.out]; exact hin)]; rfl)
    have HDV := Go.Lib.hid (fun g D e w0 T0 hg R => specDevG x A c B d g D e w0 T0 (trainB_ok ht) hg R)
    rw [hin] at HI
    clear hin HIB
    have HD := Go.Lib.hid (fun w0 T0 => specOrder x A c B d w0 T0 (trainB_ok ht))
    have HTr := Go.Lib.hid (trainB_ok ht)
    rw [ht] at H1
    clear ht
    have hTr := HTr.out
    have hn1 : 1 ≤ (ordI x).length := by rw [ordI_len]; exact Nat.mul_pos hTr.f.one hTr.r.one
    have hn36 : (ordI x).length ≤ 36 := by
      rw [ordI_len]
      have h1 := hTr.f.few
      have h2 := hTr.r.few
      exact Nat.le_trans (Nat.mul_le_mul (by omega : x.f.length ≤ 3) (by omega : x.r.length ≤ 12)) (by decide)
    have HOK := Go.Lib.hid (fun i (hi : i < (ordI x).length) => ordTo_ok (x := x) (k := x.f.length * x.r.length) (Nat.le_refl _) (mem_getD (gs := ordI x) (i := i) hi))
    have HRA := Go.Lib.hid (fun i (hi : i < (ordI x).length) => rowsG_at (gs := ordI x) (i := i) hi)
    have HLE := Go.Lib.hid (rowsG_len (ordI x))
    clear hTr
    generalize ordI x = L at *
    rw [HLE.out] at HD

    unfold trainV at *
    go_enter Try.func18, Try.ntmps18
    go_upto_region 1 with fail
    refine wp_gen (R := fun W => Box W w.heap.size (trainC x A c B d) ∧ Below w.heap.size w W) ⟨HX.out, HXB.out⟩ ?_
    rintro W ⟨hx, hb⟩
    have HX1 := Go.Lib.hid hx
    have HB1 := Go.Lib.hid hb
    have HT1 := Go.Lib.hid (HT.out.below hb)
    clear hx hb HX HXB
    have hc0 : W.cell? ⟨w.heap.size, 0, none⟩ = some (.slice A x.f.length c) := HX1.out.at_ 0 _ rfl
    have hc1 : W.cell? ⟨w.heap.size, 1, none⟩ = some (.slice B x.r.length d) := HX1.out.at_ 1 _ rfl
    have hc2 : W.cell? ⟨w.heap.size, 2, none⟩ = some (.int .i64 x.n) := HX1.out.at_ 2 _ rfl
    go_wp2_with fail
    refine (H1.out _ HT1.out).mono ?_
    rintro _ w2 ⟨rfl, b2⟩
    have HX2 := Go.Lib.hid (HX1.out.below b2)
    have HB2 := Go.Lib.hid (upB HB1.out b2)
    have HT2 := Go.Lib.hid (HT1.out.below b2)
    clear b2
    clear hc0 hc1 hc2
    have hc0 : w2.cell? ⟨w.heap.size, 0, none⟩ = some (.slice A x.f.length c) := HX2.out.at_ 0 _ rfl
    have hc1 : w2.cell? ⟨w.heap.size, 1, none⟩ = some (.slice B x.r.length d) := HX2.out.at_ 1 _ rfl
    have hc2 : w2.cell? ⟨w.heap.size, 2, none⟩ = some (.int .i64 x.n) := HX2.out.at_ 2 _ rfl
    go_wp2_with fail
    refine (HI.out _).mono ?_
    rintro _ _ ⟨rfl, rfl⟩
    go_wp2_with fail
    refine (HD.out _ HT2.out).mono ?_
    rintro _ w3 ⟨gl, capl, rfl, oz, b3⟩
    have HLZ := Go.Lib.hid (oz.ls (by rw [HLE.out]; omega))
    have HB3 := Go.Lib.hid (upB HB2.out b3)
    have HX3 := Go.Lib.hid (HX2.out.below b3)
    have HT3 := Go.Lib.hid (HT2.out.below b3)
    clear oz b3 hc0 hc1 hc2
    have HLC := Go.Lib.hid HLZ.out.le
    have hl0 : (0 : Int) < L.length := by omega
    have hl0c : (0 : Int) < capl := by have := HLC.out; rw [HLE.out] at this; omega
    obtain ⟨eb, eo, D0, d0, e, -, hrow0, hlr0⟩ := HLZ.out.at_ (k := 0) (by rw [HLE.out]; omega)
    cases e
    rw [HRA.out 0 (by omega)] at hrow0 hlr0
    have hr00 : w3.cell? ⟨gl, 0, none⟩ = some (.slice D0 2 d0) := hrow0
    have HL0 := Go.Lib.hid (show Ls (rowG (nearTo x dv L 0)) D0 d0 w3 from hlr0)
    clear hrow0 hlr0
    go_wp2_with fail
    clear hr00
    go_loopw [8, 9] (fun v u wr => ∃ (k : Nat), k ≤ L.length ∧ u = .int .i64 k ∧ (∃ E ee, v = .slice E 2 ee ∧ Ls (rowG (nearTo x dv L k)) E ee w3) ∧ Below w3.heap.size w3 wr) (fun _ u _ => L.length - (intOf u).toNat)
    case atStart => exact ⟨0, Nat.zero_le _, rfl, ⟨D0, d0, rfl, HL0.out⟩, Below.refl _ _⟩
    case round =>
      obtain ⟨k, hk, rfl, ⟨E, ee, rfl, hlb⟩, hbq⟩ := hrel
      have HLB := Go.Lib.hid hlb
      have HBQ := Go.Lib.hid hbq
      have HNO := Go.Lib.hid (nearTo_ok (d := dv) HOK.out hn1 k hk)
      clear hlb HL0
      by_cases hlt : k < L.length
      case neg =>
        obtain rfl : k = L.length := by omega
        have HRq := Go.Lib.hid (HLB.out.below hbq)
        have HB4 := Go.Lib.hid (upB HB3.out hbq)
        generalize nearTo x dv L L.length = b at *
        obtain ⟨qb, qo, rfl, -, qc⟩ := HRq.out.at_ (k := 0) (by simp [rowG])
        have q0 : wr.cell? ⟨qb, qo, none⟩ = some (.int .i64 b.1) := qc 0 (by simp [rowG])
        have q1 : wr.cell? ⟨qb, qo + 1, none⟩ = some (.int .i64 b.2) := qc 1 (by simp [rowG])
        clear qc hbq
        go_upto_region 12 with fail
        go_quiet (fail)
        go_wp2_with fail
        go_ret3
        exact ⟨by rw [HV.out]; rfl, below_drewN HB4.out _⟩
      case pos =>
        obtain ⟨eb, eo, D, dd, e, -, hrow0, hlr0⟩ := HLZ.out.at_ (k := k) (by rw [HLE.out]; omega)
        cases e
        rw [HRA.out k hlt] at hrow0 hlr0
        rw [Nat.zero_add] at hrow0
        have hra : wr.cell? ⟨gl, k, none⟩ = some (.slice D 2 dd) := (hbq.cell (p := ⟨gl, k, none⟩) (cell_in hrow0)).trans hrow0
        have HLA := Go.Lib.hid hlr0
        have HXQ := Go.Lib.hid (HX3.out.below hbq)
        have hc0 : wr.cell? ⟨w.heap.size, 0, none⟩ = some (.slice A x.f.length c) := HXQ.out.at_ 0 _ rfl
        have hc1 : wr.cell? ⟨w.heap.size, 1, none⟩ = some (.slice B x.r.length d) := HXQ.out.at_ 1 _ rfl
        have hc2 : wr.cell? ⟨w.heap.size, 2, none⟩ = some (.int .i64 x.n) := HXQ.out.at_ 2 _ rfl
        have HSW := Go.Lib.hid (show Below wr.heap.size wr (wr.drewN 1) from below_drewN (Below.refl _ _) 1)
        have HUPW := Go.Lib.hid (fun w0 (b : Below wr.heap.size wr w0) => hbq.trans (b.mono hbq.size))
        have HDA := Go.Lib.hid (fun w0 (b : Below wr.heap.size wr w0) => HDV.out (L.getD k (0, 0)) D dd w0 (HT3.out.below (HUPW.out w0 b)) (HOK.out _ hlt) (hlr0.below (HUPW.out w0 b)))
        have HDB := Go.Lib.hid (fun w0 (b : Below wr.heap.size wr w0) => HDV.out (nearTo x dv L k) E ee w0 (HT3.out.below (HUPW.out w0 b)) HNO.out (HLB.out.below (HUPW.out w0 b)))
        have da := devI_bd HTr.out (HOK.out _ hlt)
        have db := devI_bd HTr.out HNO.out
        have HH1 := Go.Lib.hid (nearTo_hit (x := x) (d := dv) (gs := L) (k := k))
        have HH2 := Go.Lib.hid (nearTo_miss (x := x) (d := dv) (gs := L) (k := k))
        unfold farI at HH1 HH2
        have hki : (k : Int) < L.length := by omega
        have hkj : (k : Int) < capl := by have := HLC.out; rw [HLE.out] at this; omega
        have hk4 : (0 : Int) ≤ (k : Int) := by omega
        clear hrow0 hlr0 hbq
        generalize devI x (L.getD k (0, 0)) = va at *
        generalize devI x (nearTo x dv L k) = vb at *
        have ew1 : IntKind.i64.wrap (va - dv) = va - dv := IntWalk.i64_in _ (by omega)
        have ew2 : IntKind.i64.wrap (vb - dv) = vb - dv := IntWalk.i64_in _ (by omega)
        have HAA := Go.Lib.hid (fun w0 => specAbs (va - dv) w0 (by omega) (by omega))
        have HAB := Go.Lib.hid (fun w0 => specAbs (vb - dv) w0 (by omega) (by omega))
        generalize max (va - dv) (-(va - dv)) = fa at *
        generalize max (vb - dv) (-(vb - dv)) = fb at *
        by_cases hfar : fa < fb
        case pos =>
          have HH := Go.Lib.hid (HH1.out hfar)
          have hfd : decide (fa < fb) = true := decide_eq_true hfar
          go_upto_region 10 with fail
          refine wp_region_held_drew (S := fun w' => w'.cell? ⟨w.heap.size, 0, none⟩ = some (.slice A x.f.length c) ∧ w'.cell? ⟨w.heap.size, 1, none⟩ = some (.slice B x.r.length d) ∧ w'.cell? ⟨w.heap.size, 2, none⟩ = some (.int .i64 x.n) ∧ w'.cell? ⟨gl, k, none⟩ = some (.slice D 2 dd)) (by kernel_rfl) (by exact ⟨hc0, hc1, hc2, hra⟩) (fun hHeld => ?_)
          refine wpAnyH_take (i := 0) (v := ?vp1) rfl (by kernel_rfl) (by kernel_rfl) (by kernel_rfl) (fun _ _ _ h => h) (Or.inl ⟨by rfl, ?hyp1⟩) (by assumption) ?restp1
          case hyp1 => (intro w hSw; (try dsimp only at hSw); go_simp; try with_reducible rfl)
          try simp only [List.getElem_toArray, List.getElem_cons_succ, List.getElem_cons_zero, Act.put, List.setIfInBounds_toArray, List.set_cons_zero, List.set_cons_succ]
          refine wpAnyH_take (i := 1) (v := ?vp2) rfl (by kernel_rfl) (by kernel_rfl) (by kernel_rfl) (fun _ _ _ h => h) (Or.inl ⟨by rfl, ?hyp2⟩) (by assumption) ?restp2
          case hyp2 => (intro w hSw; (try dsimp only at hSw); go_simp; try with_reducible rfl)
          try simp only [List.getElem_toArray, List.getElem_cons_succ, List.getElem_cons_zero, Act.put, List.setIfInBounds_toArray, List.set_cons_zero, List.set_cons_succ]
          refine wpAnyH_take (i := 2) (v := ?vp3) rfl (by kernel_rfl) (by kernel_rfl) (by kernel_rfl) (fun _ _ _ h => h) (Or.inl ⟨by rfl, ?hyp3⟩) (by assumption) ?restp3
          case hyp3 => (intro w hSw; (try dsimp only at hSw); go_simp; try with_reducible rfl)
          try simp only [List.getElem_toArray, List.getElem_cons_succ, List.getElem_cons_zero, Act.put, List.setIfInBounds_toArray, List.set_cons_zero, List.set_cons_succ]
          refine wpAnyH_take (i := 3) (v := ?vp4) rfl (by kernel_rfl) (by kernel_rfl) (by kernel_rfl) (fun _ _ _ h => h) (Or.inl ⟨by rfl, ?hyp4⟩) (by assumption) ?restp4
          case hyp4 => (intro w hSw; (try dsimp only at hSw); go_simp; try with_reducible rfl)
          try simp only [List.getElem_toArray, List.getElem_cons_succ, List.getElem_cons_zero, Act.put, List.setIfInBounds_toArray, List.set_cons_zero, List.set_cons_succ]
          refine wpAnyH_take (i := 4) (v := ?vp5) rfl (by kernel_rfl) (by kernel_rfl) (by kernel_rfl) (fun _ _ _ h => h) (Or.inl ⟨by rfl, ?hyp5⟩) (by assumption) ?restp5
          case hyp5 => (intro w hSw; (try dsimp only at hSw); go_simp; try with_reducible rfl)
          try simp only [List.getElem_toArray, List.getElem_cons_succ, List.getElem_cons_zero, Act.put, List.setIfInBounds_toArray, List.set_cons_zero, List.set_cons_succ]
          refine wpAnyH_take (i := 6) (v := ?vp6) rfl (by kernel_rfl) (by kernel_rfl) (by kernel_rfl) (fun _ _ _ h => h) (Or.inl ⟨by rfl, ?hyp6⟩) (by assumption) ?restp6
          case hyp6 => (intro w hSw; (try dsimp only at hSw); go_simp; try with_reducible rfl)
          try simp only [List.getElem_toArray, List.getElem_cons_succ, List.getElem_cons_zero, Act.put, List.setIfInBounds_toArray, List.set_cons_zero, List.set_cons_succ]
          refine wpAnyH_take (i := 9) (v := ?vp7) rfl (by kernel_rfl) (by kernel_rfl) (by kernel_rfl) (fun _ _ _ h => h) (Or.inl ⟨by rfl, ?hyp7⟩) (by assumption) ?restp7
          case hyp7 => (intro w hSw; (try dsimp only at hSw); go_simp; try with_reducible rfl)
          try simp only [List.getElem_toArray, List.getElem_cons_succ, List.getElem_cons_zero, Act.put, List.setIfInBounds_toArray, List.set_cons_zero, List.set_cons_succ]
          refine wpAnyH_take (i := 10) (v := ?vp8) rfl (by kernel_rfl) (by kernel_rfl) (by kernel_rfl) (fun _ _ _ h => h) (Or.inl ⟨by rfl, ?hyp8⟩) (by assumption) ?restp8
          case hyp8 => (intro w hSw; (try dsimp only at hSw); go_simp; try with_reducible rfl)
          try simp only [List.getElem_toArray, List.getElem_cons_succ, List.getElem_cons_zero, Act.put, List.setIfInBounds_toArray, List.set_cons_zero, List.set_cons_succ]
          refine wpAnyH_take (i := 12) (v := ?vp9) rfl (by kernel_rfl) (by kernel_rfl) (by kernel_rfl) (fun _ _ _ h => h) (Or.inl ⟨by rfl, ?hyp9⟩) (by assumption) ?restp9
          case hyp9 => (intro w hSw; (try dsimp only at hSw); go_simp; try with_reducible rfl)
          try simp only [List.getElem_toArray, List.getElem_cons_succ, List.getElem_cons_zero, Act.put, List.setIfInBounds_toArray, List.set_cons_zero, List.set_cons_succ]
          refine wpAnyH_ready (rs := [5]) (by kernel_rfl) (by simp) ?_
          refine AllReadyH.cons rfl (fun K hK => ?_) AllReadyH.nil
          go_simp
          (go_at_call 62; refine (HDA.out _ HSW.out).mono ?_; rintro _ wc1 ⟨rfl, bc⟩)
          have Bwc1 := Go.Lib.hid (HSW.out.trans (bc.mono HSW.out.size))
          clear bc
          refine hK.out _ _ ?_ (fun hHeld => ?_)
          · exact ⟨(Bwc1.out.cell (p := ⟨w.heap.size, 0, none⟩) (cell_in hc0)).trans hc0, (Bwc1.out.cell (p := ⟨w.heap.size, 1, none⟩) (cell_in hc1)).trans hc1, (Bwc1.out.cell (p := ⟨w.heap.size, 2, none⟩) (cell_in hc2)).trans hc2, (Bwc1.out.cell (p := ⟨gl, k, none⟩) (cell_in hra)).trans hra⟩
          clear hK K
          try simp only [List.getElem_toArray, List.getElem_cons_succ, List.getElem_cons_zero, Act.put, List.setIfInBounds_toArray, List.set_cons_zero, List.set_cons_succ]
          refine wpAnyH_take (i := 7) (v := ?vp10) rfl (by kernel_rfl) (by kernel_rfl) (by kernel_rfl) (fun _ _ _ h => h) (Or.inl ⟨by rfl, ?hyp10⟩) (by assumption) ?restp10
          case hyp10 => (intro w hSw; (try dsimp only at hSw); go_simp; try with_reducible rfl)
          try simp only [List.getElem_toArray, List.getElem_cons_succ, List.getElem_cons_zero, Act.put, List.setIfInBounds_toArray, List.set_cons_zero, List.set_cons_succ]
          refine wpAnyH_ready (rs := [8]) (by kernel_rfl) (by simp) ?_
          refine AllReadyH.cons rfl (fun K hK => ?_) AllReadyH.nil
          go_simp
          (go_at_call 61; refine (HAA.out _).mono ?_; rintro _ _ ⟨rfl, rfl⟩)
          refine hK.out _ _ ?_ (fun hHeld => ?_)
          · exact ⟨(Bwc1.out.cell (p := ⟨w.heap.size, 0, none⟩) (cell_in hc0)).trans hc0, (Bwc1.out.cell (p := ⟨w.heap.size, 1, none⟩) (cell_in hc1)).trans hc1, (Bwc1.out.cell (p := ⟨w.heap.size, 2, none⟩) (cell_in hc2)).trans hc2, (Bwc1.out.cell (p := ⟨gl, k, none⟩) (cell_in hra)).trans hra⟩
          clear hK K
          try simp only [List.getElem_toArray, List.getElem_cons_succ, List.getElem_cons_zero, Act.put, List.setIfInBounds_toArray, List.set_cons_zero, List.set_cons_succ]
          refine wpAnyH_ready (rs := [11]) (by kernel_rfl) (by simp) ?_
          refine AllReadyH.cons rfl (fun K hK => ?_) AllReadyH.nil
          go_simp
          (go_at_call 62; refine (HDB.out _ Bwc1.out).mono ?_; rintro _ wc2 ⟨rfl, bc⟩)
          have Bwc2 := Go.Lib.hid (Bwc1.out.trans (bc.mono Bwc1.out.size))
          clear bc
          refine hK.out _ _ ?_ (fun hHeld => ?_)
          · exact ⟨(Bwc2.out.cell (p := ⟨w.heap.size, 0, none⟩) (cell_in hc0)).trans hc0, (Bwc2.out.cell (p := ⟨w.heap.size, 1, none⟩) (cell_in hc1)).trans hc1, (Bwc2.out.cell (p := ⟨w.heap.size, 2, none⟩) (cell_in hc2)).trans hc2, (Bwc2.out.cell (p := ⟨gl, k, none⟩) (cell_in hra)).trans hra⟩
          clear hK K
          try simp only [List.getElem_toArray, List.getElem_cons_succ, List.getElem_cons_zero, Act.put, List.setIfInBounds_toArray, List.set_cons_zero, List.set_cons_succ]
          refine wpAnyH_take (i := 13) (v := ?vp11) rfl (by kernel_rfl) (by kernel_rfl) (by kernel_rfl) (fun _ _ _ h => h) (Or.inl ⟨by rfl, ?hyp11⟩) (by assumption) ?restp11
          case hyp11 => (intro w hSw; (try dsimp only at hSw); go_simp; try with_reducible rfl)
          try simp only [List.getElem_toArray, List.getElem_cons_succ, List.getElem_cons_zero, Act.put, List.setIfInBounds_toArray, List.set_cons_zero, List.set_cons_succ]
          refine wpAnyH_ready (rs := [14]) (by kernel_rfl) (by simp) ?_
          refine AllReadyH.cons rfl (fun K hK => ?_) AllReadyH.nil
          go_simp
          (go_at_call 61; refine (HAB.out _).mono ?_; rintro _ _ ⟨rfl, rfl⟩)
          refine hK.out _ _ ?_ (fun hHeld => ?_)
          · exact ⟨(Bwc2.out.cell (p := ⟨w.heap.size, 0, none⟩) (cell_in hc0)).trans hc0, (Bwc2.out.cell (p := ⟨w.heap.size, 1, none⟩) (cell_in hc1)).trans hc1, (Bwc2.out.cell (p := ⟨w.heap.size, 2, none⟩) (cell_in hc2)).trans hc2, (Bwc2.out.cell (p := ⟨gl, k, none⟩) (cell_in hra)).trans hra⟩
          clear hK K
          try simp only [List.getElem_toArray, List.getElem_cons_succ, List.getElem_cons_zero, Act.put, List.setIfInBounds_toArray, List.set_cons_zero, List.set_cons_succ]
          refine wpAnyH_take (i := 15) (v := ?vp12) rfl (by kernel_rfl) (by kernel_rfl) (by kernel_rfl) (fun _ _ _ h => h) (Or.inl ⟨by rfl, ?hyp12⟩) (by assumption) ?restp12
          case hyp12 => (intro w hSw; (try dsimp only at hSw); go_simp; try with_reducible rfl)
          try simp only [List.getElem_toArray, List.getElem_cons_succ, List.getElem_cons_zero, Act.put, List.setIfInBounds_toArray, List.set_cons_zero, List.set_cons_succ]
          refine wpAnyH_done (by kernel_rfl) ?_ _
          have HB2 := Go.Lib.hid (HBQ.out.trans (Bwc2.out.mono HBQ.out.size))
          have hra2 : wc2.cell? ⟨gl, k, none⟩ = some (.slice D 2 dd) := (Bwc2.out.cell (p := ⟨gl, k, none⟩) (cell_in hra)).trans hra
          clear hc0 hc1 hc2 hra
          go_wp2_with fail
          go_roundw
          case rel => exact ⟨k + 1, by omega, by go_num, ⟨D, dd, rfl, by rw [HH.out]; exact HLA.out⟩, HB2.out⟩
          case measure => simp [intOf]; omega
        case neg =>
          have HH := Go.Lib.hid (HH2.out hfar)
          have hfd : decide (fa < fb) = false := decide_eq_false hfar
          go_upto_region 10 with fail
          refine wp_region_held_drew (S := fun w' => w'.cell? ⟨w.heap.size, 0, none⟩ = some (.slice A x.f.length c) ∧ w'.cell? ⟨w.heap.size, 1, none⟩ = some (.slice B x.r.length d) ∧ w'.cell? ⟨w.heap.size, 2, none⟩ = some (.int .i64 x.n) ∧ w'.cell? ⟨gl, k, none⟩ = some (.slice D 2 dd)) (by kernel_rfl) (by exact ⟨hc0, hc1, hc2, hra⟩) (fun hHeld => ?_)
          refine wpAnyH_take (i := 0) (v := ?vn1) rfl (by kernel_rfl) (by kernel_rfl) (by kernel_rfl) (fun _ _ _ h => h) (Or.inl ⟨by rfl, ?hyn1⟩) (by assumption) ?restn1
          case hyn1 => (intro w hSw; (try dsimp only at hSw); go_simp; try with_reducible rfl)
          try simp only [List.getElem_toArray, List.getElem_cons_succ, List.getElem_cons_zero, Act.put, List.setIfInBounds_toArray, List.set_cons_zero, List.set_cons_succ]
          refine wpAnyH_take (i := 1) (v := ?vn2) rfl (by kernel_rfl) (by kernel_rfl) (by kernel_rfl) (fun _ _ _ h => h) (Or.inl ⟨by rfl, ?hyn2⟩) (by assumption) ?restn2
          case hyn2 => (intro w hSw; (try dsimp only at hSw); go_simp; try with_reducible rfl)
          try simp only [List.getElem_toArray, List.getElem_cons_succ, List.getElem_cons_zero, Act.put, List.setIfInBounds_toArray, List.set_cons_zero, List.set_cons_succ]
          refine wpAnyH_take (i := 2) (v := ?vn3) rfl (by kernel_rfl) (by kernel_rfl) (by kernel_rfl) (fun _ _ _ h => h) (Or.inl ⟨by rfl, ?hyn3⟩) (by assumption) ?restn3
          case hyn3 => (intro w hSw; (try dsimp only at hSw); go_simp; try with_reducible rfl)
          try simp only [List.getElem_toArray, List.getElem_cons_succ, List.getElem_cons_zero, Act.put, List.setIfInBounds_toArray, List.set_cons_zero, List.set_cons_succ]
          refine wpAnyH_take (i := 3) (v := ?vn4) rfl (by kernel_rfl) (by kernel_rfl) (by kernel_rfl) (fun _ _ _ h => h) (Or.inl ⟨by rfl, ?hyn4⟩) (by assumption) ?restn4
          case hyn4 => (intro w hSw; (try dsimp only at hSw); go_simp; try with_reducible rfl)
          try simp only [List.getElem_toArray, List.getElem_cons_succ, List.getElem_cons_zero, Act.put, List.setIfInBounds_toArray, List.set_cons_zero, List.set_cons_succ]
          refine wpAnyH_take (i := 4) (v := ?vn5) rfl (by kernel_rfl) (by kernel_rfl) (by kernel_rfl) (fun _ _ _ h => h) (Or.inl ⟨by rfl, ?hyn5⟩) (by assumption) ?restn5
          case hyn5 => (intro w hSw; (try dsimp only at hSw); go_simp; try with_reducible rfl)
          try simp only [List.getElem_toArray, List.getElem_cons_succ, List.getElem_cons_zero, Act.put, List.setIfInBounds_toArray, List.set_cons_zero, List.set_cons_succ]
          refine wpAnyH_take (i := 6) (v := ?vn6) rfl (by kernel_rfl) (by kernel_rfl) (by kernel_rfl) (fun _ _ _ h => h) (Or.inl ⟨by rfl, ?hyn6⟩) (by assumption) ?restn6
          case hyn6 => (intro w hSw; (try dsimp only at hSw); go_simp; try with_reducible rfl)
          try simp only [List.getElem_toArray, List.getElem_cons_succ, List.getElem_cons_zero, Act.put, List.setIfInBounds_toArray, List.set_cons_zero, List.set_cons_succ]
          refine wpAnyH_take (i := 9) (v := ?vn7) rfl (by kernel_rfl) (by kernel_rfl) (by kernel_rfl) (fun _ _ _ h => h) (Or.inl ⟨by rfl, ?hyn7⟩) (by assumption) ?restn7
          case hyn7 => (intro w hSw; (try dsimp only at hSw); go_simp; try with_reducible rfl)
          try simp only [List.getElem_toArray, List.getElem_cons_succ, List.getElem_cons_zero, Act.put, List.setIfInBounds_toArray, List.set_cons_zero, List.set_cons_succ]
          refine wpAnyH_take (i := 10) (v := ?vn8) rfl (by kernel_rfl) (by kernel_rfl) (by kernel_rfl) (fun _ _ _ h => h) (Or.inl ⟨by rfl, ?hyn8⟩) (by assumption) ?restn8
          case hyn8 => (intro w hSw; (try dsimp only at hSw); go_simp; try with_reducible rfl)
          try simp only [List.getElem_toArray, List.getElem_cons_succ, List.getElem_cons_zero, Act.put, List.setIfInBounds_toArray, List.set_cons_zero, List.set_cons_succ]
          refine wpAnyH_take (i := 12) (v := ?vn9) rfl (by kernel_rfl) (by kernel_rfl) (by kernel_rfl) (fun _ _ _ h => h) (Or.inl ⟨by rfl, ?hyn9⟩) (by assumption) ?restn9
          case hyn9 => (intro w hSw; (try dsimp only at hSw); go_simp; try with_reducible rfl)
          try simp only [List.getElem_toArray, List.getElem_cons_succ, List.getElem_cons_zero, Act.put, List.setIfInBounds_toArray, List.set_cons_zero, List.set_cons_succ]
          refine wpAnyH_ready (rs := [5]) (by kernel_rfl) (by simp) ?_
          refine AllReadyH.cons rfl (fun K hK => ?_) AllReadyH.nil
          go_simp
          (go_at_call 62; refine (HDA.out _ HSW.out).mono ?_; rintro _ wc1 ⟨rfl, bc⟩)
          have Bwc1 := Go.Lib.hid (HSW.out.trans (bc.mono HSW.out.size))
          clear bc
          refine hK.out _ _ ?_ (fun hHeld => ?_)
          · exact ⟨(Bwc1.out.cell (p := ⟨w.heap.size, 0, none⟩) (cell_in hc0)).trans hc0, (Bwc1.out.cell (p := ⟨w.heap.size, 1, none⟩) (cell_in hc1)).trans hc1, (Bwc1.out.cell (p := ⟨w.heap.size, 2, none⟩) (cell_in hc2)).trans hc2, (Bwc1.out.cell (p := ⟨gl, k, none⟩) (cell_in hra)).trans hra⟩
          clear hK K
          try simp only [List.getElem_toArray, List.getElem_cons_succ, List.getElem_cons_zero, Act.put, List.setIfInBounds_toArray, List.set_cons_zero, List.set_cons_succ]
          refine wpAnyH_take (i := 7) (v := ?vn10) rfl (by kernel_rfl) (by kernel_rfl) (by kernel_rfl) (fun _ _ _ h => h) (Or.inl ⟨by rfl, ?hyn10⟩) (by assumption) ?restn10
          case hyn10 => (intro w hSw; (try dsimp only at hSw); go_simp; try with_reducible rfl)
          try simp only [List.getElem_toArray, List.getElem_cons_succ, List.getElem_cons_zero, Act.put, List.setIfInBounds_toArray, List.set_cons_zero, List.set_cons_succ]
          refine wpAnyH_ready (rs := [8]) (by kernel_rfl) (by simp) ?_
          refine AllReadyH.cons rfl (fun K hK => ?_) AllReadyH.nil
          go_simp
          (go_at_call 61; refine (HAA.out _).mono ?_; rintro _ _ ⟨rfl, rfl⟩)
          refine hK.out _ _ ?_ (fun hHeld => ?_)
          · exact ⟨(Bwc1.out.cell (p := ⟨w.heap.size, 0, none⟩) (cell_in hc0)).trans hc0, (Bwc1.out.cell (p := ⟨w.heap.size, 1, none⟩) (cell_in hc1)).trans hc1, (Bwc1.out.cell (p := ⟨w.heap.size, 2, none⟩) (cell_in hc2)).trans hc2, (Bwc1.out.cell (p := ⟨gl, k, none⟩) (cell_in hra)).trans hra⟩
          clear hK K
          try simp only [List.getElem_toArray, List.getElem_cons_succ, List.getElem_cons_zero, Act.put, List.setIfInBounds_toArray, List.set_cons_zero, List.set_cons_succ]
          refine wpAnyH_ready (rs := [11]) (by kernel_rfl) (by simp) ?_
          refine AllReadyH.cons rfl (fun K hK => ?_) AllReadyH.nil
          go_simp
          (go_at_call 62; refine (HDB.out _ Bwc1.out).mono ?_; rintro _ wc2 ⟨rfl, bc⟩)
          have Bwc2 := Go.Lib.hid (Bwc1.out.trans (bc.mono Bwc1.out.size))
          clear bc
          refine hK.out _ _ ?_ (fun hHeld => ?_)
          · exact ⟨(Bwc2.out.cell (p := ⟨w.heap.size, 0, none⟩) (cell_in hc0)).trans hc0, (Bwc2.out.cell (p := ⟨w.heap.size, 1, none⟩) (cell_in hc1)).trans hc1, (Bwc2.out.cell (p := ⟨w.heap.size, 2, none⟩) (cell_in hc2)).trans hc2, (Bwc2.out.cell (p := ⟨gl, k, none⟩) (cell_in hra)).trans hra⟩
          clear hK K
          try simp only [List.getElem_toArray, List.getElem_cons_succ, List.getElem_cons_zero, Act.put, List.setIfInBounds_toArray, List.set_cons_zero, List.set_cons_succ]
          refine wpAnyH_take (i := 13) (v := ?vn11) rfl (by kernel_rfl) (by kernel_rfl) (by kernel_rfl) (fun _ _ _ h => h) (Or.inl ⟨by rfl, ?hyn11⟩) (by assumption) ?restn11
          case hyn11 => (intro w hSw; (try dsimp only at hSw); go_simp; try with_reducible rfl)
          try simp only [List.getElem_toArray, List.getElem_cons_succ, List.getElem_cons_zero, Act.put, List.setIfInBounds_toArray, List.set_cons_zero, List.set_cons_succ]
          refine wpAnyH_ready (rs := [14]) (by kernel_rfl) (by simp) ?_
          refine AllReadyH.cons rfl (fun K hK => ?_) AllReadyH.nil
          go_simp
          (go_at_call 61; refine (HAB.out _).mono ?_; rintro _ _ ⟨rfl, rfl⟩)
          refine hK.out _ _ ?_ (fun hHeld => ?_)
          · exact ⟨(Bwc2.out.cell (p := ⟨w.heap.size, 0, none⟩) (cell_in hc0)).trans hc0, (Bwc2.out.cell (p := ⟨w.heap.size, 1, none⟩) (cell_in hc1)).trans hc1, (Bwc2.out.cell (p := ⟨w.heap.size, 2, none⟩) (cell_in hc2)).trans hc2, (Bwc2.out.cell (p := ⟨gl, k, none⟩) (cell_in hra)).trans hra⟩
          clear hK K
          try simp only [List.getElem_toArray, List.getElem_cons_succ, List.getElem_cons_zero, Act.put, List.setIfInBounds_toArray, List.set_cons_zero, List.set_cons_succ]
          refine wpAnyH_take (i := 15) (v := ?vn12) rfl (by kernel_rfl) (by kernel_rfl) (by kernel_rfl) (fun _ _ _ h => h) (Or.inl ⟨by rfl, ?hyn12⟩) (by assumption) ?restn12
          case hyn12 => (intro w hSw; (try dsimp only at hSw); go_simp; try with_reducible rfl)
          try simp only [List.getElem_toArray, List.getElem_cons_succ, List.getElem_cons_zero, Act.put, List.setIfInBounds_toArray, List.set_cons_zero, List.set_cons_succ]
          refine wpAnyH_done (by kernel_rfl) ?_ _
          have HB2 := Go.Lib.hid (HBQ.out.trans (Bwc2.out.mono HBQ.out.size))
          clear hc0 hc1 hc2 hra
          go_wp2_with fail
          go_roundw
          case rel => exact ⟨k + 1, by omega, by go_num, ⟨E, ee, rfl, by rw [HH.out]; exact HLB.out⟩, HB2.out⟩
          case measure => simp [intOf]; omega
end Go.Proofs.Ytifblmcocikopaa
