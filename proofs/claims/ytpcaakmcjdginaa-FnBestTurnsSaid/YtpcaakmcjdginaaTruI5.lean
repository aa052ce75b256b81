/- The program: truing by turns. -/
import Derived.Test.YtpcaakmcjdginaaTruI4
import Derived.Test.YtpcaakmcjdginaaTwo
namespace Go.Proofs.Ytpcaakmcjdginaa
open Go.RowKit
set_option linter.unusedSimpArgs false
set_option linter.unusedVariables false

theorem two_first {w wc wm : World} {n g cap : Nat} {zs : List Int} (ht : Tur w.drew n g cap zs wc) (hm : Ow wm w.heap.size wm.heap.size 2 (some ⟨wc.heap.size, 0, none⟩) n n (ints (List.replicate n 0))) (hg : Below wc.heap.size wc wm) (hn : 0 < n) : Two w n g cap zs wc.heap.size n (List.replicate n 0) wm := by
  have hlo := ht.lo hn
  obtain ⟨g', e, -, -, hl⟩ := hm.form hn
  cases e
  have hb : Below w.heap.size w wc := (below_drewN (Below.refl _ _) 1).trans ht.b
  exact ⟨(ht.ow.below hg (Nat.le_refl _)).block_, hm.block_, by omega, hlo.1, hb.size, Nat.lt_of_lt_of_le hlo.2 hg.size, hl, hb.trans (hg.mono hb.size)⟩
theorem two_second {w wc wm : World} {n g cap : Nat} {zs : List Int} (hb : Below w.heap.size w wm) (ht : Tur wm n g cap zs wc) (hm : Ow wm w.heap.size wm.heap.size 2 (some ⟨w.heap.size, 0, none⟩) n n (ints (List.replicate n 0))) (hn : 0 < n) : Two w n g cap zs w.heap.size n (List.replicate n 0) wc := by
  have hlo := ht.lo hn
  obtain ⟨g', e, -, -, hl⟩ := hm.form hn
  cases e
  exact ⟨ht.ow.block_, (hm.below ht.b (Nat.le_refl _)).block_, by omega, Nat.le_trans hb.size hlo.1, Nat.le_refl _, hlo.2, Nat.lt_of_lt_of_le hl ht.b.size, hb.trans (ht.b.mono hb.size)⟩
theorem zeros_bd (n : Nat) : Bd 0 (List.replicate n 0) := fun j => by
  rw [zeros_get]
  omega
set_option maxRecDepth 100000 in
set_option maxHeartbeats 8000000 in
theorem implBy (A : Option Addr) (c : Nat) (zs : List Int) (B : Option Addr) (b : Nat) (s : List Int) (m : Int) (w : World) (L : Ls zs A c w) (L2 : Ls s B b w) (n : Nat) (hnn : zs.length = n) :
    Calls Try.prog 33 #[.slice A n c, .slice B s.length b, .int .i64 m] w (GivesLN (byR zs s m) w) := by
  have HD1 := Go.Lib.hid (implDev A c zs w L)
  have HE1 := Go.Lib.hid (implEff B b s w L2)
  have HI := Go.Lib.hid (implInR m 0 40 w)
  have HL := Go.Lib.hid L
  have HS := Go.Lib.hid L2
  rw [hnn] at HD1
  clear L L2
  by_cases hd : devB zs = true
  case neg =>
    have HV := Go.Lib.hid (show byR zs s m = ([], 1) by unfold byR; rw [if_neg (by simp [hd])])
    rw [Bool.not_eq_true] at hd
    rw [hd] at HD1
    clear hd hnn
    go_enter Try.func33, Try.ntmps33
    go_wp2_with fail
    refine (HD1.out).mono ?_
    rintro _ _ ⟨rfl, rfl⟩
    go_wp2_with fail
    go_ret2
    exact GivesLN.nil HV.out (Below.refl _ _)
  case pos =>
  rw [hd] at HD1
  by_cases hs : effB s = true
  case neg =>
    have HV := Go.Lib.hid (show byR zs s m = ([], 1) by unfold byR; rw [if_neg (by simp [hs])])
    rw [Bool.not_eq_true] at hs
    rw [hs] at HE1
    clear hd hs hnn
    go_enter Try.func33, Try.ntmps33
    go_wp2_with fail
    refine (HD1.out).mono ?_
    rintro _ _ ⟨rfl, rfl⟩
    go_wp2_with fail
    refine (HE1.out).mono ?_
    rintro _ _ ⟨rfl, rfl⟩
    go_wp2_with fail
    go_ret2
    exact GivesLN.nil HV.out (Below.refl _ _)
  case pos =>
  rw [hs] at HE1
  have h1 : (devB zs && effB s) = true := by rw [hd, hs]; rfl
  by_cases h2 : (decide (0 ≤ m) && decide (m ≤ 40)) = true
  case neg =>
    have HV := Go.Lib.hid (show byR zs s m = ([], 2) by unfold byR; rw [if_pos h1, if_neg h2])
    rw [Bool.not_eq_true] at h2
    rw [show inB m 0 40 = false from h2] at HI
    clear h1 hnn h2 hd hs
    go_enter Try.func33, Try.ntmps33
    go_wp2_with fail
    refine (HD1.out).mono ?_
    rintro _ _ ⟨rfl, rfl⟩
    go_wp2_with fail
    refine (HE1.out).mono ?_
    rintro _ _ ⟨rfl, rfl⟩
    go_wp2_with fail
    refine (HI.out).mono ?_
    rintro _ _ ⟨rfl, rfl⟩
    go_wp2_with fail
    go_ret2
    exact GivesLN.nil HV.out (Below.refl _ _)
  case pos =>
  have HV := Go.Lib.hid (show byR zs s m = (trueTo s m.toNat zs (List.replicate n 0), 0) by unfold byR; rw [if_pos h1, if_pos h2, hnn])
  rw [show inB m 0 40 = true from h2] at HI
  have hm : 0 ≤ m ∧ m ≤ 40 := by simpa using h2
  have hD := devB_iff.1 hd
  have HE := Go.Lib.hid (effB_iff.1 hs)
  have h4 : 4 ≤ n := hnn ▸ hD.lo
  have h10 : n ≤ 10 := hnn ▸ hD.hi
  have HBD := Go.Lib.hid hD.bd
  have HNN := Go.Lib.hid hnn
  have HCL := Go.Lib.hid (fun w0 L0 => implClone A c zs w0 L0 (by omega))
  rw [hnn] at HCL
  obtain ⟨k0, rfl⟩ := Int.eq_ofNat_of_zero_le hm.1
  rw [Int.toNat_natCast] at HV
  obtain ⟨-, hm40⟩ := hm
  have hk40 : k0 ≤ 40 := by omega
  obtain ⟨i0, hi, hz0, hz1, hz2⟩ := info_parts infoI64
  clear h1 h2 hD hnn hd hs
  go_enter Try.func33, Try.ntmps33
  go_wp2_with fail
  refine (HD1.out).mono ?_
  rintro _ _ ⟨rfl, rfl⟩
  go_wp2_with fail
  refine (HE1.out).mono ?_
  rintro _ _ ⟨rfl, rfl⟩
  go_wp2_with fail
  refine (HI.out).mono ?_
  rintro _ _ ⟨rfl, rfl⟩
  go_upto_region 5 with fail
  go_cut [8, 9] (fun s8 s9 wx => ∃ g1 c1 g2 c2 : Nat, s8 = .slice (some ⟨g1, 0, none⟩) n c1 ∧ s9 = .slice (some ⟨g2, 0, none⟩) n c2 ∧ Two w n g1 c1 zs g2 c2 (List.replicate n 0) wx)
  case first =>
    refine wp_region_held_drew (S := fun _ => True) (by kernel_rfl) trivial (fun hHeld => ?_)
    refine wpAnyH_take (i := 0) (v := ?vk1) rfl (by kernel_rfl) (by kernel_rfl) (by kernel_rfl) (fun _ _ _ h => h) (Or.inl ⟨by rfl, ?hyk1⟩) (by assumption) ?restk1
    case hyk1 => (intro w hSw; (try dsimp only at hSw); go_simp; try with_reducible rfl)
    try simp only [List.getElem_toArray, List.getElem_cons_succ, List.getElem_cons_zero, Act.put, List.setIfInBounds_toArray, List.set_cons_zero, List.set_cons_succ]
    refine wpAnyH_take (i := 2) (v := ?vk2) rfl (by kernel_rfl) (by kernel_rfl) (by kernel_rfl) (fun _ _ _ h => h) (Or.inl ⟨by rfl, ?hyk2⟩) (by assumption) ?restk2
    case hyk2 => (intro w hSw; (try dsimp only at hSw); go_simp; try with_reducible rfl)
    try simp only [List.getElem_toArray, List.getElem_cons_succ, List.getElem_cons_zero, Act.put, List.setIfInBounds_toArray, List.set_cons_zero, List.set_cons_succ]
    refine wpAnyH_take (i := 3) (v := ?vk3) rfl (by kernel_rfl) (by kernel_rfl) (by kernel_rfl) (fun _ _ _ h => h) (Or.inl ⟨by rfl, ?hyk3⟩) (by assumption) ?restk3
    case hyk3 => (intro w hSw; (try dsimp only at hSw); go_simp; try with_reducible rfl)
    try simp only [List.getElem_toArray, List.getElem_cons_succ, List.getElem_cons_zero, Act.put, List.setIfInBounds_toArray, List.set_cons_zero, List.set_cons_succ]
    refine wpAnyH_ready (rs := [1, 4]) (by kernel_rfl) (by simp) ?_
    refine AllReadyH.cons rfl (fun K hK => ?_) (AllReadyH.cons rfl (fun K hK => ?_) AllReadyH.nil)
    · go_simp
      (go_at_call 58; refine (HCL.out _ (HL.out.drewN 1)).mono ?_; rintro _ wc ⟨g, cap, rfl, ht⟩)
      have HTC := Go.Lib.hid ht
      have HBM := Go.Lib.hid (show w.heap.size ≤ wc.heap.size from ht.b.size)
      clear ht
      refine hK.out _ _ ?_ (fun hHeld => ?_)
      · trivial
      clear hK K
      try simp only [List.getElem_toArray, List.getElem_cons_succ, List.getElem_cons_zero, Act.put, List.setIfInBounds_toArray, List.set_cons_zero, List.set_cons_succ]
      refine wpAnyH_take (i := 5) (v := ?vk4) rfl (by kernel_rfl) (by kernel_rfl) (by kernel_rfl) (fun _ _ _ h => h) (Or.inl ⟨by rfl, ?hyk4⟩) (by assumption) ?restk4
      case hyk4 => (intro w hSw; (try dsimp only at hSw); go_simp; try with_reducible rfl)
      try simp only [List.getElem_toArray, List.getElem_cons_succ, List.getElem_cons_zero, Act.put, List.setIfInBounds_toArray, List.set_cons_zero, List.set_cons_succ]
      refine wpAnyH_ready (rs := [4]) (by kernel_rfl) (by simp) ?_
      refine AllReadyH.cons rfl (fun K hK => ?_) AllReadyH.nil
      rw [if_pos (by rfl)]
      refine op_make_full _ _ _ 24 rfl w.heap.size 2 i0 (.int .i64 0) 1 Try.underlying24 hi hz0 hz1 .i64 .i64 _ _ n rfl rfl rfl rfl (by rw [hz2]; omega) (by unfold maxLen; omega) HBM.out ?_
      intro wm hown hg
      have HMM := Go.Lib.hid (made_zero hown)
      have HMG := Go.Lib.hid ((Below.refl wc.heap.size wc).grown hg (Nat.le_refl _) (by simp))
      clear hown hg
      refine hK.out _ _ ?_ (fun hHeld => ?_)
      · trivial
      clear hK K
      try simp only [List.getElem_toArray, List.getElem_cons_succ, List.getElem_cons_zero, Act.put, List.setIfInBounds_toArray, List.set_cons_zero, List.set_cons_succ]
      refine wpAnyH_take (i := 6) (v := ?vk5) rfl (by kernel_rfl) (by kernel_rfl) (by kernel_rfl) (fun _ _ _ h => h) (Or.inl ⟨by rfl, ?hyk5⟩) (by assumption) ?restk5
      case hyk5 => (intro w hSw; (try dsimp only at hSw); go_simp; try with_reducible rfl)
      try simp only [List.getElem_toArray, List.getElem_cons_succ, List.getElem_cons_zero, Act.put, List.setIfInBounds_toArray, List.set_cons_zero, List.set_cons_succ]
      refine wpAnyH_done (by kernel_rfl) ?_ _
      have hn0 : 0 < n := by omega
      have HTW := Go.Lib.hid (show Two w n g cap zs wc.heap.size n (List.replicate n 0) wm from two_first HTC.out HMM.out HMG.out hn0)
      go_wp2_with fail
      go_meet
      case rel => exact ⟨g, cap, wc.heap.size, n, rfl, rfl, HTW.out⟩
    · have HBM := Go.Lib.hid (show w.heap.size ≤ w.drew.heap.size from Nat.le_refl _)
      rw [if_pos (by rfl)]
      refine op_make_full _ _ _ 24 rfl w.heap.size 2 i0 (.int .i64 0) 1 Try.underlying24 hi hz0 hz1 .i64 .i64 _ _ n rfl rfl rfl rfl (by rw [hz2]; omega) (by unfold maxLen; omega) HBM.out ?_
      intro wm hown hg
      have HMM := Go.Lib.hid (made_zero hown)
      have HMG := Go.Lib.hid ((Below.refl w.heap.size w.drew).grown hg (Nat.le_refl _) (by simp))
      have HBX := Go.Lib.hid (show Below w.heap.size w wm from (below_drewN (Below.refl _ _) 1).trans HMG.out)
      clear hown hg
      refine hK.out _ _ ?_ (fun hHeld => ?_)
      · trivial
      clear hK K
      try simp only [List.getElem_toArray, List.getElem_cons_succ, List.getElem_cons_zero, Act.put, List.setIfInBounds_toArray, List.set_cons_zero, List.set_cons_succ]
      refine wpAnyH_ready (rs := [1]) (by kernel_rfl) (by simp) ?_
      refine AllReadyH.cons rfl (fun K hK => ?_) AllReadyH.nil
      go_simp
      (go_at_call 58; refine (HCL.out _ (HL.out.below HBX.out)).mono ?_; rintro _ wc ⟨g, cap, rfl, ht⟩)
      have HTC := Go.Lib.hid ht
      clear ht
      refine hK.out _ _ ?_ (fun hHeld => ?_)
      · trivial
      clear hK K
      try simp only [List.getElem_toArray, List.getElem_cons_succ, List.getElem_cons_zero, Act.put, List.setIfInBounds_toArray, List.set_cons_zero, List.set_cons_succ]
      refine wpAnyH_take (i := 5) (v := ?vk6) rfl (by kernel_rfl) (by kernel_rfl) (by kernel_rfl) (fun _ _ _ h => h) (Or.inl ⟨by rfl, ?hyk6⟩) (by assumption) ?restk6
      case hyk6 => (intro w hSw; (try dsimp only at hSw); go_simp; try with_reducible rfl)
      try simp only [List.getElem_toArray, List.getElem_cons_succ, List.getElem_cons_zero, Act.put, List.setIfInBounds_toArray, List.set_cons_zero, List.set_cons_succ]
      refine wpAnyH_take (i := 6) (v := ?vk7) rfl (by kernel_rfl) (by kernel_rfl) (by kernel_rfl) (fun _ _ _ h => h) (Or.inl ⟨by rfl, ?hyk7⟩) (by assumption) ?restk7
      case hyk7 => (intro w hSw; (try dsimp only at hSw); go_simp; try with_reducible rfl)
      try simp only [List.getElem_toArray, List.getElem_cons_succ, List.getElem_cons_zero, Act.put, List.setIfInBounds_toArray, List.set_cons_zero, List.set_cons_succ]
      refine wpAnyH_done (by kernel_rfl) ?_ _
      have hn0 : 0 < n := by omega
      have HTW := Go.Lib.hid (show Two w n g cap zs w.heap.size n (List.replicate n 0) wc from two_second HBX.out HTC.out (HMM.out) hn0)
      go_wp2_with fail
      go_meet
      case rel => exact ⟨g, cap, w.heap.size, n, rfl, rfl, HTW.out⟩
  case rest =>
    obtain ⟨g1, c1, g2, c2, rfl, rfl, htw⟩ := hcut
    have HT0 := Go.Lib.hid htw
    have HZ0 := Go.Lib.hid (zeros_bd n)
    clear htw HCL hi hz0 hz1 hz2
    go_wp2_with fail
    go_loopw [30] (fun u wr => ∃ (ys out : List Int) (k : Nat), u = .int .i64 k ∧ k ≤ k0 ∧ Two w n g1 c1 ys g2 c2 out wr ∧ Bd (500 + 120000 * k) ys ∧ Bd k out ∧ trueTo s k0 zs (List.replicate n 0) = trueTo s (k0 - k) ys out) (fun u _ => k0 - (intOf u).toNat)
    case atStart => exact ⟨zs, List.replicate n 0, 0, rfl, Nat.zero_le _, HT0.out, HBD.out.mono (by omega), HZ0.out.mono (by omega), rfl⟩
    case round =>
      obtain ⟨ys, out, k, rfl, hk, htw, hbd, hbo, hV⟩ := hrel
      have HTU := Go.Lib.hid htw
      have HBDK := Go.Lib.hid hbd
      have HVV := Go.Lib.hid hV
      have HBO := Go.Lib.hid hbo
      clear htw hbd hV hbo HZ0 HT0 HBD
      by_cases hlt : k < k0
      case neg =>
        obtain rfl : k = k0 := by omega
        have HF := Go.Lib.hid (show byR zs s k = (out, 0) by rw [HV.out, HVV.out, Nat.sub_self]; rfl)
        go_wp2_with fail
        go_ret2
        exact GivesLN.own HF.out HTU.out.len2 HTU.out.last HTU.out.b
      case pos =>
        have hBX : Bd 9000000 ys := HBDK.out.mono (by omega)
        have HBE := Go.Lib.hid (implBest (some ⟨g1, 0, none⟩) c1 ys B b s wr (HTU.out.ls (by omega)) (HS.out.below HTU.out.b) n HTU.out.len h4 h10 HE.out 9000000 hBX (by omega) (by omega))
        have hok : (bestI ys s).Ok (ys.length : Nat) := bestTo_bd ys s ys.length
        rw [HTU.out.len] at hok
        have HST := Go.Lib.hid (show trueTo s (k0 - k) ys out = if (bestI ys s).p < 0 then out else trueTo s (k0 - (k + 1)) (afterI ys s (oneT ys.length (bestI ys s).p.toNat (bestI ys s).q)) (addAt out (bestI ys s).p.toNat (bestI ys s).q) by rw [show k0 - k = (k0 - (k + 1)) + 1 by omega]; rfl)
        rw [HTU.out.len] at HST
        generalize bestI ys s = bb at *
        obtain ⟨p, q, sq⟩ := bb
        dsimp only [Best.Ok] at hok HST HBE
        have hkp : (k : Int) < k0 := by omega
        by_cases hp : p < 0
        case pos =>
          rw [if_pos hp] at HST
          have HF := Go.Lib.hid (show byR zs s k0 = (out, 0) by rw [HV.out, HVV.out, HST.out])
          rw [show bestF ⟨p, q, sq⟩ = false from decide_eq_false (by simpa using hp)] at HBE
          clear hok hBX
          go_wp2_with fail
          refine HBE.out.mono ?_
          rintro _ w2 ⟨rfl, b2⟩
          have HT2 := Go.Lib.hid (HTU.out.below b2)
          clear b2
          go_wp2_with fail
          go_ret2
          exact GivesLN.own HF.out HT2.out.len2 HT2.out.last HT2.out.b
        case neg =>
          rw [if_neg hp] at HST
          obtain ⟨j, rfl⟩ := Int.eq_ofNat_of_zero_le (show 0 ≤ p by omega)
          rw [Int.toNat_natCast] at HST
          have hjn : j < n := by omega
          have hqa : -1 ≤ q := by omega
          have hqb : q ≤ 1 := by omega
          have hq0 : -100 ≤ q := by omega
          have hq1 : q ≤ 100 := by omega
          have hjl : (j : Int) < n := by omega
          have hj0 : (0 : Int) ≤ j := by omega
          rw [bestP_of, bestF_of] at HBE
          have HTA := Go.Lib.hid (turn_after (zs := ys) (s := s) (q := q) HTU.out.len hjn)
          have HBN := Go.Lib.hid (show Bd (500 + 120000 * ((k + 1 : Nat) : Int)) (afterI ys s (oneT n j q)) from (afterI_bd HBDK.out HE.out (oneT_rng2 hjn hq0 hq1) ((oneT_len n j q).trans HTU.out.len.symm) (by have := HTU.out.len; omega)).mono (by omega))
          have HDV := Go.Lib.hid (fun w0 O S => implDeviate g1 n c1 ys B b s j q w0 g1 (g1 + 1) O S HS.out.le hjn h4 h10 HE.out hq0 hq1 9000000 hBX (by omega) (by omega))
          rw [HTA.out] at HDV
          clear hok hp hBX
          generalize afterI ys s (oneT n j q) = us at *
          go_wp2_with fail
          refine HBE.out.mono ?_
          rintro _ w2 ⟨rfl, b2⟩
          have HT2 := Go.Lib.hid (HTU.out.below b2)
          have HDV2 := Go.Lib.hid (HDV.out w2 HT2.out.o1 (HS.out.near HT2.out.b HT2.out.l1))
          clear b2 HDV
          go_wp2_with fail
          refine HDV2.out.mono ?_
          rintro _ w3 ⟨⟨v, rfl⟩, hdv⟩
          have HT3 := Go.Lib.hid (HT2.out.dev hdv)
          clear hdv HDV2
          have hcx := HT3.out.o2.num hjn
          have fx := HT3.out.o2.free j
          have hxb := HBO.out j
          have HT4 := Go.Lib.hid (HT3.out.add2 j q)
          have HBO2 := Go.Lib.hid (show Bd ((k + 1 : Nat) : Int) (addAt out j q) from (HBO.out.add (k := j) (C := 1) (by omega) (by omega)).mono (by omega))
          have HVN := Go.Lib.hid (HVV.out.trans HST.out)
          obtain ⟨x, hx⟩ : ∃ x, out.getD j 0 = x := ⟨_, rfl⟩
          rw [hx] at hcx HT4 hxb
          clear hx
          obtain ⟨xb0, xb1⟩ := hxb
          have ev : IntKind.i64.wrap (x + q) = x + q := IntWalk.i64_in _ (by omega)
          have hpn : ¬ (j : Int) < 0 := by omega
          generalize addAt out j q = out2 at *
          go_wp2_with fail
          go_roundw
          case rel => exact ⟨us, out2, k + 1, by go_num, by omega, HT4.out, HBN.out, HBO2.out, HVN.out⟩
          case measure => first | (simp [intOf]; done) | (simp [intOf]; omega)
end Go.Proofs.Ytpcaakmcjdginaa
