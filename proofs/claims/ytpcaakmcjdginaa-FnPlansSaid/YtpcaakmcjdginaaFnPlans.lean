/- The least plan is good, and the plan that undoes leads back: at every draw. -/
import Derived.Test.YtpcaakmcjdginaaRows
import Derived.Test.YtpcaakmcjdginaaTruLaw
import Derived.Test.YtpcaakmcjdginaaBig
import Derived.Test.YtpcaakmcjdginaaOpenB
import Derived.Test.YtpcaakmcjdginaaLikesI
import Derived.Test.YtpcaakmcjdginaaInts
import Derived.WalkKit
import Derived.ProofKit
import Derived.OpenShut
import Derived.ShutString
import Derived.SizedLaws
namespace Go.Proofs.Ytpcaakmcjdginaa.fnPlans
open Go.ChangeShapes Go.WideShapes Go.ChangeAt Go.RowKit
open Go.ChangeMaps (open_string shut_string)
set_option linter.unusedVariables false

set_option linter.unusedSimpArgs false
set_option maxRecDepth 100000 in
set_option maxHeartbeats 16000000 in
theorem walk (A : Option Addr) (n cap : Nat) (bs : List Int) (w : World) (h : Rd w 0 w.heap.size A n (byts bs)) (hn : n * 1 ≤ 140737488351232) (hs : ∀ z ∈ bs, 0 ≤ z ∧ z ≤ 255) :
    Calls Try.prog 3 #[.slice A n cap] w fun e w' => e = .returned (.bool true) ∧ Below w.heap.size w w' := by
  have HB := Go.Lib.hid (big_ A n cap w)
  by_cases hbig : (4096 : Int) < n
  · go_enter Try.func3, Try.ntmps3
    go_wp2_with fail
    refine HB.out.mono ?_
    rintro e w' ⟨rfl, rfl⟩
    go_wp2_with fail
    go_ret
    exact ⟨rfl, Below.refl _ _⟩
  · have hb2 := big_ A n cap w
    rw [decide_eq_false hbig] at hb2
    have HB2 := Go.Lib.hid hb2
    have HRD := Go.Lib.hid (fun w1 (hb : Below w.heap.size w w1) => (h.below hb (Nat.le_refl _)).mono (Nat.le_refl _) hb.size)
    have HW := Go.Lib.hid (Below.refl w.heap.size w)
    clear hb2 HB hbig h
    have hnn : n ≤ 140737488355328 := by omega
    clear hn
    go_enter Try.func3, Try.ntmps3
    go_wp2_with fail
    refine HB2.out.mono ?_
    rintro e w' ⟨rfl, rfl⟩
    have HD := Go.Lib.hid (drawLeastPlan A n cap bs _ (HRD.out _ HW.out) hs hnn)
    go_wp2_with fail
    refine HD.out.mono ?_
    rintro _ w1 ⟨zs, Bz, cz, s, Bf, cf, tol, rfl, hlz, hls, lz, lf, b1⟩
    have HW := Go.Lib.hid (HW.out.trans (b1.mono HW.out.size))
    have Lz := Go.Lib.hid lz
    have Lf := Go.Lib.hid lf
    clear lz lf b1 HD
    obtain ⟨hlz0, hlz1⟩ := hlz
    obtain ⟨hls0, hls1⟩ := hls
    obtain ⟨p, pc, hP, hpl⟩ := least_pair zs s tol
    have HP1 := Go.Lib.hid (fun w0 L0 L1 => implLeast Bz cz zs Bf cf s tol w0 L0 L1 _ rfl)
    have HP2 := Go.Lib.hid (fun w0 L0 L1 => specLeast Bz cz zs Bf cf s tol w0 L0 L1 _ rfl)
    rw [hP] at HP1 HP2
    have HLE := Go.Lib.hid (fun (h : pc = 0) => least_ok (zs := zs) (e := s) (tol := tol) (p := p) (by rw [hP, h]))
    clear hP
    go_wp2_with fail
    refine (HP1.out _ Lz.out Lf.out).mono ?_
    rintro _ w2 ⟨Ap, cp, rfl, o2, b2⟩
    try dsimp only at o2
    have Lz := Go.Lib.hid (Lz.out.below b2)
    have Lf := Go.Lib.hid (Lf.out.below b2)
    have HW := Go.Lib.hid (HW.out.trans (b2.mono HW.out.size))
    have Lp := Go.Lib.hid (lst0 o2 (by omega))
    clear o2 b2
    go_wp2_with fail
    refine (HP2.out _ Lz.out Lf.out).mono ?_
    rintro _ w3 ⟨Aq, cq, rfl, o3, b3⟩
    try dsimp only at o3
    have Lz := Go.Lib.hid (Lz.out.below b3)
    have Lf := Go.Lib.hid (Lf.out.below b3)
    have Lp := Go.Lib.hid (Lp.out.below b3)
    have HW := Go.Lib.hid (HW.out.trans (b3.mono HW.out.size))
    have Lq := Go.Lib.hid (lst0 o3 (by omega))
    clear o3 b3
    have HD := Go.Lib.hid (drawAfterPlan A n cap bs _ (HRD.out _ HW.out) hs hnn)
    go_wp2_with fail
    refine HD.out.mono ?_
    rintro _ w4 ⟨xs, Bx, cx, es, Be, ce, ts, Bt, ct, rfl, hlx, hle, hlt, lx, le, lt, -, b4⟩
    have Lz := Go.Lib.hid (Lz.out.below b4)
    have Lf := Go.Lib.hid (Lf.out.below b4)
    have Lp := Go.Lib.hid (Lp.out.below b4)
    have Lq := Go.Lib.hid (Lq.out.below b4)
    have HW := Go.Lib.hid (HW.out.trans (b4.mono HW.out.size))
    have Lx := Go.Lib.hid lx
    have Le := Go.Lib.hid le
    have Lt := Go.Lib.hid lt
    clear lx le lt b4 HD
    obtain ⟨hlx0, hlx1⟩ := hlx
    obtain ⟨hle0, hle1⟩ := hle
    obtain ⟨a, ac, hA, hal⟩ := after_pair xs es ts
    have HA1 := Go.Lib.hid (fun w0 L0 L1 L2 => implAfterPlan Bx cx xs Be ce es Bt ct ts w0 L0 L1 L2 _ rfl)
    have HA2 := Go.Lib.hid (fun w0 L0 L1 L2 => specAfterPlan Bx cx xs Be ce es Bt ct ts w0 L0 L1 L2 _ rfl)
    rw [hA] at HA1 HA2
    have HUB := Go.Lib.hid (fun (h : ac = 0) => undo_back (zs := xs) (e := es) (ts := ts) (a := a) (by rw [hA, h]))
    clear hA
    go_wp2_with fail
    refine (HA1.out _ Lx.out Le.out Lt.out).mono ?_
    rintro _ w5 ⟨Aa, ca, rfl, o5, b5⟩
    try dsimp only at o5
    have Lz := Go.Lib.hid (Lz.out.below b5)
    have Lf := Go.Lib.hid (Lf.out.below b5)
    have Lp := Go.Lib.hid (Lp.out.below b5)
    have Lq := Go.Lib.hid (Lq.out.below b5)
    have Lx := Go.Lib.hid (Lx.out.below b5)
    have Le := Go.Lib.hid (Le.out.below b5)
    have Lt := Go.Lib.hid (Lt.out.below b5)
    have HW := Go.Lib.hid (HW.out.trans (b5.mono HW.out.size))
    have La := Go.Lib.hid (lst0 o5 (by omega))
    clear o5 b5
    go_wp2_with fail
    refine (HA2.out _ Lx.out Le.out Lt.out).mono ?_
    rintro _ w6 ⟨Ab, cb, rfl, o6, b6⟩
    try dsimp only at o6
    have Lz := Go.Lib.hid (Lz.out.below b6)
    have Lf := Go.Lib.hid (Lf.out.below b6)
    have Lp := Go.Lib.hid (Lp.out.below b6)
    have Lq := Go.Lib.hid (Lq.out.below b6)
    have Lx := Go.Lib.hid (Lx.out.below b6)
    have Le := Go.Lib.hid (Le.out.below b6)
    have Lt := Go.Lib.hid (Lt.out.below b6)
    have La := Go.Lib.hid (La.out.below b6)
    have HW := Go.Lib.hid (HW.out.trans (b6.mono HW.out.size))
    have Lb := Go.Lib.hid (lst0 o6 (by omega))
    clear o6 b6
    have HD := Go.Lib.hid (drawUndoPlan A n cap bs _ (HRD.out _ HW.out) hs hnn)
    go_wp2_with fail
    refine HD.out.mono ?_
    rintro _ w7 ⟨ys, By, cy, rfl, hly, ly, b7⟩
    have Lz := Go.Lib.hid (Lz.out.below b7)
    have Lf := Go.Lib.hid (Lf.out.below b7)
    have Lp := Go.Lib.hid (Lp.out.below b7)
    have Lq := Go.Lib.hid (Lq.out.below b7)
    have Lx := Go.Lib.hid (Lx.out.below b7)
    have Le := Go.Lib.hid (Le.out.below b7)
    have Lt := Go.Lib.hid (Lt.out.below b7)
    have La := Go.Lib.hid (La.out.below b7)
    have Lb := Go.Lib.hid (Lb.out.below b7)
    have HW := Go.Lib.hid (HW.out.trans (b7.mono HW.out.size))
    have Ly := Go.Lib.hid ly
    clear ly b7 HD
    obtain ⟨u, uc, hU, hul⟩ := undo_pair ys
    have HU1 := Go.Lib.hid (fun w0 L0 => implUndo By cy ys w0 L0)
    have HU2 := Go.Lib.hid (fun w0 L0 => specUndo By cy ys w0 L0)
    rw [hU] at HU1 HU2
    clear hU
    go_wp2_with fail
    refine (HU1.out _ Ly.out).mono ?_
    rintro _ w8 ⟨Au, cu, rfl, o8, b8⟩
    try dsimp only at o8
    have Lz := Go.Lib.hid (Lz.out.below b8)
    have Lf := Go.Lib.hid (Lf.out.below b8)
    have Lp := Go.Lib.hid (Lp.out.below b8)
    have Lq := Go.Lib.hid (Lq.out.below b8)
    have Lx := Go.Lib.hid (Lx.out.below b8)
    have Le := Go.Lib.hid (Le.out.below b8)
    have Lt := Go.Lib.hid (Lt.out.below b8)
    have La := Go.Lib.hid (La.out.below b8)
    have Lb := Go.Lib.hid (Lb.out.below b8)
    have Ly := Go.Lib.hid (Ly.out.below b8)
    have HW := Go.Lib.hid (HW.out.trans (b8.mono HW.out.size))
    have Lu := Go.Lib.hid (lst0 o8 (by omega))
    clear o8 b8
    go_wp2_with fail
    refine (HU2.out _ Ly.out).mono ?_
    rintro _ w9 ⟨Av, cv, rfl, o9, b9⟩
    try dsimp only at o9
    have Lz := Go.Lib.hid (Lz.out.below b9)
    have Lf := Go.Lib.hid (Lf.out.below b9)
    have Lp := Go.Lib.hid (Lp.out.below b9)
    have Lq := Go.Lib.hid (Lq.out.below b9)
    have Lx := Go.Lib.hid (Lx.out.below b9)
    have Le := Go.Lib.hid (Le.out.below b9)
    have Lt := Go.Lib.hid (Lt.out.below b9)
    have La := Go.Lib.hid (La.out.below b9)
    have Lb := Go.Lib.hid (Lb.out.below b9)
    have Ly := Go.Lib.hid (Ly.out.below b9)
    have Lu := Go.Lib.hid (Lu.out.below b9)
    have HW := Go.Lib.hid (HW.out.trans (b9.mono HW.out.size))
    have Lv := Go.Lib.hid (lst0 o9 (by omega))
    clear o9 b9
    have HE1 := Go.Lib.hid (fun w0 L0 => implEff Be ce es w0 L0)
    have HE2 := Go.Lib.hid (fun w0 L0 => specEff Be ce es w0 L0)
    generalize effB es = eb at *
    have hq1 : (pc != pc) = false := by simp
    have hq2 : (ac != ac) = false := by simp
    have hq3 : (uc != uc) = false := by simp
    have hq4 : (eb != eb) = false := by simp
    have HE := Go.Lib.hid (likeInts_same _ _ _ cp cq _ _ _ _ _ _ Lp.out.rd Lq.out.rd (by first | omega | simp))
    go_wp2_with fail
    refine HE.out.mono ?_
    rintro _ w10 ⟨rfl, x10, e10⟩
    have b10 := below_of_drewN e10
    have Lz := Go.Lib.hid (Lz.out.below b10)
    have Lf := Go.Lib.hid (Lf.out.below b10)
    have Lp := Go.Lib.hid (Lp.out.below b10)
    have Lq := Go.Lib.hid (Lq.out.below b10)
    have Lx := Go.Lib.hid (Lx.out.below b10)
    have Le := Go.Lib.hid (Le.out.below b10)
    have Lt := Go.Lib.hid (Lt.out.below b10)
    have La := Go.Lib.hid (La.out.below b10)
    have Lb := Go.Lib.hid (Lb.out.below b10)
    have Ly := Go.Lib.hid (Ly.out.below b10)
    have Lu := Go.Lib.hid (Lu.out.below b10)
    have Lv := Go.Lib.hid (Lv.out.below b10)
    have HW := Go.Lib.hid (HW.out.trans (b10.mono HW.out.size))
    clear b10 e10 HE
    have HE := Go.Lib.hid (likeInts_same _ _ _ ca cb _ _ _ _ _ _ La.out.rd Lb.out.rd (by first | omega | simp))
    go_wp2_with fail
    refine HE.out.mono ?_
    rintro _ w11 ⟨rfl, x11, e11⟩
    have b11 := below_of_drewN e11
    have Lz := Go.Lib.hid (Lz.out.below b11)
    have Lf := Go.Lib.hid (Lf.out.below b11)
    have Lp := Go.Lib.hid (Lp.out.below b11)
    have Lq := Go.Lib.hid (Lq.out.below b11)
    have Lx := Go.Lib.hid (Lx.out.below b11)
    have Le := Go.Lib.hid (Le.out.below b11)
    have Lt := Go.Lib.hid (Lt.out.below b11)
    have La := Go.Lib.hid (La.out.below b11)
    have Lb := Go.Lib.hid (Lb.out.below b11)
    have Ly := Go.Lib.hid (Ly.out.below b11)
    have Lu := Go.Lib.hid (Lu.out.below b11)
    have Lv := Go.Lib.hid (Lv.out.below b11)
    have HW := Go.Lib.hid (HW.out.trans (b11.mono HW.out.size))
    clear b11 e11 HE
    have HE := Go.Lib.hid (likeInts_same _ _ _ cu cv _ _ _ _ _ _ Lu.out.rd Lv.out.rd (by first | omega | simp))
    go_wp2_with fail
    refine HE.out.mono ?_
    rintro _ w12 ⟨rfl, x12, e12⟩
    have b12 := below_of_drewN e12
    have Lz := Go.Lib.hid (Lz.out.below b12)
    have Lf := Go.Lib.hid (Lf.out.below b12)
    have Lp := Go.Lib.hid (Lp.out.below b12)
    have Lq := Go.Lib.hid (Lq.out.below b12)
    have Lx := Go.Lib.hid (Lx.out.below b12)
    have Le := Go.Lib.hid (Le.out.below b12)
    have Lt := Go.Lib.hid (Lt.out.below b12)
    have La := Go.Lib.hid (La.out.below b12)
    have Lb := Go.Lib.hid (Lb.out.below b12)
    have Ly := Go.Lib.hid (Ly.out.below b12)
    have Lu := Go.Lib.hid (Lu.out.below b12)
    have Lv := Go.Lib.hid (Lv.out.below b12)
    have HW := Go.Lib.hid (HW.out.trans (b12.mono HW.out.size))
    clear b12 e12 HE
    go_wp2_with fail
    refine (HE1.out _ Le.out).mono ?_
    rintro _ _ ⟨rfl, rfl⟩
    go_wp2_with fail
    refine (HE2.out _ Le.out).mono ?_
    rintro _ _ ⟨rfl, rfl⟩
    by_cases hac : ac = 0
    case pos =>
      subst hac
      obtain ⟨hu1, hu2⟩ := HUB.out rfl
      have HM1 := Go.Lib.hid (fun w0 L0 => implUndo Bt ct ts w0 L0)
      rw [hu1] at HM1
      have HM2 := Go.Lib.hid (fun D d w0 L0 L1 L2 => implAfterPlan Aa ca a Be ce es D d (negI ts) w0 L0 L1 L2 _ rfl)
      rw [hu2] at HM2
      have hnl := negI_len ts
      have hnl2 : (negI ts).length ≤ 14 := by omega
      clear hu1 hu2 hnl
      generalize negI ts = ms at *
      go_wp2_with fail
      refine (HM1.out _ Lt.out).mono ?_
      rintro _ w13 ⟨Am, cm, rfl, o13, b13⟩
      try dsimp only at o13
      have Lz := Go.Lib.hid (Lz.out.below b13)
      have Lf := Go.Lib.hid (Lf.out.below b13)
      have Lp := Go.Lib.hid (Lp.out.below b13)
      have Lq := Go.Lib.hid (Lq.out.below b13)
      have Lx := Go.Lib.hid (Lx.out.below b13)
      have Le := Go.Lib.hid (Le.out.below b13)
      have Lt := Go.Lib.hid (Lt.out.below b13)
      have La := Go.Lib.hid (La.out.below b13)
      have Lb := Go.Lib.hid (Lb.out.below b13)
      have Ly := Go.Lib.hid (Ly.out.below b13)
      have Lu := Go.Lib.hid (Lu.out.below b13)
      have Lv := Go.Lib.hid (Lv.out.below b13)
      have HW := Go.Lib.hid (HW.out.trans (b13.mono HW.out.size))
      have Lm := Go.Lib.hid (lst0 o13 (by omega))
      clear o13 b13
      go_wp2_with fail
      refine (HM2.out _ _ _ La.out Le.out Lm.out).mono ?_
      rintro _ w14 ⟨Ar, cr, rfl, o14, b14⟩
      try dsimp only at o14
      have Lz := Go.Lib.hid (Lz.out.below b14)
      have Lf := Go.Lib.hid (Lf.out.below b14)
      have Lp := Go.Lib.hid (Lp.out.below b14)
      have Lq := Go.Lib.hid (Lq.out.below b14)
      have Lx := Go.Lib.hid (Lx.out.below b14)
      have Le := Go.Lib.hid (Le.out.below b14)
      have Lt := Go.Lib.hid (Lt.out.below b14)
      have La := Go.Lib.hid (La.out.below b14)
      have Lb := Go.Lib.hid (Lb.out.below b14)
      have Ly := Go.Lib.hid (Ly.out.below b14)
      have Lu := Go.Lib.hid (Lu.out.below b14)
      have Lv := Go.Lib.hid (Lv.out.below b14)
      have Lm := Go.Lib.hid (Lm.out.below b14)
      have HW := Go.Lib.hid (HW.out.trans (b14.mono HW.out.size))
      have Lr := Go.Lib.hid (lst0 o14 (by omega))
      clear o14 b14
      have HE := Go.Lib.hid (likeInts_same _ _ _ cr cx _ _ _ _ _ _ Lr.out.rd Lx.out.rd (by first | omega | simp))
      go_wp2_with fail
      refine HE.out.mono ?_
      rintro _ w15 ⟨rfl, x15, e15⟩
      have b15 := below_of_drewN e15
      have Lz := Go.Lib.hid (Lz.out.below b15)
      have Lf := Go.Lib.hid (Lf.out.below b15)
      have Lp := Go.Lib.hid (Lp.out.below b15)
      have Lq := Go.Lib.hid (Lq.out.below b15)
      have Lx := Go.Lib.hid (Lx.out.below b15)
      have Le := Go.Lib.hid (Le.out.below b15)
      have Lt := Go.Lib.hid (Lt.out.below b15)
      have La := Go.Lib.hid (La.out.below b15)
      have Lb := Go.Lib.hid (Lb.out.below b15)
      have Ly := Go.Lib.hid (Ly.out.below b15)
      have Lu := Go.Lib.hid (Lu.out.below b15)
      have Lv := Go.Lib.hid (Lv.out.below b15)
      have Lm := Go.Lib.hid (Lm.out.below b15)
      have Lr := Go.Lib.hid (Lr.out.below b15)
      have HW := Go.Lib.hid (HW.out.trans (b15.mono HW.out.size))
      clear b15 e15 HE
      by_cases hpc : pc = 0
      case neg =>
        have hpb : (pc != 0) = true := by simpa using hpc
        go_wp2_with fail
        go_ret
        exact ⟨rfl, HW.out⟩
      case pos =>
        subst hpc
        have hL := HLE.out rfl
        have h10 := hL.dev.hi
        have h4 := hL.dev.lo
        have hpn := hL.len
        obtain ⟨hd8, ha8, ht8, hi8⟩ := least_after hL
        have hul8 : (afterI zs s p).length = zs.length := afterI_len zs s p
        have HT1 := Go.Lib.hid (fun w0 L0 L1 L2 => implAfterPlan Bz cz zs Bf cf s Ap cp p w0 L0 L1 L2 _ rfl)
        rw [ha8] at HT1
        have HI1 := Go.Lib.hid (fun D d w0 L0 => implIsTrue D d (afterI zs s p) tol w0 L0)
        rw [ht8] at HI1
        have HI2 := Go.Lib.hid (fun w0 L0 => implIsTrue Bz cz zs tol w0 L0)
        rw [hi8] at HI2
        have HNO := Go.Lib.hid hL.none
        have hmo := hL.most
        have HRG := Go.Lib.hid hL.rng
        have HTK := Go.Lib.hid (fun (k : Nat) (hk : k < p.length) => effI_take_succ hk)
        have HTL := Go.Lib.hid (fun k => effI_take_le p k)
        have HTG := Go.Lib.hid (fun k => effI_nonneg (p.take k))
        have HT0 := Go.Lib.hid (effI_take_nil p)
        clear hL hd8 ha8 ht8 hi8
        generalize afterI zs s p = us at *
        have hus : us.length ≤ 13 := by omega
        have hps : p.length ≤ 13 := by omega
        clear hul8 hpn h4 h10
        go_wp2_with fail
        refine (HT1.out _ Lz.out Lf.out Lp.out).mono ?_
        rintro _ w16 ⟨Ad, cd, rfl, o16, b16⟩
        try dsimp only at o16
        have Lz := Go.Lib.hid (Lz.out.below b16)
        have Lf := Go.Lib.hid (Lf.out.below b16)
        have Lp := Go.Lib.hid (Lp.out.below b16)
        have Lq := Go.Lib.hid (Lq.out.below b16)
        have Lx := Go.Lib.hid (Lx.out.below b16)
        have Le := Go.Lib.hid (Le.out.below b16)
        have Lt := Go.Lib.hid (Lt.out.below b16)
        have La := Go.Lib.hid (La.out.below b16)
        have Lb := Go.Lib.hid (Lb.out.below b16)
        have Ly := Go.Lib.hid (Ly.out.below b16)
        have Lu := Go.Lib.hid (Lu.out.below b16)
        have Lv := Go.Lib.hid (Lv.out.below b16)
        have Lm := Go.Lib.hid (Lm.out.below b16)
        have Lr := Go.Lib.hid (Lr.out.below b16)
        have HW := Go.Lib.hid (HW.out.trans (b16.mono HW.out.size))
        have Ld := Go.Lib.hid (lst0 o16 (by omega))
        clear o16 b16
        go_wp2_with fail
        refine (HI1.out _ _ _ Ld.out).mono ?_
        rintro _ w17 ⟨rfl, b17⟩
        have Lz := Go.Lib.hid (Lz.out.below b17)
        have Lf := Go.Lib.hid (Lf.out.below b17)
        have Lp := Go.Lib.hid (Lp.out.below b17)
        have Lq := Go.Lib.hid (Lq.out.below b17)
        have Lx := Go.Lib.hid (Lx.out.below b17)
        have Le := Go.Lib.hid (Le.out.below b17)
        have Lt := Go.Lib.hid (Lt.out.below b17)
        have La := Go.Lib.hid (La.out.below b17)
        have Lb := Go.Lib.hid (Lb.out.below b17)
        have Ly := Go.Lib.hid (Ly.out.below b17)
        have Lu := Go.Lib.hid (Lu.out.below b17)
        have Lv := Go.Lib.hid (Lv.out.below b17)
        have Lm := Go.Lib.hid (Lm.out.below b17)
        have Lr := Go.Lib.hid (Lr.out.below b17)
        have Ld := Go.Lib.hid (Ld.out.below b17)
        have HW := Go.Lib.hid (HW.out.trans (b17.mono HW.out.size))
        clear b17
        go_wp2_with fail
        refine (HI2.out _ Lz.out).mono ?_
        rintro _ w18 ⟨rfl, b18⟩
        have Lz := Go.Lib.hid (Lz.out.below b18)
        have Lf := Go.Lib.hid (Lf.out.below b18)
        have Lp := Go.Lib.hid (Lp.out.below b18)
        have Lq := Go.Lib.hid (Lq.out.below b18)
        have Lx := Go.Lib.hid (Lx.out.below b18)
        have Le := Go.Lib.hid (Le.out.below b18)
        have Lt := Go.Lib.hid (Lt.out.below b18)
        have La := Go.Lib.hid (La.out.below b18)
        have Lb := Go.Lib.hid (Lb.out.below b18)
        have Ly := Go.Lib.hid (Ly.out.below b18)
        have Lu := Go.Lib.hid (Lu.out.below b18)
        have Lv := Go.Lib.hid (Lv.out.below b18)
        have Lm := Go.Lib.hid (Lm.out.below b18)
        have Lr := Go.Lib.hid (Lr.out.below b18)
        have Ld := Go.Lib.hid (Ld.out.below b18)
        have HW := Go.Lib.hid (HW.out.trans (b18.mono HW.out.size))
        clear b18
        go_wp2_with fail
        go_loopw [32, 33] (fun t i wr => ∃ k : Nat, k ≤ p.length ∧ i = .int .i64 k ∧ t = .int .i64 (effI (p.take k)) ∧ Eqw w18 wr) (fun _ i _ => p.length - (intOf i).toNat)
        case atStart => exact ⟨0, Nat.zero_le _, rfl, by rw [HT0.out], Eqw.refl _⟩
        case round =>
          obtain ⟨k, hk, rfl, rfl, hw⟩ := hrel
          have HQ := Go.Lib.hid hw
          by_cases hlt : k < p.length
          case pos =>
            obtain ⟨pb, po, hAp, -, hcc⟩ := (Lp.out.eqw hw).at_ hlt
            subst hAp
            have hcell := hcc k hlt
            have HSU := Go.Lib.hid (HTK.out k hlt)
            have hx := rngB_at HRG.out hlt
            have ht0 := HTG.out k
            have ht1 := HTL.out k
            have ht2 := HTL.out (k + 1)
            have ht3 := HTG.out (k + 1)
            clear hcc hw
            rw [HSU.out] at ht2 ht3
            generalize p.getD k 0 = y at *
            generalize effI (p.take k) = t at *
            obtain ⟨y0, y1⟩ := hx
            have hkl : (k : Int) < p.length := by omega
            have e1 : IntKind.i64.wrap (-y) = -y := IntWalk.i64_in _ (by omega)
            have e2 : IntKind.i64.wrap (t + max y (-y)) = t + max y (-y) := IntWalk.i64_in _ (by omega)
            clear hmo ht2 ht3
            go_upto_region 28 with fail
            go_quiet (fail)
            go_wp2_with fail
            go_roundw
            case rel => exact ⟨k + 1, by omega, by go_num, by rw [HSU.out], HQ.out.drewN _⟩
            case measure => simp [intOf]; omega
          case neg =>
            obtain rfl : k = p.length := by omega
            rw [List.take_length]
            have hno := HNO.out
            have HW2 := Go.Lib.hid (HW.out.trans (hw.below.mono HW.out.size))
            clear hw
            generalize effI p = t at *
            generalize trueB zs tol = tb at *
            by_cases h0 : t = 0
            · have h1 := hno.2 h0
              subst h0
              subst h1
              clear hno hmo
              go_wp2_with fail
              go_ret
              exact ⟨rfl, HW2.out⟩
            · have h1 : tb = false := by cases tb; rfl; exact absurd (hno.1 rfl) h0
              have h2 : (t == 0) = false := by simpa using h0
              subst h1
              clear hno
              go_wp2_with fail
              go_ret
              exact ⟨rfl, HW2.out⟩
    case neg =>
      have hab : (ac == 0) = false := by simpa using hac
      by_cases hpc : pc = 0
      case neg =>
        have hpb : (pc != 0) = true := by simpa using hpc
        go_wp2_with fail
        go_ret
        exact ⟨rfl, HW.out⟩
      case pos =>
        subst hpc
        have hL := HLE.out rfl
        have h10 := hL.dev.hi
        have h4 := hL.dev.lo
        have hpn := hL.len
        obtain ⟨hd8, ha8, ht8, hi8⟩ := least_after hL
        have hul8 : (afterI zs s p).length = zs.length := afterI_len zs s p
        have HT1 := Go.Lib.hid (fun w0 L0 L1 L2 => implAfterPlan Bz cz zs Bf cf s Ap cp p w0 L0 L1 L2 _ rfl)
        rw [ha8] at HT1
        have HI1 := Go.Lib.hid (fun D d w0 L0 => implIsTrue D d (afterI zs s p) tol w0 L0)
        rw [ht8] at HI1
        have HI2 := Go.Lib.hid (fun w0 L0 => implIsTrue Bz cz zs tol w0 L0)
        rw [hi8] at HI2
        have HNO := Go.Lib.hid hL.none
        have hmo := hL.most
        have HRG := Go.Lib.hid hL.rng
        have HTK := Go.Lib.hid (fun (k : Nat) (hk : k < p.length) => effI_take_succ hk)
        have HTL := Go.Lib.hid (fun k => effI_take_le p k)
        have HTG := Go.Lib.hid (fun k => effI_nonneg (p.take k))
        have HT0 := Go.Lib.hid (effI_take_nil p)
        clear hL hd8 ha8 ht8 hi8
        generalize afterI zs s p = us at *
        have hus : us.length ≤ 13 := by omega
        have hps : p.length ≤ 13 := by omega
        clear hul8 hpn h4 h10
        go_wp2_with fail
        refine (HT1.out _ Lz.out Lf.out Lp.out).mono ?_
        rintro _ w19 ⟨Ad, cd, rfl, o19, b19⟩
        try dsimp only at o19
        have Lz := Go.Lib.hid (Lz.out.below b19)
        have Lf := Go.Lib.hid (Lf.out.below b19)
        have Lp := Go.Lib.hid (Lp.out.below b19)
        have Lq := Go.Lib.hid (Lq.out.below b19)
        have Lx := Go.Lib.hid (Lx.out.below b19)
        have Le := Go.Lib.hid (Le.out.below b19)
        have Lt := Go.Lib.hid (Lt.out.below b19)
        have La := Go.Lib.hid (La.out.below b19)
        have Lb := Go.Lib.hid (Lb.out.below b19)
        have Ly := Go.Lib.hid (Ly.out.below b19)
        have Lu := Go.Lib.hid (Lu.out.below b19)
        have Lv := Go.Lib.hid (Lv.out.below b19)
        have HW := Go.Lib.hid (HW.out.trans (b19.mono HW.out.size))
        have Ld := Go.Lib.hid (lst0 o19 (by omega))
        clear o19 b19
        go_wp2_with fail
        refine (HI1.out _ _ _ Ld.out).mono ?_
        rintro _ w20 ⟨rfl, b20⟩
        have Lz := Go.Lib.hid (Lz.out.below b20)
        have Lf := Go.Lib.hid (Lf.out.below b20)
        have Lp := Go.Lib.hid (Lp.out.below b20)
        have Lq := Go.Lib.hid (Lq.out.below b20)
        have Lx := Go.Lib.hid (Lx.out.below b20)
        have Le := Go.Lib.hid (Le.out.below b20)
        have Lt := Go.Lib.hid (Lt.out.below b20)
        have La := Go.Lib.hid (La.out.below b20)
        have Lb := Go.Lib.hid (Lb.out.below b20)
        have Ly := Go.Lib.hid (Ly.out.below b20)
        have Lu := Go.Lib.hid (Lu.out.below b20)
        have Lv := Go.Lib.hid (Lv.out.below b20)
        have Ld := Go.Lib.hid (Ld.out.below b20)
        have HW := Go.Lib.hid (HW.out.trans (b20.mono HW.out.size))
        clear b20
        go_wp2_with fail
        refine (HI2.out _ Lz.out).mono ?_
        rintro _ w21 ⟨rfl, b21⟩
        have Lz := Go.Lib.hid (Lz.out.below b21)
        have Lf := Go.Lib.hid (Lf.out.below b21)
        have Lp := Go.Lib.hid (Lp.out.below b21)
        have Lq := Go.Lib.hid (Lq.out.below b21)
        have Lx := Go.Lib.hid (Lx.out.below b21)
        have Le := Go.Lib.hid (Le.out.below b21)
        have Lt := Go.Lib.hid (Lt.out.below b21)
        have La := Go.Lib.hid (La.out.below b21)
        have Lb := Go.Lib.hid (Lb.out.below b21)
        have Ly := Go.Lib.hid (Ly.out.below b21)
        have Lu := Go.Lib.hid (Lu.out.below b21)
        have Lv := Go.Lib.hid (Lv.out.below b21)
        have Ld := Go.Lib.hid (Ld.out.below b21)
        have HW := Go.Lib.hid (HW.out.trans (b21.mono HW.out.size))
        clear b21
        go_wp2_with fail
        go_loopw [32, 33] (fun t i wr => ∃ k : Nat, k ≤ p.length ∧ i = .int .i64 k ∧ t = .int .i64 (effI (p.take k)) ∧ Eqw w21 wr) (fun _ i _ => p.length - (intOf i).toNat)
        case atStart => exact ⟨0, Nat.zero_le _, rfl, by rw [HT0.out], Eqw.refl _⟩
        case round =>
          obtain ⟨k, hk, rfl, rfl, hw⟩ := hrel
          have HQ := Go.Lib.hid hw
          by_cases hlt : k < p.length
          case pos =>
            obtain ⟨pb, po, hAp, -, hcc⟩ := (Lp.out.eqw hw).at_ hlt
            subst hAp
            have hcell := hcc k hlt
            have HSU := Go.Lib.hid (HTK.out k hlt)
            have hx := rngB_at HRG.out hlt
            have ht0 := HTG.out k
            have ht1 := HTL.out k
            have ht2 := HTL.out (k + 1)
            have ht3 := HTG.out (k + 1)
            clear hcc hw
            rw [HSU.out] at ht2 ht3
            generalize p.getD k 0 = y at *
            generalize effI (p.take k) = t at *
            obtain ⟨y0, y1⟩ := hx
            have hkl : (k : Int) < p.length := by omega
            have e1 : IntKind.i64.wrap (-y) = -y := IntWalk.i64_in _ (by omega)
            have e2 : IntKind.i64.wrap (t + max y (-y)) = t + max y (-y) := IntWalk.i64_in _ (by omega)
            clear hmo ht2 ht3
            go_upto_region 28 with fail
            go_quiet (fail)
            go_wp2_with fail
            go_roundw
            case rel => exact ⟨k + 1, by omega, by go_num, by rw [HSU.out], HQ.out.drewN _⟩
            case measure => simp [intOf]; omega
          case neg =>
            obtain rfl : k = p.length := by omega
            rw [List.take_length]
            have hno := HNO.out
            have HW2 := Go.Lib.hid (HW.out.trans (hw.below.mono HW.out.size))
            clear hw
            generalize effI p = t at *
            generalize trueB zs tol = tb at *
            by_cases h0 : t = 0
            · have h1 := hno.2 h0
              subst h0
              subst h1
              clear hno hmo
              go_wp2_with fail
              go_ret
              exact ⟨rfl, HW2.out⟩
            · have h1 : tb = false := by cases tb; rfl; exact absurd (hno.1 rfl) h0
              have h2 : (t == 0) = false := by simpa using h0
              subst h1
              clear hno
              go_wp2_with fail
              go_ret
              exact ⟨rfl, HW2.out⟩

set_option maxRecDepth 100000 in
theorem lifted (os : Os) (started : os.Started) (H : Type) (enc : TypeId × Value → H) :
    ReturnsInHanded {} Try.checked os 3 .any (Rows.fnPlansSpec.pre6 enc Try.prog Try.f3 Rows.fnPlansRow.domain false) (Rows.fnPlansSpec.post enc Try.prog Try.f3 false true false false) := by
  refine returnsInHanded_of_change_sized (C := Try.checked) own started (by kernel_rfl) Try.func3
    (ChangeSpec.witness6 (enc := enc) (C := Try.checked) false ⟨#[], #[.slice none 0 0], []⟩ 8 (by kernel_rfl) (by kernel_rfl) (by kernel_rfl) (by kernel_rfl)) ?_
  intro W base args ds gs before hval0 hW hcnd hsz0 _
  have hsz : (DataW.weightsEach Try.prog (Try.f3.params.toList ++ Rows.fnPlansSpec.plain.varTypes Try.prog) (ds ++ gs)).all (· ≤ reachBytes) = true := hsz0
  clear hsz0
  have hval : ∀ (j : Nat) t v, Try.f3.params[j]? = some t → args[j]? = some v → Value.okWide Try.prog W .any base t v := hval0
  clear hval0
  have hW' := hW
  obtain ⟨p, q, hA0, hV, rfl, hfz, hnd⟩ := hW
  have hA : DataW.TrodAll enc Try.prog W 0 (fun _ => true) true Try.f3.params.toList args.toList ds p := hA0
  rw [Try.params3] at hA hval hsz
  obtain ⟨v0, vs0, d0, ds0, p0, q0, hargs, rfl, rfl, h0, r0⟩ := trodAll_cons hA
  obtain ⟨rfl, rfl, rfl⟩ := trodAll_nil r0
  obtain rfl : args = #[v0] := by cases args; simp_all
  obtain ⟨rfl, rfl⟩ := trodVars_none hV
  obtain ⟨a0, len0, cap0, rfl⟩ := okWide_slice Try.underlying22 (hval 0 22 v0 rfl rfl)
  have k0 := h0
  have lt0 : ∀ x ∈ p0, x.block < W.heap.size := by obtain ⟨m, hm⟩ := k0; exact DataW.trod_lt m _ _ _ hm
  obtain ⟨⟨z0, rd0, sz0⟩, hlc0, hp0⟩ := open_list_bytes h0
  have reach0 : len0 * 1 ≤ 140737488351232 := by
    rcases hp0 with hp0 | ⟨E0, S0, rfl, hl0⟩
    · omega
    · have := sized_slice hsz (j := 0) (t := 22) (e := 5) rfl rfl Try.underlying22
      rw [show Try.prog.bytesOf 5 = 1 by kernel_rfl] at this
      simp only [reachBytes] at this
      omega
  clear hA0
  refine (walk a0 len0 cap0 z0 W rd0 reach0 sz0).mono fun e W' ⟨he, bel⟩ => ?_
  subst he
  exact ⟨_, rfl, _, _, _, [], _, [], hW', trodAll_mk1 (shut_bool Try.underlying4 _), (trodAll_cons_mk (Below.trod laidOut (by kernel_rfl) (of_decide_eq_true (by kernel_rfl)) k0 bel lt0) trodAll_mk0), rfl, bel.frame _, fun h => by cases h⟩

theorem over : Rows.fnPlansRow.holds Try.pinned (OpenSpec.ofChange Rows.fnPlansSpec) :=
  OpenClaim.holds_of_wide 3 Try.f3 rfl rfl rfl rfl rfl rfl rfl ⟨rfl, rfl, rfl, rfl, rfl⟩ rfl rfl rfl rfl rfl (by kernel_rfl) Try.func3 (by kernel_rfl)
    (of_decide_eq_true (by kernel_rfl)) (by unfold Func.isWrapper; first | (rw [if_pos (by decide +kernel)]; kernel_rfl) | (rw [if_neg (by decide +kernel)]; exact ⟨rfl, rfl⟩))
    (fun os started H enc _ => lifted os started H enc)

theorem proved : Rows.FnPlansSaid := over
end Go.Proofs.Ytpcaakmcjdginaa.fnPlans
