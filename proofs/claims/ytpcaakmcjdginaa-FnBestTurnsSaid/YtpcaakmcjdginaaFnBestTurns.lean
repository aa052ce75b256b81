/- The best turn makes the sum of squares less, and no other turn makes it less than that: at every draw. -/
import Derived.Test.YtpcaakmcjdginaaRows
import Derived.Test.YtpcaakmcjdginaaTruLaw
import Derived.Test.YtpcaakmcjdginaaBig
import Derived.Test.YtpcaakmcjdginaaOpenB
import Derived.Test.YtpcaakmcjdginaaLikesI
import Derived.Test.YtpcaakmcjdginaaInts
import Derived.WalkKit
import Derived.ProofKit
import Derived.OpenShut
import Derived.ShutString
import Derived.SizedLaws
namespace Go.Proofs.Ytpcaakmcjdginaa.fnBestTurns
open Go.ChangeShapes Go.WideShapes Go.ChangeAt Go.RowKit
open Go.ChangeMaps (open_string shut_string)
set_option linter.unusedVariables false

set_option linter.unusedSimpArgs false
set_option maxRecDepth 100000 in
set_option maxHeartbeats 16000000 in
theorem walk (A : Option Addr) (n cap : Nat) (bs : List Int) (w : World) (h : Rd w 0 w.heap.size A n (byts bs)) (hn : n * 1 ≤ 140737488351232) (hs : ∀ z ∈ bs, 0 ≤ z ∧ z ≤ 255) :
    Calls Try.prog 4 #[.slice A n cap] w fun e w' => e = .returned (.bool true) ∧ Below w.heap.size w w' := by
  have HB := Go.Lib.hid (big_ A n cap w)
  by_cases hbig : (4096 : Int) < n
  · go_enter Try.func4, Try.ntmps4
    go_wp2_with fail
    refine HB.out.mono ?_
    rintro e w' ⟨rfl, rfl⟩
    go_wp2_with fail
    go_ret
    exact ⟨rfl, Below.refl _ _⟩
  · have hb2 := big_ A n cap w
    rw [decide_eq_false hbig] at hb2
    have HB2 := Go.Lib.hid hb2
    have HRD := Go.Lib.hid (fun w1 (hb : Below w.heap.size w w1) => (h.below hb (Nat.le_refl _)).mono (Nat.le_refl _) hb.size)
    have HW := Go.Lib.hid (Below.refl w.heap.size w)
    clear hb2 HB hbig h
    have hnn : n ≤ 140737488355328 := by omega
    clear hn
    go_enter Try.func4, Try.ntmps4
    go_wp2_with fail
    refine HB2.out.mono ?_
    rintro e w' ⟨rfl, rfl⟩
    have HD := Go.Lib.hid (drawBestTurn A n cap bs _ (HRD.out _ HW.out) hs hnn)
    go_wp2_with fail
    refine HD.out.mono ?_
    rintro _ w1 ⟨zs, Bz, cz, s, Bf, cf, rfl, hlz, hls, lz, lf, b1⟩
    have HW := Go.Lib.hid (HW.out.trans (b1.mono HW.out.size))
    have Lz := Go.Lib.hid lz
    have Lf := Go.Lib.hid lf
    clear lz lf b1 HD
    obtain ⟨hlz0, hlz1⟩ := hlz
    obtain ⟨hls0, hls1⟩ := hls
    obtain ⟨k, q, c, hB⟩ := best_triple zs s
    have HB1 := Go.Lib.hid (fun w0 L0 L1 => implBestTurn Bz cz zs Bf cf s w0 L0 L1 _ rfl)
    have HB2 := Go.Lib.hid (fun w0 L0 L1 => specBestTurn Bz cz zs Bf cf s w0 L0 L1 _ rfl)
    rw [hB] at HB1 HB2
    dsimp only at HB1 HB2
    have HBO := Go.Lib.hid (fun (h : c = 0) => best_ok (zs := zs) (e := s) (k := k) (q := q) (by rw [hB, h]))
    clear hB
    go_wp2_with fail
    refine (HB1.out _ Lz.out Lf.out).mono ?_
    rintro _ w2 ⟨rfl, b2⟩
    have Lz := Go.Lib.hid (Lz.out.below b2)
    have Lf := Go.Lib.hid (Lf.out.below b2)
    have HW := Go.Lib.hid (HW.out.trans (b2.mono HW.out.size))
    clear b2
    go_wp2_with fail
    refine (HB2.out _ Lz.out Lf.out).mono ?_
    rintro _ w3 ⟨rfl, b3⟩
    have Lz := Go.Lib.hid (Lz.out.below b3)
    have Lf := Go.Lib.hid (Lf.out.below b3)
    have HW := Go.Lib.hid (HW.out.trans (b3.mono HW.out.size))
    clear b3
    have HD := Go.Lib.hid (drawTrueByTurns A n cap bs _ (HRD.out _ HW.out) hs hnn)
    go_wp2_with fail
    refine HD.out.mono ?_
    rintro _ w4 ⟨xs, Bx, cx, es, Be, ce, most, rfl, hlx, hle, lx, le, b4⟩
    have Lz := Go.Lib.hid (Lz.out.below b4)
    have Lf := Go.Lib.hid (Lf.out.below b4)
    have HW := Go.Lib.hid (HW.out.trans (b4.mono HW.out.size))
    have Lx := Go.Lib.hid lx
    have Le := Go.Lib.hid le
    clear lx le b4 HD
    obtain ⟨hlx0, hlx1⟩ := hlx
    obtain ⟨hle0, hle1⟩ := hle
    obtain ⟨p, pc, hP, hpl⟩ := by_pair xs es most
    have HP1 := Go.Lib.hid (fun w0 L0 L1 => implBy Bx cx xs Be ce es most w0 L0 L1 _ rfl)
    have HP2 := Go.Lib.hid (fun w0 L0 L1 => specBy Bx cx xs Be ce es most w0 L0 L1 _ rfl)
    rw [hP] at HP1 HP2
    clear hP
    go_wp2_with fail
    refine (HP1.out _ Lx.out Le.out).mono ?_
    rintro _ w5 ⟨Ap, cp, rfl, o5, b5⟩
    try dsimp only at o5
    have Lz := Go.Lib.hid (Lz.out.below b5)
    have Lf := Go.Lib.hid (Lf.out.below b5)
    have Lx := Go.Lib.hid (Lx.out.below b5)
    have Le := Go.Lib.hid (Le.out.below b5)
    have HW := Go.Lib.hid (HW.out.trans (b5.mono HW.out.size))
    have Lp := Go.Lib.hid (lst0 o5 (by omega))
    clear o5 b5
    go_wp2_with fail
    refine (HP2.out _ Lx.out Le.out).mono ?_
    rintro _ w6 ⟨Av, cv, rfl, o6, b6⟩
    try dsimp only at o6
    have Lz := Go.Lib.hid (Lz.out.below b6)
    have Lf := Go.Lib.hid (Lf.out.below b6)
    have Lx := Go.Lib.hid (Lx.out.below b6)
    have Le := Go.Lib.hid (Le.out.below b6)
    have Lp := Go.Lib.hid (Lp.out.below b6)
    have HW := Go.Lib.hid (HW.out.trans (b6.mono HW.out.size))
    have Lv := Go.Lib.hid (lst0 o6 (by omega))
    clear o6 b6
    obtain ⟨m, mc, hM, hmd⟩ := worst_pair zs
    have HM1 := Go.Lib.hid (fun w0 L0 => implWorst Bz cz zs w0 L0)
    have HM2 := Go.Lib.hid (fun w0 L0 => specWorst Bz cz zs w0 L0)
    rw [hM] at HM1 HM2
    obtain ⟨d, dc, hD⟩ := dish_pair zs
    have HD1 := Go.Lib.hid (fun w0 L0 => implDish Bz cz zs w0 L0)
    have HD2 := Go.Lib.hid (fun w0 L0 => specDish Bz cz zs w0 L0)
    rw [hD] at HD1 HD2
    clear hD
    have HMV := Go.Lib.hid hM
    clear hM
    go_wp2_with fail
    refine (HM1.out _ Lz.out).mono ?_
    rintro _ w7 ⟨rfl, b7⟩
    have Lz := Go.Lib.hid (Lz.out.below b7)
    have Lf := Go.Lib.hid (Lf.out.below b7)
    have Lx := Go.Lib.hid (Lx.out.below b7)
    have Le := Go.Lib.hid (Le.out.below b7)
    have Lp := Go.Lib.hid (Lp.out.below b7)
    have Lv := Go.Lib.hid (Lv.out.below b7)
    have HW := Go.Lib.hid (HW.out.trans (b7.mono HW.out.size))
    clear b7
    go_wp2_with fail
    refine (HM2.out _ Lz.out).mono ?_
    rintro _ w8 ⟨rfl, b8⟩
    have Lz := Go.Lib.hid (Lz.out.below b8)
    have Lf := Go.Lib.hid (Lf.out.below b8)
    have Lx := Go.Lib.hid (Lx.out.below b8)
    have Le := Go.Lib.hid (Le.out.below b8)
    have Lp := Go.Lib.hid (Lp.out.below b8)
    have Lv := Go.Lib.hid (Lv.out.below b8)
    have HW := Go.Lib.hid (HW.out.trans (b8.mono HW.out.size))
    clear b8
    go_wp2_with fail
    refine (HD1.out _ Lz.out).mono ?_
    rintro _ w9 ⟨rfl, b9⟩
    have Lz := Go.Lib.hid (Lz.out.below b9)
    have Lf := Go.Lib.hid (Lf.out.below b9)
    have Lx := Go.Lib.hid (Lx.out.below b9)
    have Le := Go.Lib.hid (Le.out.below b9)
    have Lp := Go.Lib.hid (Lp.out.below b9)
    have Lv := Go.Lib.hid (Lv.out.below b9)
    have HW := Go.Lib.hid (HW.out.trans (b9.mono HW.out.size))
    clear b9
    go_wp2_with fail
    refine (HD2.out _ Lz.out).mono ?_
    rintro _ w10 ⟨rfl, b10⟩
    have Lz := Go.Lib.hid (Lz.out.below b10)
    have Lf := Go.Lib.hid (Lf.out.below b10)
    have Lx := Go.Lib.hid (Lx.out.below b10)
    have Le := Go.Lib.hid (Le.out.below b10)
    have Lp := Go.Lib.hid (Lp.out.below b10)
    have Lv := Go.Lib.hid (Lv.out.below b10)
    have HW := Go.Lib.hid (HW.out.trans (b10.mono HW.out.size))
    clear b10
    have HDE := Go.Lib.hid (fun w0 L0 => implDev Bz cz zs w0 L0)
    have hq1 : (c != c) = false := by simp
    have hq2 : (k != k) = false := by simp
    have hq3 : (q != q) = false := by simp
    have hq4 : (pc != pc) = false := by simp
    have hq5 : (mc != mc) = false := by simp
    have hq6 : (m != m) = false := by simp
    have hq7 : (dc != dc) = false := by simp
    have hq8 : (d != d) = false := by simp
    by_cases hd : devB zs = true
    case neg =>
      rw [Bool.not_eq_true] at hd
      have hc : c ≠ 0 := fun h0 => by have := devB_iff.2 (HBO.out h0).dev; rw [hd] at this; cases this
      rw [hd] at HDE hmd
      have hcb : (c != 0) = true := by simpa using hc
      clear hd hc
      have HE := Go.Lib.hid (likeInts_same _ _ _ cp cv _ _ _ _ _ _ Lp.out.rd Lv.out.rd (by first | omega | simp))
      go_wp2_with fail
      refine HE.out.mono ?_
      rintro _ w11 ⟨rfl, x11, e11⟩
      have b11 := below_of_drewN e11
      have Lz := Go.Lib.hid (Lz.out.below b11)
      have Lf := Go.Lib.hid (Lf.out.below b11)
      have Lx := Go.Lib.hid (Lx.out.below b11)
      have Le := Go.Lib.hid (Le.out.below b11)
      have Lp := Go.Lib.hid (Lp.out.below b11)
      have Lv := Go.Lib.hid (Lv.out.below b11)
      have HW := Go.Lib.hid (HW.out.trans (b11.mono HW.out.size))
      clear b11 e11 HE
      go_wp2_with fail
      refine (HDE.out _ Lz.out).mono ?_
      rintro _ _ ⟨rfl, rfl⟩
      go_wp2_with fail
      go_ret
      exact ⟨rfl, HW.out⟩
    case pos =>
      have hmc : mc = 0 := by rw [hd] at hmd; simpa using hmd
      subst hmc
      rw [hd] at HDE
      have hDv := devB_iff.1 hd
      have h4 := hDv.lo
      have h10 := hDv.hi
      have HDV := Go.Lib.hid hDv
      have hme : m = (worstTo zs zs.length : Nat) := by have h1 := HMV.out; unfold worstR at h1; rw [if_pos hd] at h1; injection h1 with h2 _; exact h2.symm
      subst hme
      have hwl := worstTo_lt (zs := zs) (by omega) zs.length (Nat.le_refl _)
      have HWG := Go.Lib.hid (fun i (hi : i < zs.length) => worstTo_ge (zs := zs) zs.length i hi)
      generalize worstTo zs zs.length = m at *
      clear hd hmd hDv HMV
      have HE := Go.Lib.hid (likeInts_same _ _ _ cp cv _ _ _ _ _ _ Lp.out.rd Lv.out.rd (by first | omega | simp))
      go_wp2_with fail
      refine HE.out.mono ?_
      rintro _ w12 ⟨rfl, x12, e12⟩
      have b12 := below_of_drewN e12
      have Lz := Go.Lib.hid (Lz.out.below b12)
      have Lf := Go.Lib.hid (Lf.out.below b12)
      have Lx := Go.Lib.hid (Lx.out.below b12)
      have Le := Go.Lib.hid (Le.out.below b12)
      have Lp := Go.Lib.hid (Lp.out.below b12)
      have Lv := Go.Lib.hid (Lv.out.below b12)
      have HW := Go.Lib.hid (HW.out.trans (b12.mono HW.out.size))
      clear b12 e12 HE
      go_wp2_with fail
      refine (HDE.out _ Lz.out).mono ?_
      rintro _ _ ⟨rfl, rfl⟩
      go_wp2_with fail
      go_loopw [26] (fun i wr => ∃ j : Nat, j ≤ zs.length ∧ i = .int .i64 j ∧ Eqw w12 wr) (fun i _ => zs.length - (intOf i).toNat)
      case atStart => exact ⟨0, Nat.zero_le _, rfl, Eqw.refl _⟩
      case round =>
        obtain ⟨i, hi, rfl, hw⟩ := hrel
        have HQ := Go.Lib.hid hw
        by_cases hlt : i < zs.length
        case pos =>
          obtain ⟨zb, zo, hAz, -, hcc⟩ := (Lz.out.eqw hw).at_ hlt
          subst hAz
          have hcell := hcc i hlt
          have hcell2 := hcc m hwl
          have hge := HWG.out i hlt
          have hx := HDV.out.bd i
          have hy := HDV.out.bd m
          unfold absAt at hge
          clear hcc hw
          generalize zs.getD i 0 = y at *
          generalize zs.getD m 0 = z at *
          obtain ⟨y0, y1⟩ := hx
          obtain ⟨z0, z1⟩ := hy
          have hil : (i : Int) < zs.length := by omega
          have hml : (m : Int) < zs.length := by omega
          have hm0 : (0 : Int) ≤ m := by omega
          have e1 : IntKind.i64.wrap (-y) = -y := IntWalk.i64_in _ (by omega)
          have e2 : IntKind.i64.wrap (-z) = -z := IntWalk.i64_in _ (by omega)
          have hng : ¬ max z (-z) < max y (-y) := by omega
          clear hge
          go_upto_region 19 with fail
          go_quiet (fail)
          go_wp2_with fail
          go_roundw
          case rel => exact ⟨i + 1, by omega, by go_num, HQ.out.drewN _⟩
          case measure => simp [intOf]; omega
        case neg =>
          obtain rfl : i = zs.length := by omega
          have Lz := Go.Lib.hid (Lz.out.eqw hw)
          have Lf := Go.Lib.hid (Lf.out.eqw hw)
          have Lx := Go.Lib.hid (Lx.out.eqw hw)
          have Le := Go.Lib.hid (Le.out.eqw hw)
          have Lp := Go.Lib.hid (Lp.out.eqw hw)
          have Lv := Go.Lib.hid (Lv.out.eqw hw)
          have HW := Go.Lib.hid (HW.out.trans (hw.below.mono HW.out.size))
          clear hw HQ HWG
          by_cases hc : c = 0
          case neg =>
            have hcb : (c != 0) = true := by simpa using hc
            go_wp2_with fail
            go_ret
            exact ⟨rfl, HW.out⟩
          case pos =>
            subst hc
            have hbo := HBO.out rfl
            have hk0 := hbo.k0
            obtain ⟨j, rfl⟩ := Int.eq_ofNat_of_zero_le hk0
            have hk1 := hbo.k1
            have hjn : j < zs.length := by omega
            have hqq : -1 ≤ q ∧ q ≤ 1 := by have := hbo.q1; omega
            obtain ⟨hqa, hqb⟩ := hqq
            have HLS := Go.Lib.hid hbo.less
            have HBE := Go.Lib.hid hbo.best
            rw [Int.toNat_natCast] at HLS HBE
            have HEF := Go.Lib.hid hbo.eff
            clear hbo hk0
            obtain ⟨i0, hi0, hz0, hz1, hz2⟩ := info_parts infoI64
            have HAF := Go.Lib.hid (fun (i : Nat) (r : Int) (hi : i < zs.length) (r0 : -100 ≤ r) (r1 : r ≤ 100) => after_of HDV.out HEF.out (oneT_len zs.length i r) (oneT_rng2 hi r0 r1))
            have HTQ := Go.Lib.hid (fun (i : Nat) (r : Int) => show turnSq zs s i r = sqS (afterI zs s (oneT zs.length i r)) from rfl)
            have HAP := Go.Lib.hid (fun i r (C : Option Addr) w0 L0 L1 L2 => implAfterPlan Bz cz zs Bf cf s C zs.length (oneT zs.length i r) w0 L0 L1 L2 _ rfl)
            have hj0 : (0 : Int) ≤ j := by omega
            have hjl : (j : Int) < zs.length := by omega
            go_wp2_with (at_make; refine wpList_make_full _ rfl _ _ 24 rfl wr.heap.size 2 i0 (.int .i64 0) 1 Try.underlying24 hi0 hz0 hz1 .i64 .i64 _ _ zs.length rfl rfl rfl rfl (by rw [hz2]; omega) (by unfold maxLen; omega) (Nat.le_refl _) ?_; intro wM hown hg; have ho := made_zero hown; have hcell := (ho.cell hjn).trans (ints_at (List.replicate zs.length 0) j (by simpa using hjn)); have hfr := ho.free j; have HTL := Go.Lib.hid (turned_ls (j := j) (q := q) ho (by omega)); have HTG := Go.Lib.hid (((Below.refl wr.heap.size wr).grown hg (Nat.le_refl _) (by simp)).setCell (p := ⟨wr.heap.size, j, none⟩) (Nat.le_refl _) (.int .i64 q)); clear hown hg ho)
            refine calls_gen (R := fun W2 => Ls (oneT zs.length j q) (some ⟨wr.heap.size, 0, none⟩) zs.length W2 ∧ Below wr.heap.size wr W2) ⟨HTL.out, HTG.out⟩ ?_
            rintro W2 ⟨hl2, b2⟩
            have Ln := Go.Lib.hid hl2
            have Lz := Go.Lib.hid (Lz.out.below b2)
            have Lf := Go.Lib.hid (Lf.out.below b2)
            have Lx := Go.Lib.hid (Lx.out.below b2)
            have Le := Go.Lib.hid (Le.out.below b2)
            have Lp := Go.Lib.hid (Lp.out.below b2)
            have Lv := Go.Lib.hid (Lv.out.below b2)
            have HW := Go.Lib.hid (HW.out.trans (b2.mono HW.out.size))
            clear hl2 b2 HTL HTG
            have HA1 := Go.Lib.hid (HAP.out j q)
            rw [oneT_len, HAF.out j q hjn (by omega) (by omega)] at HA1
            rw [HTQ.out] at HLS HBE
            by_cases hu : devB (afterI zs s (oneT zs.length j q)) = true
            case neg =>
              rw [if_neg hu] at HA1
              clear hu
              refine (HA1.out _ _ Lz.out Lf.out Ln.out).mono ?_
              rintro _ w13 ⟨Au, cu, rfl, o13, b13⟩
              try dsimp only at o13
              have Lz := Go.Lib.hid (Lz.out.below b13)
              have Lf := Go.Lib.hid (Lf.out.below b13)
              have Lx := Go.Lib.hid (Lx.out.below b13)
              have Le := Go.Lib.hid (Le.out.below b13)
              have Lp := Go.Lib.hid (Lp.out.below b13)
              have Lv := Go.Lib.hid (Lv.out.below b13)
              have Ln := Go.Lib.hid (Ln.out.below b13)
              have HW := Go.Lib.hid (HW.out.trans (b13.mono HW.out.size))
              have Lu := Go.Lib.hid (lst0 o13 (by simp))
              clear o13 b13
              go_wp2_with fail
              go_ret
              exact ⟨rfl, HW.out⟩
            case pos =>
              rw [if_pos hu] at HA1
              have HUD := Go.Lib.hid (devB_iff.1 hu)
              have hul : (afterI zs s (oneT zs.length j q)).length = zs.length := afterI_len _ _ _
              clear hu
              generalize afterI zs s (oneT zs.length j q) = us at *
              have hql : ((us.length : Int) != (zs.length : Int)) = false := by simp [hul]
              have hus : us.length ≤ 13 := by omega
              have HUL := Go.Lib.hid hul
              clear hul
              refine (HA1.out _ _ Lz.out Lf.out Ln.out).mono ?_
              rintro _ w14 ⟨Au, cu, rfl, o14, b14⟩
              try dsimp only at o14
              have Lz := Go.Lib.hid (Lz.out.below b14)
              have Lf := Go.Lib.hid (Lf.out.below b14)
              have Lx := Go.Lib.hid (Lx.out.below b14)
              have Le := Go.Lib.hid (Le.out.below b14)
              have Lp := Go.Lib.hid (Lp.out.below b14)
              have Lv := Go.Lib.hid (Lv.out.below b14)
              have Ln := Go.Lib.hid (Ln.out.below b14)
              have HW := Go.Lib.hid (HW.out.trans (b14.mono HW.out.size))
              have Lu := Go.Lib.hid (lst0 o14 (by omega))
              clear o14 b14
              go_wp2_with fail
              go_loopw [30, 31, 32] (fun t u i wx => ∃ h : Nat, h ≤ zs.length ∧ i = .int .i64 h ∧ t = .int .i64 (sqTo zs h) ∧ u = .int .i64 (sqTo us h) ∧ Eqw w14 wx) (fun _ _ i _ => zs.length - (intOf i).toNat)
              case atStart => exact ⟨0, Nat.zero_le _, rfl, rfl, rfl, Eqw.refl _⟩
              case round =>
                obtain ⟨h, hh, rfl, rfl, rfl, hw⟩ := hrel
                have HQ := Go.Lib.hid hw
                by_cases hlt : h < zs.length
                case pos =>
                  obtain ⟨zb, zo, hAz, -, hcc⟩ := (Lz.out.eqw hw).at_ hlt
                  subst hAz
                  have hcell := hcc h hlt
                  have hlu : h < us.length := by rw [HUL.out]; exact hlt
                  obtain ⟨ub, uo, hAu, -, hcd⟩ := (Lu.out.eqw hw).at_ hlu
                  subst hAu
                  have hcell2 := hcd h hlu
                  have HS1 := Go.Lib.hid (sq_succ zs h)
                  have HS2 := Go.Lib.hid (sq_succ us h)
                  have hs1 := sq_small HDV.out h hh
                  have hs2 := sq_small HUD.out h (by rw [HUL.out]; exact hh)
                  have ho1 := sq_one HDV.out h
                  have ho2 := sq_one HUD.out h
                  clear hcc hcd
                  generalize zs.getD h 0 = y at *
                  generalize us.getD h 0 = z at *
                  generalize sqTo zs h = t at *
                  generalize sqTo us h = u at *
                  obtain ⟨s10, s11⟩ := hs1
                  obtain ⟨s20, s21⟩ := hs2
                  obtain ⟨o10, o11⟩ := ho1
                  obtain ⟨o20, o21⟩ := ho2
                  have hhl : (h : Int) < zs.length := by omega
                  have hhu : (h : Int) < us.length := by omega
                  have e1 : IntKind.i64.wrap (y * y) = y * y := IntWalk.i64_in _ (by omega)
                  have e2 : IntKind.i64.wrap (z * z) = z * z := IntWalk.i64_in _ (by omega)
                  have e3 : IntKind.i64.wrap (t + y * y) = t + y * y := IntWalk.i64_in _ (by omega)
                  have e4 : IntKind.i64.wrap (u + z * z) = u + z * z := IntWalk.i64_in _ (by omega)
                  clear hw
                  go_upto_region 34 with fail
                  go_quiet (fail)
                  go_upto_region 35 with fail
                  go_quiet (fail)
                  go_wp2_with fail
                  go_roundw
                  case rel => exact ⟨h + 1, by omega, by go_num, by rw [HS1.out], by rw [HS2.out], HQ.out.drewN _⟩
                  case measure => simp [intOf]; omega
                case neg =>
                  obtain rfl : h = zs.length := by omega
                  have hE2 : sqTo us zs.length = sqS us := by rw [← HUL.out]; rfl
                  have hb1 := sq_small HDV.out zs.length (Nat.le_refl _)
                  have hb2 := sq_small HUD.out zs.length (by rw [HUL.out]; exact Nat.le_refl _)
                  rw [sq_all, hE2]
                  rw [sq_all] at hb1
                  rw [hE2] at hb2
                  have Lz := Go.Lib.hid (Lz.out.eqw hw)
                  have Lf := Go.Lib.hid (Lf.out.eqw hw)
                  have Lx := Go.Lib.hid (Lx.out.eqw hw)
                  have Le := Go.Lib.hid (Le.out.eqw hw)
                  have Lp := Go.Lib.hid (Lp.out.eqw hw)
                  have Lv := Go.Lib.hid (Lv.out.eqw hw)
                  have Ln := Go.Lib.hid (Ln.out.eqw hw)
                  have Lu := Go.Lib.hid (Lu.out.eqw hw)
                  have HW := Go.Lib.hid (HW.out.trans (hw.below.mono HW.out.size))
                  clear hw HQ hE2
                  have hless := HLS.out
                  generalize sqS zs = t at *
                  generalize sqS us = u at *
                  obtain ⟨t0, t1⟩ := hb1
                  obtain ⟨u0, u1⟩ := hb2
                  go_wp2_with (at_make; refine wpList_make_full _ rfl _ _ 24 rfl wr.heap.size 2 i0 (.int .i64 0) 1 Try.underlying24 hi0 hz0 hz1 .i64 .i64 _ _ zs.length rfl rfl rfl rfl (by rw [hz2]; omega) (by unfold maxLen; omega) (Nat.le_refl _) ?_; intro wM hown hg; have ho := made_zero hown; have HOO := Go.Lib.hid ho; have HBX := Go.Lib.hid ((Below.refl wr.heap.size wr).grown hg (Nat.le_refl _) (by simp)); clear hown hg ho)
                  refine (roll A n cap bs 801 _ (HRD.out _ (HW.out.trans (HBX.out.mono HW.out.size))) hs hnn).mono ?_
                  rintro _ wr1 ⟨g1, rfl, hg1, hd1, b1⟩
                  have HDI := Go.Lib.hid hd1
                  have HB1 := Go.Lib.hid b1
                  have HG1 := Go.Lib.hid hg1
                  clear hd1 b1 hg1
                  go_wp2_with fail
                  refine (below g1 A n cap bs zs.length _ HDI.out (by omega)).mono ?_
                  rintro _ wr2 ⟨r, rfl, r0, r1, k1⟩
                  have bR := HB1.out.trans (k1.below HG1.out HB1.out.size)
                  have HOO := Go.Lib.hid (HOO.out.below bR (Nat.le_refl _))
                  have HSZ := Go.Lib.hid bR.size
                  have HBX := Go.Lib.hid (HBX.out.trans (bR.mono HBX.out.size))
                  clear bR k1 HDI HB1 HG1
                  obtain ⟨i, rfl⟩ := Int.eq_ofNat_of_zero_le r0
                  have hin : i < zs.length := by omega
                  go_wp2_with fail
                  refine (roll A n cap bs 802 _ (HRD.out _ (HW.out.trans (HBX.out.mono HW.out.size))) hs hnn).mono ?_
                  rintro _ wr3 ⟨g2, rfl, hg2, hd2, b2⟩
                  have HDI := Go.Lib.hid hd2
                  have HB2 := Go.Lib.hid b2
                  have HG2 := Go.Lib.hid hg2
                  clear hd2 b2 hg2
                  go_wp2_with fail
                  refine (below g2 A n cap bs 2 _ HDI.out (by omega)).mono ?_
                  rintro _ wr4 ⟨f, rfl, f0, f1, k2⟩
                  have bR := HB2.out.trans (k2.below HG2.out HB2.out.size)
                  have HOO := Go.Lib.hid (HOO.out.below bR HSZ.out)
                  have HBX := Go.Lib.hid (HBX.out.trans (bR.mono HBX.out.size))
                  clear bR k2 HDI HB2 HG2 HSZ
                  have hcell := (HOO.out.cell hin).trans (ints_at (List.replicate zs.length 0) i (by simpa using hin))
                  have hfr := HOO.out.free i
                  have hil : (i : Int) < zs.length := by omega
                  have e1 : IntKind.i64.wrap (2 * f) = 2 * f := IntWalk.i64_in _ (by omega)
                  have e2 : IntKind.i64.wrap (2 * f - 1) = 2 * f - 1 := IntWalk.i64_in _ (by omega)
                  have HTL := Go.Lib.hid (turned_ls (j := i) (q := 2 * f - 1) HOO.out (by omega))
                  have HBX := Go.Lib.hid (HBX.out.setCell (p := ⟨wr.heap.size, i, none⟩) (Nat.le_refl _) (.int .i64 (2 * f - 1)))
                  have hbe := HBE.out i (2 * f - 1) hin (by omega)
                  rw [HTQ.out] at hbe
                  have HA2 := Go.Lib.hid (HAP.out i (2 * f - 1))
                  rw [oneT_len, HAF.out i (2 * f - 1) hin (by omega) (by omega)] at HA2
                  go_wp2_with fail
                  refine calls_gen (R := fun W2 => Ls (oneT zs.length i (2 * f - 1)) (some ⟨wr.heap.size, 0, none⟩) zs.length W2 ∧ Below wr.heap.size wr W2) ⟨HTL.out, HBX.out⟩ ?_
                  rintro W2 ⟨hl2, b2⟩
                  have Lo := Go.Lib.hid hl2
                  have Lz := Go.Lib.hid (Lz.out.below b2)
                  have Lf := Go.Lib.hid (Lf.out.below b2)
                  have Lx := Go.Lib.hid (Lx.out.below b2)
                  have Le := Go.Lib.hid (Le.out.below b2)
                  have Lp := Go.Lib.hid (Lp.out.below b2)
                  have Lv := Go.Lib.hid (Lv.out.below b2)
                  have Ln := Go.Lib.hid (Ln.out.below b2)
                  have Lu := Go.Lib.hid (Lu.out.below b2)
                  have HW := Go.Lib.hid (HW.out.trans (b2.mono HW.out.size))
                  clear hl2 b2 HTL HBX hcell hfr HOO
                  by_cases hv : devB (afterI zs s (oneT zs.length i (2 * f - 1))) = true
                  case neg =>
                    rw [if_neg hv] at HA2
                    clear hv hbe
                    refine (HA2.out _ _ Lz.out Lf.out Lo.out).mono ?_
                    rintro _ w15 ⟨Ay, cy, rfl, o15, b15⟩
                    try dsimp only at o15
                    have Lz := Go.Lib.hid (Lz.out.below b15)
                    have Lf := Go.Lib.hid (Lf.out.below b15)
                    have Lx := Go.Lib.hid (Lx.out.below b15)
                    have Le := Go.Lib.hid (Le.out.below b15)
                    have Lp := Go.Lib.hid (Lp.out.below b15)
                    have Lv := Go.Lib.hid (Lv.out.below b15)
                    have Ln := Go.Lib.hid (Ln.out.below b15)
                    have Lu := Go.Lib.hid (Lu.out.below b15)
                    have Lo := Go.Lib.hid (Lo.out.below b15)
                    have HW := Go.Lib.hid (HW.out.trans (b15.mono HW.out.size))
                    have Ly := Go.Lib.hid (lst0 o15 (by simp))
                    clear o15 b15
                    go_wp2_with fail
                    go_ret
                    exact ⟨rfl, HW.out⟩
                  case pos =>
                    rw [if_pos hv] at HA2
                    have HVD := Go.Lib.hid (devB_iff.1 hv)
                    have hvl : (afterI zs s (oneT zs.length i (2 * f - 1))).length = zs.length := afterI_len _ _ _
                    clear hv
                    generalize afterI zs s (oneT zs.length i (2 * f - 1)) = vs at *
                    have hvs : vs.length ≤ 13 := by omega
                    clear hvl
                    refine (HA2.out _ _ Lz.out Lf.out Lo.out).mono ?_
                    rintro _ w16 ⟨Ay, cy, rfl, o16, b16⟩
                    try dsimp only at o16
                    have Lz := Go.Lib.hid (Lz.out.below b16)
                    have Lf := Go.Lib.hid (Lf.out.below b16)
                    have Lx := Go.Lib.hid (Lx.out.below b16)
                    have Le := Go.Lib.hid (Le.out.below b16)
                    have Lp := Go.Lib.hid (Lp.out.below b16)
                    have Lv := Go.Lib.hid (Lv.out.below b16)
                    have Ln := Go.Lib.hid (Ln.out.below b16)
                    have Lu := Go.Lib.hid (Lu.out.below b16)
                    have Lo := Go.Lib.hid (Lo.out.below b16)
                    have HW := Go.Lib.hid (HW.out.trans (b16.mono HW.out.size))
                    have Ly := Go.Lib.hid (lst0 o16 (by omega))
                    clear o16 b16
                    go_wp2_with fail
                    go_loopw [36, 37] (fun t i wx => ∃ h : Nat, h ≤ vs.length ∧ i = .int .i64 h ∧ t = .int .i64 (sqTo vs h) ∧ Eqw w16 wx) (fun _ i _ => vs.length - (intOf i).toNat)
                    case atStart => exact ⟨0, Nat.zero_le _, rfl, rfl, Eqw.refl _⟩
                    case round =>
                      obtain ⟨h, hh, rfl, rfl, hw⟩ := hrel
                      have HQ := Go.Lib.hid hw
                      by_cases hlt : h < vs.length
                      case pos =>
                        obtain ⟨zb, zo, hAz, -, hcc⟩ := (Ly.out.eqw hw).at_ hlt
                        subst hAz
                        have hcell := hcc h hlt
                        have HS1 := Go.Lib.hid (sq_succ vs h)
                        have hs1 := sq_small HVD.out h hh
                        have ho1 := sq_one HVD.out h
                        clear hcc
                        generalize vs.getD h 0 = y at *
                        generalize sqTo vs h = z at *
                        obtain ⟨s10, s11⟩ := hs1
                        obtain ⟨o10, o11⟩ := ho1
                        have hhl : (h : Int) < vs.length := by omega
                        have e1 : IntKind.i64.wrap (y * y) = y * y := IntWalk.i64_in _ (by omega)
                        have e3 : IntKind.i64.wrap (z + y * y) = z + y * y := IntWalk.i64_in _ (by omega)
                        clear hw
                        go_upto_region 45 with fail
                        go_quiet (fail)
                        go_wp2_with fail
                        go_roundw
                        case rel => exact ⟨h + 1, by omega, by go_num, by rw [HS1.out], HQ.out.drewN _⟩
                        case measure => simp [intOf]; omega
                      case neg =>
                        obtain rfl : h = vs.length := by omega
                        rw [sq_all]
                        have HWF := Go.Lib.hid (HW.out.trans (hw.below.mono HW.out.size))
                        clear hw HQ
                        generalize sqS vs = z at *
                        go_wp2_with fail
                        go_ret
                        exact ⟨rfl, HWF.out⟩

set_option maxRecDepth 100000 in
theorem lifted (os : Os) (started : os.Started) (H : Type) (enc : TypeId × Value → H) :
    ReturnsInHanded {} Try.checked os 4 .any (Rows.fnBestTurnsSpec.pre6 enc Try.prog Try.f4 Rows.fnBestTurnsRow.domain false) (Rows.fnBestTurnsSpec.post enc Try.prog Try.f4 false true false false) := by
  refine returnsInHanded_of_change_sized (C := Try.checked) own started (by kernel_rfl) Try.func4
    (ChangeSpec.witness6 (enc := enc) (C := Try.checked) false ⟨#[], #[.slice none 0 0], []⟩ 8 (by kernel_rfl) (by kernel_rfl) (by kernel_rfl) (by kernel_rfl)) ?_
  intro W base args ds gs before hval0 hW hcnd hsz0 _
  have hsz : (DataW.weightsEach Try.prog (Try.f4.params.toList ++ Rows.fnBestTurnsSpec.plain.varTypes Try.prog) (ds ++ gs)).all (· ≤ reachBytes) = true := hsz0
  clear hsz0
  have hval : ∀ (j : Nat) t v, Try.f4.params[j]? = some t → args[j]? = some v → Value.okWide Try.prog W .any base t v := hval0
  clear hval0
  have hW' := hW
  obtain ⟨p, q, hA0, hV, rfl, hfz, hnd⟩ := hW
  have hA : DataW.TrodAll enc Try.prog W 0 (fun _ => true) true Try.f4.params.toList args.toList ds p := hA0
  rw [Try.params4] at hA hval hsz
  obtain ⟨v0, vs0, d0, ds0, p0, q0, hargs, rfl, rfl, h0, r0⟩ := trodAll_cons hA
  obtain ⟨rfl, rfl, rfl⟩ := trodAll_nil r0
  obtain rfl : args = #[v0] := by cases args; simp_all
  obtain ⟨rfl, rfl⟩ := trodVars_none hV
  obtain ⟨a0, len0, cap0, rfl⟩ := okWide_slice Try.underlying22 (hval 0 22 v0 rfl rfl)
  have k0 := h0
  have lt0 : ∀ x ∈ p0, x.block < W.heap.size := by obtain ⟨m, hm⟩ := k0; exact DataW.trod_lt m _ _ _ hm
  obtain ⟨⟨z0, rd0, sz0⟩, hlc0, hp0⟩ := open_list_bytes h0
  have reach0 : len0 * 1 ≤ 140737488351232 := by
    rcases hp0 with hp0 | ⟨E0, S0, rfl, hl0⟩
    · omega
    · have := sized_slice hsz (j := 0) (t := 22) (e := 5) rfl rfl Try.underlying22
      rw [show Try.prog.bytesOf 5 = 1 by kernel_rfl] at this
      simp only [reachBytes] at this
      omega
  clear hA0
  refine (walk a0 len0 cap0 z0 W rd0 reach0 sz0).mono fun e W' ⟨he, bel⟩ => ?_
  subst he
  exact ⟨_, rfl, _, _, _, [], _, [], hW', trodAll_mk1 (shut_bool Try.underlying4 _), (trodAll_cons_mk (Below.trod laidOut (by kernel_rfl) (of_decide_eq_true (by kernel_rfl)) k0 bel lt0) trodAll_mk0), rfl, bel.frame _, fun h => by cases h⟩

theorem over : Rows.fnBestTurnsRow.holds Try.pinned (OpenSpec.ofChange Rows.fnBestTurnsSpec) :=
  OpenClaim.holds_of_wide 4 Try.f4 rfl rfl rfl rfl rfl rfl rfl ⟨rfl, rfl, rfl, rfl, rfl⟩ rfl rfl rfl rfl rfl (by kernel_rfl) Try.func4 (by kernel_rfl)
    (of_decide_eq_true (by kernel_rfl)) (by unfold Func.isWrapper; first | (rw [if_pos (by decide +kernel)]; kernel_rfl) | (rw [if_neg (by decide +kernel)]; exact ⟨rfl, rfl⟩))
    (fun os started H enc _ => lifted os started H enc)

theorem proved : Rows.FnBestTurnsSaid := over
end Go.Proofs.Ytpcaakmcjdginaa.fnBestTurns
