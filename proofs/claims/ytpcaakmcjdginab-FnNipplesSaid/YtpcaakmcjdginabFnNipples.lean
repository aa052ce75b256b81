/- Turning all nipples back undoes it, and the sum of all tensions grows by the same for each quarter turn. -/
import Derived.Test.YtpcaakmcjdginabRows
import Derived.Test.YtpcaakmcjdginabTenLaw
import Derived.Test.YtpcaakmcjdginabBig
import Derived.Test.YtpcaakmcjdginabOpenB
import Derived.Test.YtpcaakmcjdginabLikesI
import Derived.Test.YtpcaakmcjdginabHasInt2
import Derived.Test.YtpcaakmcjdginabInts
import Derived.WalkKit
import Derived.ProofKit
import Derived.OpenShut
import Derived.ShutString
import Derived.SizedLaws
namespace Go.Proofs.Ytpcaakmcjdginab.fnNipples
open Go.ChangeShapes Go.WideShapes Go.ChangeAt Go.RowKit
open Go.ChangeMaps (open_string shut_string)
set_option linter.unusedVariables false

set_option linter.unusedSimpArgs false
set_option maxRecDepth 100000 in
set_option maxHeartbeats 16000000 in
theorem walk (A : Option Addr) (n cap : Nat) (bs : List Int) (w : World) (h : Rd w 0 w.heap.size A n (byts bs)) (hn : n * 1 ≤ 140737488351232) (hs : ∀ z ∈ bs, 0 ≤ z ∧ z ≤ 255) :
    Calls Try.prog 3 #[.slice A n cap] w fun e w' => e = .returned (.bool true) ∧ Below w.heap.size w w' := by
  have HB := Go.Lib.hid (big_ A n cap w)
  by_cases hbig : (4096 : Int) < n
  · go_enter Try.func3, Try.ntmps3
    go_wp2_with fail
    refine HB.out.mono ?_
    rintro e w' ⟨rfl, rfl⟩
    go_wp2_with fail
    go_ret
    exact ⟨rfl, Below.refl _ _⟩
  · have hb2 := big_ A n cap w
    rw [decide_eq_false hbig] at hb2
    have HB2 := Go.Lib.hid hb2
    have HRD := Go.Lib.hid (fun w1 (hb : Below w.heap.size w w1) => (h.below hb (Nat.le_refl _)).mono (Nat.le_refl _) hb.size)
    have HW := Go.Lib.hid (Below.refl w.heap.size w)
    clear hb2 HB hbig h
    have hnn : n ≤ 140737488355328 := by omega
    clear hn
    go_enter Try.func3, Try.ntmps3
    go_wp2_with fail
    refine HB2.out.mono ?_
    rintro e w' ⟨rfl, rfl⟩
    have HD := Go.Lib.hid (drawAll A n cap bs _ (HRD.out _ HW.out) hs hnn)
    go_wp2_with fail
    refine HD.out.mono ?_
    rintro _ w1 ⟨zs, Bz, cz, s, Bf, cf, ts, Bt, ct, rfl, hlz, hls, hlt, lz, lf, lt, b1⟩
    have HW := Go.Lib.hid (HW.out.trans (b1.mono HW.out.size))
    have Lz := Go.Lib.hid lz
    have Lf := Go.Lib.hid lf
    have Lt := Go.Lib.hid lt
    clear lz lf lt b1 HD
    obtain ⟨hlz0, hlz1⟩ := hlz
    obtain ⟨hls0, hls1⟩ := hls
    obtain ⟨a, ac, hA, hab⟩ := sum_pair zs
    have HA1 := Go.Lib.hid (fun w0 L0 => implSumOf Bz cz zs w0 L0)
    have HA2 := Go.Lib.hid (fun w0 L0 => specSumOf Bz cz zs w0 L0)
    rw [hA] at HA1 HA2
    have HT1 := Go.Lib.hid (fun w0 L0 L1 L2 => implTurnAll Bz cz zs Bf cf s Bt ct ts w0 L0 L1 L2 _ rfl)
    have HT2 := Go.Lib.hid (fun w0 L0 L1 L2 => specTurnAll Bz cz zs Bf cf s Bt ct ts w0 L0 L1 L2)
    have HTE := Go.Lib.hid (fun w0 L0 => implTen Bz cz zs w0 L0)
    have haa : (a != a) = false := by simp
    have hcc : (ac != ac) = false := by simp
    rcases all_cases zs s ts with ⟨e, he, hR⟩ | ⟨hT, hS, hr, hl, hU, hR⟩
    · rw [hR] at HT1 HT2
      have heb : (e != 0) = true := by simpa using he
      have hee : (e != e) = false := by simp
      clear he hR hA
      generalize tenB zs = tb at *
      go_wp2_with fail
      refine (HT1.out _ Lz.out Lf.out Lt.out).mono ?_
      rintro _ w2 ⟨Ai, ci, rfl, o2, b2⟩
      try dsimp only at o2
      have Lz := Go.Lib.hid (Lz.out.below b2)
      have Lf := Go.Lib.hid (Lf.out.below b2)
      have Lt := Go.Lib.hid (Lt.out.below b2)
      have HW := Go.Lib.hid (HW.out.trans (b2.mono HW.out.size))
      have Li := Go.Lib.hid (lst0 o2 (by simp))
      clear o2 b2
      go_wp2_with fail
      refine (HT2.out _ Lz.out Lf.out Lt.out).mono ?_
      rintro _ w3 ⟨Am, cm, rfl, o3, b3⟩
      try dsimp only at o3
      have Lz := Go.Lib.hid (Lz.out.below b3)
      have Lf := Go.Lib.hid (Lf.out.below b3)
      have Lt := Go.Lib.hid (Lt.out.below b3)
      have Li := Go.Lib.hid (Li.out.below b3)
      have HW := Go.Lib.hid (HW.out.trans (b3.mono HW.out.size))
      have Lm := Go.Lib.hid (lst0 o3 (by simp))
      clear o3 b3
      go_wp2_with fail
      refine (HA1.out _ Lz.out).mono ?_
      rintro _ w4 ⟨rfl, b4⟩
      have Lz := Go.Lib.hid (Lz.out.below b4)
      have Lf := Go.Lib.hid (Lf.out.below b4)
      have Lt := Go.Lib.hid (Lt.out.below b4)
      have Li := Go.Lib.hid (Li.out.below b4)
      have Lm := Go.Lib.hid (Lm.out.below b4)
      have HW := Go.Lib.hid (HW.out.trans (b4.mono HW.out.size))
      clear b4
      go_wp2_with fail
      refine (HA2.out _ Lz.out).mono ?_
      rintro _ w5 ⟨rfl, b5⟩
      have Lz := Go.Lib.hid (Lz.out.below b5)
      have Lf := Go.Lib.hid (Lf.out.below b5)
      have Lt := Go.Lib.hid (Lt.out.below b5)
      have Li := Go.Lib.hid (Li.out.below b5)
      have Lm := Go.Lib.hid (Lm.out.below b5)
      have HW := Go.Lib.hid (HW.out.trans (b5.mono HW.out.size))
      clear b5
      have HD := Go.Lib.hid (drawIsStiff A n cap bs _ (HRD.out _ HW.out) hs hnn)
      go_wp2_with fail
      refine HD.out.mono ?_
      rintro _ w6 ⟨xs, Bx, cx, rfl, hlx, lx, b6⟩
      have Lz := Go.Lib.hid (Lz.out.below b6)
      have Lf := Go.Lib.hid (Lf.out.below b6)
      have Lt := Go.Lib.hid (Lt.out.below b6)
      have Li := Go.Lib.hid (Li.out.below b6)
      have Lm := Go.Lib.hid (Lm.out.below b6)
      have HW := Go.Lib.hid (HW.out.trans (b6.mono HW.out.size))
      have Lx := Go.Lib.hid lx
      clear lx b6 HD
      obtain ⟨hlx0, hlx1⟩ := hlx
      have HX1 := Go.Lib.hid (fun w0 L0 => implStiff Bx cx xs w0 L0)
      have HX2 := Go.Lib.hid (fun w0 L0 => specStiff Bx cx xs w0 L0)
      have hyy : ∀ y : Bool, (y != y) = false := fun y => by simp
      generalize stiffB xs = sx at *
      have hsx := hyy sx
      have hbx := hyy tb
      clear hyy
      have HE := Go.Lib.hid (likeInts_same _ _ _ ci cm _ _ _ _ _ _ Li.out.rd Lm.out.rd (by first | omega | simp))
      go_wp2_with fail
      refine HE.out.mono ?_
      rintro _ w7 ⟨rfl, x7, e7⟩
      have b7 := below_of_drewN e7
      have Lz := Go.Lib.hid (Lz.out.below b7)
      have Lf := Go.Lib.hid (Lf.out.below b7)
      have Lt := Go.Lib.hid (Lt.out.below b7)
      have Li := Go.Lib.hid (Li.out.below b7)
      have Lm := Go.Lib.hid (Lm.out.below b7)
      have Lx := Go.Lib.hid (Lx.out.below b7)
      have HW := Go.Lib.hid (HW.out.trans (b7.mono HW.out.size))
      clear b7 e7 HE
      go_wp2_with fail
      refine (HX1.out _ Lx.out).mono ?_
      rintro _ _ ⟨rfl, rfl⟩
      go_wp2_with fail
      refine (HX2.out _ Lx.out).mono ?_
      rintro _ w8 ⟨rfl, b8⟩
      have Lz := Go.Lib.hid (Lz.out.below b8)
      have Lf := Go.Lib.hid (Lf.out.below b8)
      have Lt := Go.Lib.hid (Lt.out.below b8)
      have Li := Go.Lib.hid (Li.out.below b8)
      have Lm := Go.Lib.hid (Lm.out.below b8)
      have Lx := Go.Lib.hid (Lx.out.below b8)
      have HW := Go.Lib.hid (HW.out.trans (b8.mono HW.out.size))
      clear b8
      go_wp2_with fail
      refine (HTE.out _ Lz.out).mono ?_
      rintro _ _ ⟨rfl, rfl⟩
      go_wp2_with fail
      go_ret
      exact ⟨rfl, HW.out⟩
    · rw [hR] at HT1 HT2
      rw [tenB_iff.2 hT] at HTE hab
      have hac : ac = 0 := by simpa using hab
      subst hac
      have hav : a = zs.sum := by unfold sumR at hA; rw [if_pos (tenB_iff.2 hT)] at hA; injection hA with h1 _; exact h1.symm
      subst hav
      have hl4 := hT.lo
      have hl48 := hT.hi
      have hul : (allTo zs.length zs ts s zs.length).length = zs.length := allTo_len ..
      have hlast := all_there hT hS hr hl hU
      have hsm := sum_allTo (zs := zs) (ts := ts) rfl hl hS.lo zs.length (Nat.le_refl _)
      rw [show ts.take zs.length = ts by rw [← hl, List.take_length]] at hsm
      have HSF := Go.Lib.hid (fun w0 L0 => lawSum Bf cf s w0 L0 (rng_of hS.rng (by omega) (by omega)))
      have HST := Go.Lib.hid (fun w0 L0 => lawSum Bt ct ts w0 L0 (rng_of hr (by omega) (by omega)))
      have hsb := hS.sum
      have hgb := hS.gain_bd
      have htb := sum_bd' hr
      have hus := hU.sum
      have hzs := hT.sum
      have hs0 := rngB_at hS.rng (k := 0) hS.lo
      have HLO := Go.Lib.hid hS.lo
      have HRT := Go.Lib.hid hr
      have HLL := Go.Lib.hid hl
      have HB1 := Go.Lib.hid (fun D d E e w0 L0 L1 L2 => implTurnAll D d (allTo zs.length zs ts s zs.length) Bf cf s E e (negI ts) w0 L0 L1 L2 _ rfl)
      rw [hlast] at HB1
      have HB2 := Go.Lib.hid (fun D d w0 L0 => implSumOf D d (allTo zs.length zs ts s zs.length) w0 L0)
      rw [show sumR (allTo zs.length zs ts s zs.length) = ((allTo zs.length zs ts s zs.length).sum, 0) by unfold sumR; rw [if_pos (tenB_iff.2 hU)]] at HB2
      have HG := Go.Lib.hid (gainI_two s)
      clear hR hA hlast hT hS hr hU hab hl
      generalize allTo zs.length zs ts s zs.length = us at *
      have HUL := Go.Lib.hid hul
      have hul2 : us.length ≤ 48 := by omega
      have HSM := Go.Lib.hid hsm
      clear hul hsm
      go_wp2_with fail
      refine (HT1.out _ Lz.out Lf.out Lt.out).mono ?_
      rintro _ w9 ⟨Ai, ci, rfl, o9, b9⟩
      try dsimp only at o9
      have Lz := Go.Lib.hid (Lz.out.below b9)
      have Lf := Go.Lib.hid (Lf.out.below b9)
      have Lt := Go.Lib.hid (Lt.out.below b9)
      have HW := Go.Lib.hid (HW.out.trans (b9.mono HW.out.size))
      have Li := Go.Lib.hid (lst0 o9 (by omega))
      clear o9 b9
      go_wp2_with fail
      refine (HT2.out _ Lz.out Lf.out Lt.out).mono ?_
      rintro _ w10 ⟨Am, cm, rfl, o10, b10⟩
      try dsimp only at o10
      have Lz := Go.Lib.hid (Lz.out.below b10)
      have Lf := Go.Lib.hid (Lf.out.below b10)
      have Lt := Go.Lib.hid (Lt.out.below b10)
      have Li := Go.Lib.hid (Li.out.below b10)
      have HW := Go.Lib.hid (HW.out.trans (b10.mono HW.out.size))
      have Lm := Go.Lib.hid (lst0 o10 (by omega))
      clear o10 b10
      go_wp2_with fail
      refine (HA1.out _ Lz.out).mono ?_
      rintro _ w11 ⟨rfl, b11⟩
      have Lz := Go.Lib.hid (Lz.out.below b11)
      have Lf := Go.Lib.hid (Lf.out.below b11)
      have Lt := Go.Lib.hid (Lt.out.below b11)
      have Li := Go.Lib.hid (Li.out.below b11)
      have Lm := Go.Lib.hid (Lm.out.below b11)
      have HW := Go.Lib.hid (HW.out.trans (b11.mono HW.out.size))
      clear b11
      go_wp2_with fail
      refine (HA2.out _ Lz.out).mono ?_
      rintro _ w12 ⟨rfl, b12⟩
      have Lz := Go.Lib.hid (Lz.out.below b12)
      have Lf := Go.Lib.hid (Lf.out.below b12)
      have Lt := Go.Lib.hid (Lt.out.below b12)
      have Li := Go.Lib.hid (Li.out.below b12)
      have Lm := Go.Lib.hid (Lm.out.below b12)
      have HW := Go.Lib.hid (HW.out.trans (b12.mono HW.out.size))
      clear b12
      have HD := Go.Lib.hid (drawIsStiff A n cap bs _ (HRD.out _ HW.out) hs hnn)
      go_wp2_with fail
      refine HD.out.mono ?_
      rintro _ w13 ⟨xs, Bx, cx, rfl, hlx, lx, b13⟩
      have Lz := Go.Lib.hid (Lz.out.below b13)
      have Lf := Go.Lib.hid (Lf.out.below b13)
      have Lt := Go.Lib.hid (Lt.out.below b13)
      have Li := Go.Lib.hid (Li.out.below b13)
      have Lm := Go.Lib.hid (Lm.out.below b13)
      have HW := Go.Lib.hid (HW.out.trans (b13.mono HW.out.size))
      have Lx := Go.Lib.hid lx
      clear lx b13 HD
      obtain ⟨hlx0, hlx1⟩ := hlx
      have HX1 := Go.Lib.hid (fun w0 L0 => implStiff Bx cx xs w0 L0)
      have HX2 := Go.Lib.hid (fun w0 L0 => specStiff Bx cx xs w0 L0)
      have hyy : ∀ y : Bool, (y != y) = false := fun y => by simp
      generalize stiffB xs = sx at *
      have hsx := hyy sx
      clear hyy
      skip
      have HE := Go.Lib.hid (likeInts_same _ _ _ ci cm _ _ _ _ _ _ Li.out.rd Lm.out.rd (by first | omega | simp))
      go_wp2_with fail
      refine HE.out.mono ?_
      rintro _ w14 ⟨rfl, x14, e14⟩
      have b14 := below_of_drewN e14
      have Lz := Go.Lib.hid (Lz.out.below b14)
      have Lf := Go.Lib.hid (Lf.out.below b14)
      have Lt := Go.Lib.hid (Lt.out.below b14)
      have Li := Go.Lib.hid (Li.out.below b14)
      have Lm := Go.Lib.hid (Lm.out.below b14)
      have Lx := Go.Lib.hid (Lx.out.below b14)
      have HW := Go.Lib.hid (HW.out.trans (b14.mono HW.out.size))
      clear b14 e14 HE
      go_wp2_with fail
      refine (HX1.out _ Lx.out).mono ?_
      rintro _ _ ⟨rfl, rfl⟩
      go_wp2_with fail
      refine (HX2.out _ Lx.out).mono ?_
      rintro _ w15 ⟨rfl, b15⟩
      have Lz := Go.Lib.hid (Lz.out.below b15)
      have Lf := Go.Lib.hid (Lf.out.below b15)
      have Lt := Go.Lib.hid (Lt.out.below b15)
      have Li := Go.Lib.hid (Li.out.below b15)
      have Lm := Go.Lib.hid (Lm.out.below b15)
      have Lx := Go.Lib.hid (Lx.out.below b15)
      have HW := Go.Lib.hid (HW.out.trans (b15.mono HW.out.size))
      clear b15
      go_wp2_with fail
      refine (HTE.out _ Lz.out).mono ?_
      rintro _ _ ⟨rfl, rfl⟩
      obtain ⟨i0, hi, hz0, hz1, hz2⟩ := info_parts infoI64
      have HGS := Go.Lib.hid (show Gat w15 [] (.slice (some ⟨w15.heap.size, 0, none⟩) 0 0) (w15.alloc (.cells #[] 2)) from Gat.start (Below.refl _ _))
      have htl : ts.length ≤ 50 := by omega
      go_wp2_with fail
      go_loopw [15, 16] (fun o i wr => ∃ k : Nat, k ≤ ts.length ∧ i = .int .i64 k ∧ Gat w15 (negI (ts.take k)) o wr) (fun _ i _ => ts.length - (intOf i).toNat)
      case atStart => exact ⟨0, Nat.zero_le _, rfl, HGS.out⟩
      case round =>
        obtain ⟨k, hk, rfl, hgat⟩ := hrel
        clear HGS
        have HGT := Go.Lib.hid hgat
        by_cases hlt : k < ts.length
        case pos =>
          obtain ⟨tb2, ob2, rfl, -, hc⟩ := (Lt.out.below hgat.b).at_ hlt
          have hcell := hc k hlt
          have hrow := hgat.row
          have hbs := hgat.b.size
          have hnl := negI_len (ts.take k)
          have hxk := rngB_at HRT.out hlt
          have HSN := Go.Lib.hid (negI_snoc hlt)
          have hnl2 : (negI (ts.take k)).length ≤ 50 := by rw [negI_len, List.length_take]; omega
          clear hgat hc hnl
          generalize negI (ts.take k) = ms at *
          generalize ts.getD k 0 = q at *
          obtain ⟨x0, x1⟩ := hxk
          go_wp2_with (at_builtin; refine wpList_append_own_at _ rfl _ _ 24 rfl w15.heap.size 2 i0 (.int .i64 0) 1 8 Try.underlying24 hi hz0 hz1 hz2 rfl (by decide) _ _ _ rfl (hrow.alloc _) ⟨wr.heap.size, 0, none⟩ 1 1 [.int .i64 (-q)] rfl rfl (cell_one_new _ _ _) (by simp [Value.oneCell']) (by unfold maxLen; omega) (by omega) (by simp; omega) ?_; intro v' w3 hown' hgrow hnil hat; clear hnil hat; have HGN := Go.Lib.hid (HGT.out.step (z := -q) hown' hgrow); clear hown' hgrow hrow)
          go_roundw
          case rel => exact ⟨k + 1, by omega, by go_num, by rw [HSN.out]; exact HGN.out⟩
          case measure => simp [intOf]; omega
        case neg =>
          obtain rfl : k = ts.length := by omega
          rw [List.take_length] at hgat
          obtain ⟨D, d, rfl, ho⟩ := hgat.form
          have hnl := negI_len ts
          have bg := hgat.b
          have Ln := Go.Lib.hid (show Ls (negI ts) D d wr from ⟨ho.rd.here, ho.le, by omega⟩)
          have Lz := Go.Lib.hid (Lz.out.below bg)
          have Lf := Go.Lib.hid (Lf.out.below bg)
          have Lt := Go.Lib.hid (Lt.out.below bg)
          have Li := Go.Lib.hid (Li.out.below bg)
          have Lm := Go.Lib.hid (Lm.out.below bg)
          have Lx := Go.Lib.hid (Lx.out.below bg)
          have HW := Go.Lib.hid (HW.out.trans (bg.mono HW.out.size))
          clear hgat HGT ho bg hnl
          go_wp2_with fail
          refine (HB1.out _ _ _ _ _ Li.out Lf.out Ln.out).mono ?_
          rintro _ w16 ⟨Ab, cb, rfl, o16, b16⟩
          try dsimp only at o16
          have Lz := Go.Lib.hid (Lz.out.below b16)
          have Lf := Go.Lib.hid (Lf.out.below b16)
          have Lt := Go.Lib.hid (Lt.out.below b16)
          have Li := Go.Lib.hid (Li.out.below b16)
          have Lm := Go.Lib.hid (Lm.out.below b16)
          have Lx := Go.Lib.hid (Lx.out.below b16)
          have Ln := Go.Lib.hid (Ln.out.below b16)
          have HW := Go.Lib.hid (HW.out.trans (b16.mono HW.out.size))
          have Lb := Go.Lib.hid (lst0 o16 (by omega))
          clear o16 b16
          go_wp2_with fail
          refine (HB2.out _ _ _ Li.out).mono ?_
          rintro _ w17 ⟨rfl, b17⟩
          have Lz := Go.Lib.hid (Lz.out.below b17)
          have Lf := Go.Lib.hid (Lf.out.below b17)
          have Lt := Go.Lib.hid (Lt.out.below b17)
          have Li := Go.Lib.hid (Li.out.below b17)
          have Lm := Go.Lib.hid (Lm.out.below b17)
          have Lx := Go.Lib.hid (Lx.out.below b17)
          have Ln := Go.Lib.hid (Ln.out.below b17)
          have Lb := Go.Lib.hid (Lb.out.below b17)
          have HW := Go.Lib.hid (HW.out.trans (b17.mono HW.out.size))
          clear b17
          obtain ⟨sb, so, rfl, -, hsc⟩ := Lf.out.at_ HLO.out
          have hcell : w17.cell? ⟨sb, so, none⟩ = some (.int .i64 (s.getD 0 0)) := hsc 0 HLO.out
          have hl0 : (0 : Int) < s.length := by omega
          have hl2 : 0 < s.length := by omega
          have hne : ¬ s = [] := by rintro rfl; simp at hl2
          clear hsc
          have HLK := Go.Lib.hid (likeInts_same Ab Bz zs.length cb cz zs _ _ _ _ w17.drew (Lb.out.rd.drewN 1) (Lz.out.rd.drewN 1) (by omega))
          have HS1 := Go.Lib.hid (fun w0 (e : Eqw w17 w0) => HST.out w0 (Lt.out.eqw e))
          have HS2 := Go.Lib.hid (fun w0 (e : Eqw w17 w0) => HSF.out w0 (Lf.out.eqw e))
          have hsm := HSM.out
          rw [HG.out] at hsm hgb
          generalize s.getD 0 0 = y at *
          generalize s.sum = t at *
          generalize ts.sum = u at *
          generalize us.sum = a2 at *
          generalize zs.sum = a1 at *
          obtain ⟨y0, y1⟩ := hs0
          obtain ⟨st0, st1⟩ := hsb
          obtain ⟨g0, g1⟩ := hgb
          obtain ⟨u0, u1⟩ := htb
          obtain ⟨v0, v1⟩ := hus
          obtain ⟨z0, z1⟩ := hzs
          have hq : a2 - a1 = u * (2 * t - y) := by omega
          have e1 : IntKind.i64.wrap (2 * t) = 2 * t := IntWalk.i64_in _ (by omega)
          have e2 : IntKind.i64.wrap (2 * t - y) = 2 * t - y := IntWalk.i64_in _ (by omega)
          have e3 : IntKind.i64.wrap (a2 - a1) = a2 - a1 := IntWalk.i64_in _ (by omega)
          have e4 : IntKind.i64.wrap (u * (2 * t - y)) = u * (2 * t - y) := IntWalk.i64_in _ (by omega)
          have hqb : (a2 - a1 == u * (2 * t - y)) = true := by simpa using hq
          clear hq hsm
          have HKE := Go.Lib.hid (fun w0 (e : Eqw w17 w0) => (show w0.cell? ⟨sb, so, none⟩ = some (.int .i64 y) ∧ Eqw w17 w0 from ⟨by obtain ⟨m, rfl⟩ := e; exact hcell, e⟩))
          have HE0 := Go.Lib.hid (show Eqw w17 w17.drew from ⟨1, rfl⟩)
          go_upto_region 20 with fail
          refine wp_region_held_drew (S := fun w' => w'.cell? ⟨sb, so, none⟩ = some (.int .i64 y) ∧ Eqw w17 w') (by kernel_rfl) (by exact HKE.out _ HE0.out) (fun hHeld => ?_)
          refine wpAnyH_take (i := 0) (v := ?vn1) rfl (by kernel_rfl) (by kernel_rfl) (by kernel_rfl) (fun _ _ _ h => h) (Or.inl ⟨by rfl, ?hyn1⟩) (by assumption) ?restn1
          case hyn1 => (intro w hSw; (try dsimp only at hSw); go_simp; try with_reducible rfl)
          try simp only [List.getElem_toArray, List.getElem_cons_succ, List.getElem_cons_zero, Act.put, List.setIfInBounds_toArray, List.set_cons_zero, List.set_cons_succ]
          refine wpAnyH_take (i := 1) (v := ?vn2) rfl (by kernel_rfl) (by kernel_rfl) (by kernel_rfl) (fun _ _ _ h => h) (Or.inl ⟨by rfl, ?hyn2⟩) (by assumption) ?restn2
          case hyn2 => (intro w hSw; (try dsimp only at hSw); go_simp; try with_reducible rfl)
          try simp only [List.getElem_toArray, List.getElem_cons_succ, List.getElem_cons_zero, Act.put, List.setIfInBounds_toArray, List.set_cons_zero, List.set_cons_succ]
          refine wpAnyH_take (i := 2) (v := ?vn3) rfl (by kernel_rfl) (by kernel_rfl) (by kernel_rfl) (fun _ _ _ h => h) (Or.inl ⟨by rfl, ?hyn3⟩) (by assumption) ?restn3
          case hyn3 => (intro w hSw; (try dsimp only at hSw); go_simp; try with_reducible rfl)
          try simp only [List.getElem_toArray, List.getElem_cons_succ, List.getElem_cons_zero, Act.put, List.setIfInBounds_toArray, List.set_cons_zero, List.set_cons_succ]
          refine wpAnyH_take (i := 3) (v := ?vn4) rfl (by kernel_rfl) (by kernel_rfl) (by kernel_rfl) (fun _ _ _ h => h) (Or.inl ⟨by rfl, ?hyn4⟩) (by assumption) ?restn4
          case hyn4 => (intro w hSw; (try dsimp only at hSw); go_simp; try with_reducible rfl)
          try simp only [List.getElem_toArray, List.getElem_cons_succ, List.getElem_cons_zero, Act.put, List.setIfInBounds_toArray, List.set_cons_zero, List.set_cons_succ]
          refine wpAnyH_take (i := 4) (v := ?vn5) rfl (by kernel_rfl) (by kernel_rfl) (by kernel_rfl) (fun _ _ _ h => h) (Or.inl ⟨by rfl, ?hyn5⟩) (by assumption) ?restn5
          case hyn5 => (intro w hSw; (try dsimp only at hSw); go_simp; try with_reducible rfl)
          try simp only [List.getElem_toArray, List.getElem_cons_succ, List.getElem_cons_zero, Act.put, List.setIfInBounds_toArray, List.set_cons_zero, List.set_cons_succ]
          refine wpAnyH_ready (rs := [5]) (by kernel_rfl) (by simp) ?_
          refine AllReadyH.cons rfl (fun K hK => ?_) AllReadyH.nil
          go_simp
          (go_at_call 17; refine HLK.out.mono ?_; rintro _ w99 ⟨rfl, x99, e99⟩)
          have E99 := Go.Lib.hid (show Eqw w17 w99 from by subst e99; exact HE0.out.drewN x99)
          clear e99
          refine hK.out _ _ ?_ (fun hHeld => ?_)
          · first | exact HKE.out _ E99.out | exact HKE.out _ HE0.out
          clear hK K
          try simp only [List.getElem_toArray, List.getElem_cons_succ, List.getElem_cons_zero, Act.put, List.setIfInBounds_toArray, List.set_cons_zero, List.set_cons_succ]
          refine wpAnyH_take (i := 6) (v := ?vn6) rfl (by kernel_rfl) (by kernel_rfl) (by kernel_rfl) (fun _ _ _ h => h) (Or.inl ⟨by rfl, ?hyn6⟩) (by assumption) ?restn6
          case hyn6 => (intro w hSw; (try dsimp only at hSw); go_simp; try with_reducible rfl)
          try simp only [List.getElem_toArray, List.getElem_cons_succ, List.getElem_cons_zero, Act.put, List.setIfInBounds_toArray, List.set_cons_zero, List.set_cons_succ]
          refine wpAnyH_take (i := 7) (v := ?vn7) rfl (by kernel_rfl) (by kernel_rfl) (by kernel_rfl) (fun _ _ _ h => h) (Or.inl ⟨by rfl, ?hyn7⟩) (by assumption) ?restn7
          case hyn7 => (intro w hSw; (try dsimp only at hSw); go_simp; try with_reducible rfl)
          try simp only [List.getElem_toArray, List.getElem_cons_succ, List.getElem_cons_zero, Act.put, List.setIfInBounds_toArray, List.set_cons_zero, List.set_cons_succ]
          refine wpAnyH_take (i := 8) (v := ?vn8) rfl (by kernel_rfl) (by kernel_rfl) (by kernel_rfl) (fun _ _ _ h => h) (Or.inl ⟨by rfl, ?hyn8⟩) (by assumption) ?restn8
          case hyn8 => (intro w hSw; (try dsimp only at hSw); go_simp; try with_reducible rfl)
          try simp only [List.getElem_toArray, List.getElem_cons_succ, List.getElem_cons_zero, Act.put, List.setIfInBounds_toArray, List.set_cons_zero, List.set_cons_succ]
          refine wpAnyH_take (i := 9) (v := ?vn9) rfl (by kernel_rfl) (by kernel_rfl) (by kernel_rfl) (fun _ _ _ h => h) (Or.inl ⟨by rfl, ?hyn9⟩) (by assumption) ?restn9
          case hyn9 => (intro w hSw; (try dsimp only at hSw); go_simp; try with_reducible rfl)
          try simp only [List.getElem_toArray, List.getElem_cons_succ, List.getElem_cons_zero, Act.put, List.setIfInBounds_toArray, List.set_cons_zero, List.set_cons_succ]
          refine wpAnyH_take (i := 10) (v := ?vn10) rfl (by kernel_rfl) (by kernel_rfl) (by kernel_rfl) (fun _ _ _ h => h) (Or.inl ⟨by rfl, ?hyn10⟩) (by assumption) ?restn10
          case hyn10 => (intro w hSw; (try dsimp only at hSw); go_simp; try with_reducible rfl)
          try simp only [List.getElem_toArray, List.getElem_cons_succ, List.getElem_cons_zero, Act.put, List.setIfInBounds_toArray, List.set_cons_zero, List.set_cons_succ]
          refine wpAnyH_take (i := 11) (v := ?vn11) rfl (by kernel_rfl) (by kernel_rfl) (by kernel_rfl) (fun _ _ _ h => h) (Or.inl ⟨by rfl, ?hyn11⟩) (by assumption) ?restn11
          case hyn11 => (intro w hSw; (try dsimp only at hSw); go_simp; try with_reducible rfl)
          try simp only [List.getElem_toArray, List.getElem_cons_succ, List.getElem_cons_zero, Act.put, List.setIfInBounds_toArray, List.set_cons_zero, List.set_cons_succ]
          refine wpAnyH_take (i := 12) (v := ?vn12) rfl (by kernel_rfl) (by kernel_rfl) (by kernel_rfl) (fun _ _ _ h => h) (Or.inl ⟨by rfl, ?hyn12⟩) (by assumption) ?restn12
          case hyn12 => (intro w hSw; (try dsimp only at hSw); go_simp; try with_reducible rfl)
          try simp only [List.getElem_toArray, List.getElem_cons_succ, List.getElem_cons_zero, Act.put, List.setIfInBounds_toArray, List.set_cons_zero, List.set_cons_succ]
          refine wpAnyH_take (i := 13) (v := ?vn13) rfl (by kernel_rfl) (by kernel_rfl) (by kernel_rfl) (fun _ _ _ h => h) (Or.inl ⟨by rfl, ?hyn13⟩) (by assumption) ?restn13
          case hyn13 => (intro w hSw; (try dsimp only at hSw); go_simp; try with_reducible rfl)
          try simp only [List.getElem_toArray, List.getElem_cons_succ, List.getElem_cons_zero, Act.put, List.setIfInBounds_toArray, List.set_cons_zero, List.set_cons_succ]
          refine wpAnyH_take (i := 14) (v := ?vn14) rfl (by kernel_rfl) (by kernel_rfl) (by kernel_rfl) (fun _ _ _ h => h) (Or.inl ⟨by rfl, ?hyn14⟩) (by assumption) ?restn14
          case hyn14 => (intro w hSw; (try dsimp only at hSw); go_simp; try with_reducible rfl)
          try simp only [List.getElem_toArray, List.getElem_cons_succ, List.getElem_cons_zero, Act.put, List.setIfInBounds_toArray, List.set_cons_zero, List.set_cons_succ]
          refine wpAnyH_take (i := 15) (v := ?vn15) rfl (by kernel_rfl) (by kernel_rfl) (by kernel_rfl) (fun _ _ _ h => h) (Or.inl ⟨by rfl, ?hyn15⟩) (by assumption) ?restn15
          case hyn15 => (intro w hSw; (try dsimp only at hSw); go_simp; try with_reducible rfl)
          try simp only [List.getElem_toArray, List.getElem_cons_succ, List.getElem_cons_zero, Act.put, List.setIfInBounds_toArray, List.set_cons_zero, List.set_cons_succ]
          refine wpAnyH_take (i := 17) (v := ?vn16) rfl (by kernel_rfl) (by kernel_rfl) (by kernel_rfl) (fun _ _ _ h => h) (Or.inl ⟨by rfl, ?hyn16⟩) (by assumption) ?restn16
          case hyn16 => (intro w hSw; (try dsimp only at hSw); go_simp; try with_reducible rfl)
          try simp only [List.getElem_toArray, List.getElem_cons_succ, List.getElem_cons_zero, Act.put, List.setIfInBounds_toArray, List.set_cons_zero, List.set_cons_succ]
          refine wpAnyH_take (i := 20) (v := ?vn17) rfl (by kernel_rfl) (by kernel_rfl) (by kernel_rfl) (fun _ _ _ h => h) (Or.inl ⟨by rfl, ?hyn17⟩) (by assumption) ?restn17
          case hyn17 => (intro w hSw; (try dsimp only at hSw); go_simp; try with_reducible rfl)
          try simp only [List.getElem_toArray, List.getElem_cons_succ, List.getElem_cons_zero, Act.put, List.setIfInBounds_toArray, List.set_cons_zero, List.set_cons_succ]
          refine wpAnyH_take (i := 21) (v := ?vn18) rfl (by kernel_rfl) (by kernel_rfl) (by kernel_rfl) (fun _ _ _ h => h) (Or.inl ⟨by rfl, ?hyn18⟩) (by assumption) ?restn18
          case hyn18 => (intro w hSw; (try dsimp only at hSw); go_simp; try with_reducible rfl)
          try simp only [List.getElem_toArray, List.getElem_cons_succ, List.getElem_cons_zero, Act.put, List.setIfInBounds_toArray, List.set_cons_zero, List.set_cons_succ]
          refine wpAnyH_take (i := 22) (v := ?vn19) rfl (by kernel_rfl) (by kernel_rfl) (by kernel_rfl) (fun _ _ _ h => h) (Or.inl ⟨by rfl, ?hyn19⟩) (by assumption) ?restn19
          case hyn19 => (intro w hSw; (try dsimp only at hSw); go_simp; try with_reducible rfl)
          try simp only [List.getElem_toArray, List.getElem_cons_succ, List.getElem_cons_zero, Act.put, List.setIfInBounds_toArray, List.set_cons_zero, List.set_cons_succ]
          refine wpAnyH_ready (rs := [16]) (by kernel_rfl) (by simp) ?_
          refine AllReadyH.cons rfl (fun K hK => ?_) AllReadyH.nil
          go_simp
          (go_at_call 21; refine (HS1.out _ E99.out).mono ?_; rintro _ _ ⟨rfl, rfl⟩)
          refine hK.out _ _ ?_ (fun hHeld => ?_)
          · first | exact HKE.out _ E99.out | exact HKE.out _ HE0.out
          clear hK K
          try simp only [List.getElem_toArray, List.getElem_cons_succ, List.getElem_cons_zero, Act.put, List.setIfInBounds_toArray, List.set_cons_zero, List.set_cons_succ]
          refine wpAnyH_ready (rs := [18]) (by kernel_rfl) (by simp) ?_
          refine AllReadyH.cons rfl (fun K hK => ?_) AllReadyH.nil
          go_simp
          (go_at_call 21; refine (HS2.out _ E99.out).mono ?_; rintro _ _ ⟨rfl, rfl⟩)
          refine hK.out _ _ ?_ (fun hHeld => ?_)
          · first | exact HKE.out _ E99.out | exact HKE.out _ HE0.out
          clear hK K
          try simp only [List.getElem_toArray, List.getElem_cons_succ, List.getElem_cons_zero, Act.put, List.setIfInBounds_toArray, List.set_cons_zero, List.set_cons_succ]
          refine wpAnyH_take (i := 19) (v := ?vn20) rfl (by kernel_rfl) (by kernel_rfl) (by kernel_rfl) (fun _ _ _ h => h) (Or.inl ⟨by rfl, ?hyn20⟩) (by assumption) ?restn20
          case hyn20 => (intro w hSw; (try dsimp only at hSw); go_simp; try with_reducible rfl)
          try simp only [List.getElem_toArray, List.getElem_cons_succ, List.getElem_cons_zero, Act.put, List.setIfInBounds_toArray, List.set_cons_zero, List.set_cons_succ]
          refine wpAnyH_take (i := 23) (v := ?vn21) rfl (by kernel_rfl) (by kernel_rfl) (by kernel_rfl) (fun _ _ _ h => h) (Or.inl ⟨by rfl, ?hyn21⟩) (by assumption) ?restn21
          case hyn21 => (intro w hSw; (try dsimp only at hSw); go_simp; try with_reducible rfl)
          try simp only [List.getElem_toArray, List.getElem_cons_succ, List.getElem_cons_zero, Act.put, List.setIfInBounds_toArray, List.set_cons_zero, List.set_cons_succ]
          refine wpAnyH_take (i := 24) (v := ?vn22) rfl (by kernel_rfl) (by kernel_rfl) (by kernel_rfl) (fun _ _ _ h => h) (Or.inl ⟨by rfl, ?hyn22⟩) (by assumption) ?restn22
          case hyn22 => (intro w hSw; (try dsimp only at hSw); go_simp; try with_reducible rfl)
          try simp only [List.getElem_toArray, List.getElem_cons_succ, List.getElem_cons_zero, Act.put, List.setIfInBounds_toArray, List.set_cons_zero, List.set_cons_succ]
          refine wpAnyH_take (i := 25) (v := ?vn23) rfl (by kernel_rfl) (by kernel_rfl) (by kernel_rfl) (fun _ _ _ h => h) (Or.inl ⟨by rfl, ?hyn23⟩) (by assumption) ?restn23
          case hyn23 => (intro w hSw; (try dsimp only at hSw); go_simp; try with_reducible rfl)
          try simp only [List.getElem_toArray, List.getElem_cons_succ, List.getElem_cons_zero, Act.put, List.setIfInBounds_toArray, List.set_cons_zero, List.set_cons_succ]
          refine wpAnyH_take (i := 26) (v := ?vn24) rfl (by kernel_rfl) (by kernel_rfl) (by kernel_rfl) (fun _ _ _ h => h) (Or.inl ⟨by rfl, ?hyn24⟩) (by assumption) ?restn24
          case hyn24 => (intro w hSw; (try dsimp only at hSw); go_simp; try with_reducible rfl)
          try simp only [List.getElem_toArray, List.getElem_cons_succ, List.getElem_cons_zero, Act.put, List.setIfInBounds_toArray, List.set_cons_zero, List.set_cons_succ]
          refine wpAnyH_take (i := 27) (v := ?vn25) rfl (by kernel_rfl) (by kernel_rfl) (by kernel_rfl) (fun _ _ _ h => h) (Or.inl ⟨by rfl, ?hyn25⟩) (by assumption) ?restn25
          case hyn25 => (intro w hSw; (try dsimp only at hSw); go_simp; try with_reducible rfl)
          try simp only [List.getElem_toArray, List.getElem_cons_succ, List.getElem_cons_zero, Act.put, List.setIfInBounds_toArray, List.set_cons_zero, List.set_cons_succ]
          refine wpAnyH_done (by kernel_rfl) ?_ _
          go_wp2_with fail
          go_ret
          exact ⟨rfl, HW.out.trans (E99.out.below.mono HW.out.size)⟩

set_option maxRecDepth 100000 in
theorem lifted (os : Os) (started : os.Started) (H : Type) (enc : TypeId × Value → H) :
    ReturnsInHanded {} Try.checked os 3 .any (Rows.fnNipplesSpec.pre6 enc Try.prog Try.f3 Rows.fnNipplesRow.domain false) (Rows.fnNipplesSpec.post enc Try.prog Try.f3 false true false false) := by
  refine returnsInHanded_of_change_sized (C := Try.checked) own started (by kernel_rfl) Try.func3
    (ChangeSpec.witness6 (enc := enc) (C := Try.checked) false ⟨#[], #[.slice none 0 0], []⟩ 8 (by kernel_rfl) (by kernel_rfl) (by kernel_rfl) (by kernel_rfl)) ?_
  intro W base args ds gs before hval0 hW hcnd hsz0 _
  have hsz : (DataW.weightsEach Try.prog (Try.f3.params.toList ++ Rows.fnNipplesSpec.plain.varTypes Try.prog) (ds ++ gs)).all (· ≤ reachBytes) = true := hsz0
  clear hsz0
  have hval : ∀ (j : Nat) t v, Try.f3.params[j]? = some t → args[j]? = some v → Value.okWide Try.prog W .any base t v := hval0
  clear hval0
  have hW' := hW
  obtain ⟨p, q, hA0, hV, rfl, hfz, hnd⟩ := hW
  have hA : DataW.TrodAll enc Try.prog W 0 (fun _ => true) true Try.f3.params.toList args.toList ds p := hA0
  rw [Try.params3] at hA hval hsz
  obtain ⟨v0, vs0, d0, ds0, p0, q0, hargs, rfl, rfl, h0, r0⟩ := trodAll_cons hA
  obtain ⟨rfl, rfl, rfl⟩ := trodAll_nil r0
  obtain rfl : args = #[v0] := by cases args; simp_all
  obtain ⟨rfl, rfl⟩ := trodVars_none hV
  obtain ⟨a0, len0, cap0, rfl⟩ := okWide_slice Try.underlying22 (hval 0 22 v0 rfl rfl)
  have k0 := h0
  have lt0 : ∀ x ∈ p0, x.block < W.heap.size := by obtain ⟨m, hm⟩ := k0; exact DataW.trod_lt m _ _ _ hm
  obtain ⟨⟨z0, rd0, sz0⟩, hlc0, hp0⟩ := open_list_bytes h0
  have reach0 : len0 * 1 ≤ 140737488351232 := by
    rcases hp0 with hp0 | ⟨E0, S0, rfl, hl0⟩
    · omega
    · have := sized_slice hsz (j := 0) (t := 22) (e := 5) rfl rfl Try.underlying22
      rw [show Try.prog.bytesOf 5 = 1 by kernel_rfl] at this
      simp only [reachBytes] at this
      omega
  clear hA0
  refine (walk a0 len0 cap0 z0 W rd0 reach0 sz0).mono fun e W' ⟨he, bel⟩ => ?_
  subst he
  exact ⟨_, rfl, _, _, _, [], _, [], hW', trodAll_mk1 (shut_bool Try.underlying4 _), (trodAll_cons_mk (Below.trod laidOut (by kernel_rfl) (of_decide_eq_true (by kernel_rfl)) k0 bel lt0) trodAll_mk0), rfl, bel.frame _, fun h => by cases h⟩

theorem over : Rows.fnNipplesRow.holds Try.pinned (OpenSpec.ofChange Rows.fnNipplesSpec) :=
  OpenClaim.holds_of_wide 3 Try.f3 rfl rfl rfl rfl rfl rfl rfl ⟨rfl, rfl, rfl, rfl, rfl⟩ rfl rfl rfl rfl rfl (by kernel_rfl) Try.func3 (by kernel_rfl)
    (of_decide_eq_true (by kernel_rfl)) (by unfold Func.isWrapper; first | (rw [if_pos (by decide +kernel)]; kernel_rfl) | (rw [if_neg (by decide +kernel)]; exact ⟨rfl, rfl⟩))
    (fun os started H enc _ => lifted os started H enc)

theorem proved : Rows.FnNipplesSaid := over
end Go.Proofs.Ytpcaakmcjdginab.fnNipples
