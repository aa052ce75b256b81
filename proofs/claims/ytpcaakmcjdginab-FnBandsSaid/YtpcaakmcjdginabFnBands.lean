/- Spokes out of a wider band are out of a narrower one, and slack ones are below the least. -/
import Derived.Test.YtpcaakmcjdginabRows
import Derived.Test.YtpcaakmcjdginabTenLaw
import Derived.Test.YtpcaakmcjdginabBig
import Derived.Test.YtpcaakmcjdginabOpenB
import Derived.Test.YtpcaakmcjdginabLikesI
import Derived.Test.YtpcaakmcjdginabHasInt2
import Derived.Test.YtpcaakmcjdginabInts
import Derived.WalkKit
import Derived.ProofKit
import Derived.OpenShut
import Derived.ShutString
import Derived.SizedLaws
namespace Go.Proofs.Ytpcaakmcjdginab.fnBands
open Go.ChangeShapes Go.WideShapes Go.ChangeAt Go.RowKit
open Go.ChangeMaps (open_string shut_string)
set_option linter.unusedVariables false

set_option linter.unusedSimpArgs false
set_option maxRecDepth 100000 in
set_option maxHeartbeats 16000000 in
theorem walk (A : Option Addr) (n cap : Nat) (bs : List Int) (w : World) (h : Rd w 0 w.heap.size A n (byts bs)) (hn : n * 1 ≤ 140737488351232) (hs : ∀ z ∈ bs, 0 ≤ z ∧ z ≤ 255) :
    Calls Try.prog 5 #[.slice A n cap] w fun e w' => e = .returned (.bool true) ∧ Below w.heap.size w w' := by
  have HB := Go.Lib.hid (big_ A n cap w)
  by_cases hbig : (4096 : Int) < n
  · go_enter Try.func5, Try.ntmps5
    go_wp2_with fail
    refine HB.out.mono ?_
    rintro e w' ⟨rfl, rfl⟩
    go_wp2_with fail
    go_ret
    exact ⟨rfl, Below.refl _ _⟩
  · have hb2 := big_ A n cap w
    rw [decide_eq_false hbig] at hb2
    have HB2 := Go.Lib.hid hb2
    have HRD := Go.Lib.hid (fun w1 (hb : Below w.heap.size w w1) => (h.below hb (Nat.le_refl _)).mono (Nat.le_refl _) hb.size)
    have HW := Go.Lib.hid (Below.refl w.heap.size w)
    clear hb2 HB hbig h
    have hnn : n ≤ 140737488355328 := by omega
    clear hn
    go_enter Try.func5, Try.ntmps5
    go_wp2_with fail
    refine HB2.out.mono ?_
    rintro e w' ⟨rfl, rfl⟩
    have HD := Go.Lib.hid (drawOut A n cap bs _ (HRD.out _ HW.out) hs hnn)
    go_wp2_with fail
    refine HD.out.mono ?_
    rintro _ w1 ⟨zs, Bz, cz, pc, rfl, hlz, lz, b1⟩
    have HW := Go.Lib.hid (HW.out.trans (b1.mono HW.out.size))
    have Lz := Go.Lib.hid lz
    clear lz b1 HD
    obtain ⟨hlz0, hlz1⟩ := hlz
    obtain ⟨sp, sc, hP⟩ := spread_pair zs
    have HP1 := Go.Lib.hid (fun w0 L0 => implSpread Bz cz zs w0 L0)
    have HP2 := Go.Lib.hid (fun w0 L0 => specSpread Bz cz zs w0 L0)
    rw [hP] at HP1 HP2
    have HO1 := Go.Lib.hid (fun w0 L0 => implOut Bz cz zs pc w0 L0)
    have HO2 := Go.Lib.hid (fun w0 L0 => specOut Bz cz zs pc w0 L0)
    have hpp : (sp != sp) = false := by simp
    have hsc : (sc != sc) = false := by simp
    rcases out_cases zs pc with ⟨e, he, hR⟩ | ⟨hT, ⟨p0, p1⟩, hR⟩
    · rw [hR] at HO1 HO2
      have heb : (e != 0) = true := by simpa using he
      have hee : (e != e) = false := by simp
      clear he hR hP
      go_wp2_with fail
      refine (HO1.out _ Lz.out).mono ?_
      rintro _ w2 ⟨Ao, co, rfl, o2, b2⟩
      try dsimp only at o2
      have Lz := Go.Lib.hid (Lz.out.below b2)
      have HW := Go.Lib.hid (HW.out.trans (b2.mono HW.out.size))
      have Lo := Go.Lib.hid (lst0 o2 (by simp))
      clear o2 b2
      go_wp2_with fail
      refine (HO2.out _ Lz.out).mono ?_
      rintro _ w3 ⟨Au, cu, rfl, o3, b3⟩
      try dsimp only at o3
      have Lz := Go.Lib.hid (Lz.out.below b3)
      have Lo := Go.Lib.hid (Lo.out.below b3)
      have HW := Go.Lib.hid (HW.out.trans (b3.mono HW.out.size))
      have Lu := Go.Lib.hid (lst0 o3 (by simp))
      clear o3 b3
      have HD := Go.Lib.hid (drawSlack A n cap bs _ (HRD.out _ HW.out) hs hnn)
      go_wp2_with fail
      refine HD.out.mono ?_
      rintro _ w4 ⟨xs, Bx, cx, l, rfl, hlx, lx, b4⟩
      have Lz := Go.Lib.hid (Lz.out.below b4)
      have Lo := Go.Lib.hid (Lo.out.below b4)
      have Lu := Go.Lib.hid (Lu.out.below b4)
      have HW := Go.Lib.hid (HW.out.trans (b4.mono HW.out.size))
      have Lx := Go.Lib.hid lx
      clear lx b4 HD
      obtain ⟨hlx0, hlx1⟩ := hlx
      have HL1 := Go.Lib.hid (fun w0 L0 => implSlack Bx cx xs l w0 L0)
      have HL2 := Go.Lib.hid (fun w0 L0 => specSlack Bx cx xs l w0 L0)
      rcases slack_cases xs l with ⟨f, hf, hS⟩ | ⟨hX, hS⟩
      · rw [hS] at HL1 HL2
        have hfb : (f != 0) = true := by simpa using hf
        have hf0 : (f == 0) = false := by simpa using hf
        have hff : (f != f) = false := by simp
        clear hS hf
        go_wp2_with fail
        refine (HL1.out _ Lx.out).mono ?_
        rintro _ w5 ⟨Al, cl, rfl, o5, b5⟩
        try dsimp only at o5
        have Lz := Go.Lib.hid (Lz.out.below b5)
        have Lo := Go.Lib.hid (Lo.out.below b5)
        have Lu := Go.Lib.hid (Lu.out.below b5)
        have Lx := Go.Lib.hid (Lx.out.below b5)
        have HW := Go.Lib.hid (HW.out.trans (b5.mono HW.out.size))
        have Ll := Go.Lib.hid (lst0 o5 (by simp))
        clear o5 b5
        go_wp2_with fail
        refine (HL2.out _ Lx.out).mono ?_
        rintro _ w6 ⟨Ak, ck, rfl, o6, b6⟩
        try dsimp only at o6
        have Lz := Go.Lib.hid (Lz.out.below b6)
        have Lo := Go.Lib.hid (Lo.out.below b6)
        have Lu := Go.Lib.hid (Lu.out.below b6)
        have Lx := Go.Lib.hid (Lx.out.below b6)
        have Ll := Go.Lib.hid (Ll.out.below b6)
        have HW := Go.Lib.hid (HW.out.trans (b6.mono HW.out.size))
        have Lk := Go.Lib.hid (lst0 o6 (by simp))
        clear o6 b6
        go_wp2_with fail
        refine (HP1.out _ Lz.out).mono ?_
        rintro _ w7 ⟨rfl, b7⟩
        have Lz := Go.Lib.hid (Lz.out.below b7)
        have Lo := Go.Lib.hid (Lo.out.below b7)
        have Lu := Go.Lib.hid (Lu.out.below b7)
        have Lx := Go.Lib.hid (Lx.out.below b7)
        have Ll := Go.Lib.hid (Ll.out.below b7)
        have Lk := Go.Lib.hid (Lk.out.below b7)
        have HW := Go.Lib.hid (HW.out.trans (b7.mono HW.out.size))
        clear b7
        go_wp2_with fail
        refine (HP2.out _ Lz.out).mono ?_
        rintro _ w8 ⟨rfl, b8⟩
        have Lz := Go.Lib.hid (Lz.out.below b8)
        have Lo := Go.Lib.hid (Lo.out.below b8)
        have Lu := Go.Lib.hid (Lu.out.below b8)
        have Lx := Go.Lib.hid (Lx.out.below b8)
        have Ll := Go.Lib.hid (Ll.out.below b8)
        have Lk := Go.Lib.hid (Lk.out.below b8)
        have HW := Go.Lib.hid (HW.out.trans (b8.mono HW.out.size))
        clear b8
        have HE := Go.Lib.hid (likeInts_same _ _ _ co cu _ _ _ _ _ _ Lo.out.rd Lu.out.rd (by first | omega | simp))
        go_wp2_with fail
        refine HE.out.mono ?_
        rintro _ w9 ⟨rfl, x9, e9⟩
        have b9 := below_of_drewN e9
        have Lz := Go.Lib.hid (Lz.out.below b9)
        have Lo := Go.Lib.hid (Lo.out.below b9)
        have Lu := Go.Lib.hid (Lu.out.below b9)
        have Lx := Go.Lib.hid (Lx.out.below b9)
        have Ll := Go.Lib.hid (Ll.out.below b9)
        have Lk := Go.Lib.hid (Lk.out.below b9)
        have HW := Go.Lib.hid (HW.out.trans (b9.mono HW.out.size))
        clear b9 e9 HE
        have HE := Go.Lib.hid (likeInts_same _ _ _ cl ck _ _ _ _ _ _ Ll.out.rd Lk.out.rd (by first | omega | simp))
        go_wp2_with fail
        refine HE.out.mono ?_
        rintro _ w10 ⟨rfl, x10, e10⟩
        have b10 := below_of_drewN e10
        have Lz := Go.Lib.hid (Lz.out.below b10)
        have Lo := Go.Lib.hid (Lo.out.below b10)
        have Lu := Go.Lib.hid (Lu.out.below b10)
        have Lx := Go.Lib.hid (Lx.out.below b10)
        have Ll := Go.Lib.hid (Ll.out.below b10)
        have Lk := Go.Lib.hid (Lk.out.below b10)
        have HW := Go.Lib.hid (HW.out.trans (b10.mono HW.out.size))
        clear b10 e10 HE
        go_wp2_with fail
        go_loopw [19] (fun i wr => i = .int .i64 0 ∧ wr = w10) (fun _ _ => 0)
        case atStart => exact ⟨rfl, rfl⟩
        case round =>
          obtain ⟨rfl, rfl⟩ := hrel
          go_wp2_with fail
          go_ret
          exact ⟨rfl, HW.out⟩
      · rw [hS] at HL1 HL2
        have HME := Go.Lib.hid (fun (k : Nat) (hk : k < xs.length) => slack_mem (l := l) hk)
        have hsl := idxI_len (fun t => decide (t < l)) xs xs.length
        clear hS hX
        generalize idxI (fun t => decide (t < l)) xs xs.length = ls at *
        have hls : ls.length ≤ 49 := by omega
        clear hsl
        go_wp2_with fail
        refine (HL1.out _ Lx.out).mono ?_
        rintro _ w11 ⟨Al, cl, rfl, o11, b11⟩
        try dsimp only at o11
        have Lz := Go.Lib.hid (Lz.out.below b11)
        have Lo := Go.Lib.hid (Lo.out.below b11)
        have Lu := Go.Lib.hid (Lu.out.below b11)
        have Lx := Go.Lib.hid (Lx.out.below b11)
        have HW := Go.Lib.hid (HW.out.trans (b11.mono HW.out.size))
        have Ll := Go.Lib.hid (lst0 o11 (by omega))
        clear o11 b11
        go_wp2_with fail
        refine (HL2.out _ Lx.out).mono ?_
        rintro _ w12 ⟨Ak, ck, rfl, o12, b12⟩
        try dsimp only at o12
        have Lz := Go.Lib.hid (Lz.out.below b12)
        have Lo := Go.Lib.hid (Lo.out.below b12)
        have Lu := Go.Lib.hid (Lu.out.below b12)
        have Lx := Go.Lib.hid (Lx.out.below b12)
        have Ll := Go.Lib.hid (Ll.out.below b12)
        have HW := Go.Lib.hid (HW.out.trans (b12.mono HW.out.size))
        have Lk := Go.Lib.hid (lst0 o12 (by omega))
        clear o12 b12
        go_wp2_with fail
        refine (HP1.out _ Lz.out).mono ?_
        rintro _ w13 ⟨rfl, b13⟩
        have Lz := Go.Lib.hid (Lz.out.below b13)
        have Lo := Go.Lib.hid (Lo.out.below b13)
        have Lu := Go.Lib.hid (Lu.out.below b13)
        have Lx := Go.Lib.hid (Lx.out.below b13)
        have Ll := Go.Lib.hid (Ll.out.below b13)
        have Lk := Go.Lib.hid (Lk.out.below b13)
        have HW := Go.Lib.hid (HW.out.trans (b13.mono HW.out.size))
        clear b13
        go_wp2_with fail
        refine (HP2.out _ Lz.out).mono ?_
        rintro _ w14 ⟨rfl, b14⟩
        have Lz := Go.Lib.hid (Lz.out.below b14)
        have Lo := Go.Lib.hid (Lo.out.below b14)
        have Lu := Go.Lib.hid (Lu.out.below b14)
        have Lx := Go.Lib.hid (Lx.out.below b14)
        have Ll := Go.Lib.hid (Ll.out.below b14)
        have Lk := Go.Lib.hid (Lk.out.below b14)
        have HW := Go.Lib.hid (HW.out.trans (b14.mono HW.out.size))
        clear b14
        have HE := Go.Lib.hid (likeInts_same _ _ _ co cu _ _ _ _ _ _ Lo.out.rd Lu.out.rd (by first | omega | simp))
        go_wp2_with fail
        refine HE.out.mono ?_
        rintro _ w15 ⟨rfl, x15, e15⟩
        have b15 := below_of_drewN e15
        have Lz := Go.Lib.hid (Lz.out.below b15)
        have Lo := Go.Lib.hid (Lo.out.below b15)
        have Lu := Go.Lib.hid (Lu.out.below b15)
        have Lx := Go.Lib.hid (Lx.out.below b15)
        have Ll := Go.Lib.hid (Ll.out.below b15)
        have Lk := Go.Lib.hid (Lk.out.below b15)
        have HW := Go.Lib.hid (HW.out.trans (b15.mono HW.out.size))
        clear b15 e15 HE
        have HE := Go.Lib.hid (likeInts_same _ _ _ cl ck _ _ _ _ _ _ Ll.out.rd Lk.out.rd (by first | omega | simp))
        go_wp2_with fail
        refine HE.out.mono ?_
        rintro _ w16 ⟨rfl, x16, e16⟩
        have b16 := below_of_drewN e16
        have Lz := Go.Lib.hid (Lz.out.below b16)
        have Lo := Go.Lib.hid (Lo.out.below b16)
        have Lu := Go.Lib.hid (Lu.out.below b16)
        have Lx := Go.Lib.hid (Lx.out.below b16)
        have Ll := Go.Lib.hid (Ll.out.below b16)
        have Lk := Go.Lib.hid (Lk.out.below b16)
        have HW := Go.Lib.hid (HW.out.trans (b16.mono HW.out.size))
        clear b16 e16 HE
        go_wp2_with fail
        go_loopw [19] (fun i wr => ∃ k : Nat, k ≤ xs.length ∧ i = .int .i64 k ∧ Eqw w16 wr) (fun i _ => xs.length - (intOf i).toNat)
        case atStart => exact ⟨0, Nat.zero_le _, rfl, Eqw.refl _⟩
        case round =>
          obtain ⟨k, hk, rfl, hq⟩ := hrel
          have HQ := Go.Lib.hid hq
          have Lz := Go.Lib.hid (Lz.out.eqw hq)
          have Lo := Go.Lib.hid (Lo.out.eqw hq)
          have Lu := Go.Lib.hid (Lu.out.eqw hq)
          have Lx := Go.Lib.hid (Lx.out.eqw hq)
          have Ll := Go.Lib.hid (Ll.out.eqw hq)
          have Lk := Go.Lib.hid (Lk.out.eqw hq)
          have HW := Go.Lib.hid (HW.out.trans (hq.below.mono HW.out.size))
          clear hq
          by_cases hlt : k < xs.length
          case pos =>
            obtain ⟨xb, xo, rfl, -, hxc⟩ := Lx.out.at_ hlt
            have hcell : wr.cell? ⟨xb, xo + k, none⟩ = some (.int .i64 (xs.getD k 0)) := hxc k hlt
            have HHI := Go.Lib.hid (fun w0 (L0 : Ls ls Al cl w0) => hasInt_ Al ls.length cl ls 0 w0.heap.size k w0 L0.rd (by omega))
            rw [HME.out k hlt] at HHI
            clear hxc
            have hkl : (k : Int) < xs.length := by omega
            have hxl2 : 0 < xs.length := by omega
            generalize xs.getD k 0 = y at *
            by_cases hy : y < l
            case pos =>
              rw [decide_eq_true hy] at HHI
              go_upto_region 16 with fail
              go_region_held3 (fun w' => w'.cell? ⟨xb, xo + k, none⟩ = some (.int .i64 y) ∧ Ls ls Al cl w' ∧ Eqw w16 w') (first | exact ⟨by assumption, Ll.out.drewN 1, HQ.out.drewN 1⟩ | assumption) ((go_at_call 35; refine (HHI.out _ (by obtain ⟨_, hh, _⟩ := (by assumption : _ ∧ Ls ls Al cl _ ∧ _); exact hh)).mono ?_; rintro _ _ ⟨rfl, rfl⟩))
              all_goals (go_wp2_with fail; go_roundw; (case rel => exact ⟨k + 1, by omega, by go_num, HQ.out.drewN 1⟩); (case measure => simp [intOf]; omega))
            case neg =>
              rw [decide_eq_false hy] at HHI
              go_upto_region 16 with fail
              go_region_held3 (fun w' => w'.cell? ⟨xb, xo + k, none⟩ = some (.int .i64 y) ∧ Ls ls Al cl w' ∧ Eqw w16 w') (first | exact ⟨by assumption, Ll.out.drewN 1, HQ.out.drewN 1⟩ | assumption) ((go_at_call 35; refine (HHI.out _ (by obtain ⟨_, hh, _⟩ := (by assumption : _ ∧ Ls ls Al cl _ ∧ _); exact hh)).mono ?_; rintro _ _ ⟨rfl, rfl⟩))
              all_goals (go_wp2_with fail; go_roundw; (case rel => exact ⟨k + 1, by omega, by go_num, HQ.out.drewN 1⟩); (case measure => simp [intOf]; omega))
          case neg =>
            obtain rfl : k = xs.length := by omega
            go_wp2_with fail
            go_ret
            exact ⟨rfl, HW.out⟩
    · rw [hR] at HO1 HO2
      have HNB := Go.Lib.hid (fun w0 L0 => implOut Bz cz zs 0 w0 L0)
      rw [show outR zs 0 = (idxI (farB (meanI zs) 0) zs zs.length, 0) by unfold outR; rw [if_pos (tenB_iff.2 hT)]; rfl] at HNB
      have HSP := Go.Lib.hid (show sp = maxTo zs zs.length - minTo zs zs.length by unfold spreadR at hP; rw [if_pos (tenB_iff.2 hT)] at hP; injection hP with h1 _; exact h1.symm)
      have HNR := Go.Lib.hid (fun x (hx : x ∈ idxI (farB (meanI zs) pc) zs zs.length) => narrow hT p0 hx)
      have HFL := Go.Lib.hid (fun (h : ¬ 0 < sp) => flat hT (by have := HSP.out; omega))
      have hol := idxI_len (farB (meanI zs) pc) zs zs.length
      have hnl := idxI_len (farB (meanI zs) 0) zs zs.length
      clear hR hP hT HSP p0 p1
      generalize idxI (farB (meanI zs) pc) zs zs.length = os at *
      generalize idxI (farB (meanI zs) 0) zs zs.length = ns at *
      have hos : os.length ≤ 49 := by omega
      have hns : ns.length ≤ 49 := by omega
      clear hol hnl
      go_wp2_with fail
      refine (HO1.out _ Lz.out).mono ?_
      rintro _ w17 ⟨Ao, co, rfl, o17, b17⟩
      try dsimp only at o17
      have Lz := Go.Lib.hid (Lz.out.below b17)
      have HW := Go.Lib.hid (HW.out.trans (b17.mono HW.out.size))
      have Lo := Go.Lib.hid (lst0 o17 (by omega))
      clear o17 b17
      go_wp2_with fail
      refine (HO2.out _ Lz.out).mono ?_
      rintro _ w18 ⟨Au, cu, rfl, o18, b18⟩
      try dsimp only at o18
      have Lz := Go.Lib.hid (Lz.out.below b18)
      have Lo := Go.Lib.hid (Lo.out.below b18)
      have HW := Go.Lib.hid (HW.out.trans (b18.mono HW.out.size))
      have Lu := Go.Lib.hid (lst0 o18 (by omega))
      clear o18 b18
      have HD := Go.Lib.hid (drawSlack A n cap bs _ (HRD.out _ HW.out) hs hnn)
      go_wp2_with fail
      refine HD.out.mono ?_
      rintro _ w19 ⟨xs, Bx, cx, l, rfl, hlx, lx, b19⟩
      have Lz := Go.Lib.hid (Lz.out.below b19)
      have Lo := Go.Lib.hid (Lo.out.below b19)
      have Lu := Go.Lib.hid (Lu.out.below b19)
      have HW := Go.Lib.hid (HW.out.trans (b19.mono HW.out.size))
      have Lx := Go.Lib.hid lx
      clear lx b19 HD
      obtain ⟨hlx0, hlx1⟩ := hlx
      have HL1 := Go.Lib.hid (fun w0 L0 => implSlack Bx cx xs l w0 L0)
      have HL2 := Go.Lib.hid (fun w0 L0 => specSlack Bx cx xs l w0 L0)
      rcases slack_cases xs l with ⟨f, hf, hS⟩ | ⟨hX, hS⟩
      · rw [hS] at HL1 HL2
        have hfb : (f != 0) = true := by simpa using hf
        have hf0 : (f == 0) = false := by simpa using hf
        have hff : (f != f) = false := by simp
        clear hS hf
        go_wp2_with fail
        refine (HL1.out _ Lx.out).mono ?_
        rintro _ w20 ⟨Al, cl, rfl, o20, b20⟩
        try dsimp only at o20
        have Lz := Go.Lib.hid (Lz.out.below b20)
        have Lo := Go.Lib.hid (Lo.out.below b20)
        have Lu := Go.Lib.hid (Lu.out.below b20)
        have Lx := Go.Lib.hid (Lx.out.below b20)
        have HW := Go.Lib.hid (HW.out.trans (b20.mono HW.out.size))
        have Ll := Go.Lib.hid (lst0 o20 (by simp))
        clear o20 b20
        go_wp2_with fail
        refine (HL2.out _ Lx.out).mono ?_
        rintro _ w21 ⟨Ak, ck, rfl, o21, b21⟩
        try dsimp only at o21
        have Lz := Go.Lib.hid (Lz.out.below b21)
        have Lo := Go.Lib.hid (Lo.out.below b21)
        have Lu := Go.Lib.hid (Lu.out.below b21)
        have Lx := Go.Lib.hid (Lx.out.below b21)
        have Ll := Go.Lib.hid (Ll.out.below b21)
        have HW := Go.Lib.hid (HW.out.trans (b21.mono HW.out.size))
        have Lk := Go.Lib.hid (lst0 o21 (by simp))
        clear o21 b21
        go_wp2_with fail
        refine (HP1.out _ Lz.out).mono ?_
        rintro _ w22 ⟨rfl, b22⟩
        have Lz := Go.Lib.hid (Lz.out.below b22)
        have Lo := Go.Lib.hid (Lo.out.below b22)
        have Lu := Go.Lib.hid (Lu.out.below b22)
        have Lx := Go.Lib.hid (Lx.out.below b22)
        have Ll := Go.Lib.hid (Ll.out.below b22)
        have Lk := Go.Lib.hid (Lk.out.below b22)
        have HW := Go.Lib.hid (HW.out.trans (b22.mono HW.out.size))
        clear b22
        go_wp2_with fail
        refine (HP2.out _ Lz.out).mono ?_
        rintro _ w23 ⟨rfl, b23⟩
        have Lz := Go.Lib.hid (Lz.out.below b23)
        have Lo := Go.Lib.hid (Lo.out.below b23)
        have Lu := Go.Lib.hid (Lu.out.below b23)
        have Lx := Go.Lib.hid (Lx.out.below b23)
        have Ll := Go.Lib.hid (Ll.out.below b23)
        have Lk := Go.Lib.hid (Lk.out.below b23)
        have HW := Go.Lib.hid (HW.out.trans (b23.mono HW.out.size))
        clear b23
        have HE := Go.Lib.hid (likeInts_same _ _ _ co cu _ _ _ _ _ _ Lo.out.rd Lu.out.rd (by first | omega | simp))
        go_wp2_with fail
        refine HE.out.mono ?_
        rintro _ w24 ⟨rfl, x24, e24⟩
        have b24 := below_of_drewN e24
        have Lz := Go.Lib.hid (Lz.out.below b24)
        have Lo := Go.Lib.hid (Lo.out.below b24)
        have Lu := Go.Lib.hid (Lu.out.below b24)
        have Lx := Go.Lib.hid (Lx.out.below b24)
        have Ll := Go.Lib.hid (Ll.out.below b24)
        have Lk := Go.Lib.hid (Lk.out.below b24)
        have HW := Go.Lib.hid (HW.out.trans (b24.mono HW.out.size))
        clear b24 e24 HE
        have HE := Go.Lib.hid (likeInts_same _ _ _ cl ck _ _ _ _ _ _ Ll.out.rd Lk.out.rd (by first | omega | simp))
        go_wp2_with fail
        refine HE.out.mono ?_
        rintro _ w25 ⟨rfl, x25, e25⟩
        have b25 := below_of_drewN e25
        have Lz := Go.Lib.hid (Lz.out.below b25)
        have Lo := Go.Lib.hid (Lo.out.below b25)
        have Lu := Go.Lib.hid (Lu.out.below b25)
        have Lx := Go.Lib.hid (Lx.out.below b25)
        have Ll := Go.Lib.hid (Ll.out.below b25)
        have Lk := Go.Lib.hid (Lk.out.below b25)
        have HW := Go.Lib.hid (HW.out.trans (b25.mono HW.out.size))
        clear b25 e25 HE
        go_wp2_with fail
        go_loopw [19] (fun i wr => i = .int .i64 0 ∧ wr = w25) (fun _ _ => 0)
        case atStart => exact ⟨rfl, rfl⟩
        case round =>
          obtain ⟨rfl, rfl⟩ := hrel
          skip
          go_wp2_with fail
          refine (HNB.out _ Lz.out).mono ?_
          rintro _ w26 ⟨An, cn, rfl, o26, b26⟩
          try dsimp only at o26
          have Lz := Go.Lib.hid (Lz.out.below b26)
          have Lo := Go.Lib.hid (Lo.out.below b26)
          have Lu := Go.Lib.hid (Lu.out.below b26)
          have Lx := Go.Lib.hid (Lx.out.below b26)
          have Ll := Go.Lib.hid (Ll.out.below b26)
          have Lk := Go.Lib.hid (Lk.out.below b26)
          have HW := Go.Lib.hid (HW.out.trans (b26.mono HW.out.size))
          have Ln := Go.Lib.hid (lst0 o26 (by omega))
          clear o26 b26
          go_wp2_with fail
          go_loopw [22] (fun i wr => ∃ j : Nat, j ≤ os.length ∧ i = .int .i64 j ∧ wr = w26) (fun i _ => os.length - (intOf i).toNat)
          case atStart => exact ⟨0, Nat.zero_le _, rfl, rfl⟩
          case round =>
            obtain ⟨j, hj, rfl, rfl⟩ := hrel
            by_cases hjt : j < os.length
            case pos =>
              obtain ⟨ob, oo, hAo, -, hoc⟩ := Lo.out.at_ hjt
              subst hAo
              have hcell := hoc j hjt
              have HHN := Go.Lib.hid (hasInt_mem An ns.length cn ns 0 _ (os.getD j 0) wr Ln.out.rd (HNR.out _ (getD_mem hjt)) (by omega))
              have hjl : (j : Int) < os.length := by omega
              clear hoc
              generalize os.getD j 0 = y2 at *
              go_wp2_with fail
              refine (HHN.out).mono ?_
              rintro _ _ ⟨rfl, rfl⟩
              go_wp2_with fail
              go_roundw
              case rel => exact ⟨j + 1, by omega, by go_num, by first | rfl | trivial⟩
              case measure => simp [intOf]; omega
            case neg =>
              obtain rfl : j = os.length := by omega
              by_cases hsp : 0 < sp
              case pos =>
                go_wp2_with fail
                go_ret
                exact ⟨rfl, HW.out⟩
              case neg =>
                have hn0 := HFL.out (by omega)
                subst hn0
                go_wp2_with fail
                go_ret
                exact ⟨rfl, HW.out⟩
      · rw [hS] at HL1 HL2
        have HME := Go.Lib.hid (fun (k : Nat) (hk : k < xs.length) => slack_mem (l := l) hk)
        have hsl := idxI_len (fun t => decide (t < l)) xs xs.length
        clear hS hX
        generalize idxI (fun t => decide (t < l)) xs xs.length = ls at *
        have hls : ls.length ≤ 49 := by omega
        clear hsl
        go_wp2_with fail
        refine (HL1.out _ Lx.out).mono ?_
        rintro _ w27 ⟨Al, cl, rfl, o27, b27⟩
        try dsimp only at o27
        have Lz := Go.Lib.hid (Lz.out.below b27)
        have Lo := Go.Lib.hid (Lo.out.below b27)
        have Lu := Go.Lib.hid (Lu.out.below b27)
        have Lx := Go.Lib.hid (Lx.out.below b27)
        have HW := Go.Lib.hid (HW.out.trans (b27.mono HW.out.size))
        have Ll := Go.Lib.hid (lst0 o27 (by omega))
        clear o27 b27
        go_wp2_with fail
        refine (HL2.out _ Lx.out).mono ?_
        rintro _ w28 ⟨Ak, ck, rfl, o28, b28⟩
        try dsimp only at o28
        have Lz := Go.Lib.hid (Lz.out.below b28)
        have Lo := Go.Lib.hid (Lo.out.below b28)
        have Lu := Go.Lib.hid (Lu.out.below b28)
        have Lx := Go.Lib.hid (Lx.out.below b28)
        have Ll := Go.Lib.hid (Ll.out.below b28)
        have HW := Go.Lib.hid (HW.out.trans (b28.mono HW.out.size))
        have Lk := Go.Lib.hid (lst0 o28 (by omega))
        clear o28 b28
        go_wp2_with fail
        refine (HP1.out _ Lz.out).mono ?_
        rintro _ w29 ⟨rfl, b29⟩
        have Lz := Go.Lib.hid (Lz.out.below b29)
        have Lo := Go.Lib.hid (Lo.out.below b29)
        have Lu := Go.Lib.hid (Lu.out.below b29)
        have Lx := Go.Lib.hid (Lx.out.below b29)
        have Ll := Go.Lib.hid (Ll.out.below b29)
        have Lk := Go.Lib.hid (Lk.out.below b29)
        have HW := Go.Lib.hid (HW.out.trans (b29.mono HW.out.size))
        clear b29
        go_wp2_with fail
        refine (HP2.out _ Lz.out).mono ?_
        rintro _ w30 ⟨rfl, b30⟩
        have Lz := Go.Lib.hid (Lz.out.below b30)
        have Lo := Go.Lib.hid (Lo.out.below b30)
        have Lu := Go.Lib.hid (Lu.out.below b30)
        have Lx := Go.Lib.hid (Lx.out.below b30)
        have Ll := Go.Lib.hid (Ll.out.below b30)
        have Lk := Go.Lib.hid (Lk.out.below b30)
        have HW := Go.Lib.hid (HW.out.trans (b30.mono HW.out.size))
        clear b30
        have HE := Go.Lib.hid (likeInts_same _ _ _ co cu _ _ _ _ _ _ Lo.out.rd Lu.out.rd (by first | omega | simp))
        go_wp2_with fail
        refine HE.out.mono ?_
        rintro _ w31 ⟨rfl, x31, e31⟩
        have b31 := below_of_drewN e31
        have Lz := Go.Lib.hid (Lz.out.below b31)
        have Lo := Go.Lib.hid (Lo.out.below b31)
        have Lu := Go.Lib.hid (Lu.out.below b31)
        have Lx := Go.Lib.hid (Lx.out.below b31)
        have Ll := Go.Lib.hid (Ll.out.below b31)
        have Lk := Go.Lib.hid (Lk.out.below b31)
        have HW := Go.Lib.hid (HW.out.trans (b31.mono HW.out.size))
        clear b31 e31 HE
        have HE := Go.Lib.hid (likeInts_same _ _ _ cl ck _ _ _ _ _ _ Ll.out.rd Lk.out.rd (by first | omega | simp))
        go_wp2_with fail
        refine HE.out.mono ?_
        rintro _ w32 ⟨rfl, x32, e32⟩
        have b32 := below_of_drewN e32
        have Lz := Go.Lib.hid (Lz.out.below b32)
        have Lo := Go.Lib.hid (Lo.out.below b32)
        have Lu := Go.Lib.hid (Lu.out.below b32)
        have Lx := Go.Lib.hid (Lx.out.below b32)
        have Ll := Go.Lib.hid (Ll.out.below b32)
        have Lk := Go.Lib.hid (Lk.out.below b32)
        have HW := Go.Lib.hid (HW.out.trans (b32.mono HW.out.size))
        clear b32 e32 HE
        go_wp2_with fail
        go_loopw [19] (fun i wr => ∃ k : Nat, k ≤ xs.length ∧ i = .int .i64 k ∧ Eqw w32 wr) (fun i _ => xs.length - (intOf i).toNat)
        case atStart => exact ⟨0, Nat.zero_le _, rfl, Eqw.refl _⟩
        case round =>
          obtain ⟨k, hk, rfl, hq⟩ := hrel
          have HQ := Go.Lib.hid hq
          have Lz := Go.Lib.hid (Lz.out.eqw hq)
          have Lo := Go.Lib.hid (Lo.out.eqw hq)
          have Lu := Go.Lib.hid (Lu.out.eqw hq)
          have Lx := Go.Lib.hid (Lx.out.eqw hq)
          have Ll := Go.Lib.hid (Ll.out.eqw hq)
          have Lk := Go.Lib.hid (Lk.out.eqw hq)
          have HW := Go.Lib.hid (HW.out.trans (hq.below.mono HW.out.size))
          clear hq
          by_cases hlt : k < xs.length
          case pos =>
            obtain ⟨xb, xo, rfl, -, hxc⟩ := Lx.out.at_ hlt
            have hcell : wr.cell? ⟨xb, xo + k, none⟩ = some (.int .i64 (xs.getD k 0)) := hxc k hlt
            have HHI := Go.Lib.hid (fun w0 (L0 : Ls ls Al cl w0) => hasInt_ Al ls.length cl ls 0 w0.heap.size k w0 L0.rd (by omega))
            rw [HME.out k hlt] at HHI
            clear hxc
            have hkl : (k : Int) < xs.length := by omega
            have hxl2 : 0 < xs.length := by omega
            generalize xs.getD k 0 = y at *
            by_cases hy : y < l
            case pos =>
              rw [decide_eq_true hy] at HHI
              go_upto_region 16 with fail
              go_region_held3 (fun w' => w'.cell? ⟨xb, xo + k, none⟩ = some (.int .i64 y) ∧ Ls ls Al cl w' ∧ Eqw w32 w') (first | exact ⟨by assumption, Ll.out.drewN 1, HQ.out.drewN 1⟩ | assumption) ((go_at_call 35; refine (HHI.out _ (by obtain ⟨_, hh, _⟩ := (by assumption : _ ∧ Ls ls Al cl _ ∧ _); exact hh)).mono ?_; rintro _ _ ⟨rfl, rfl⟩))
              all_goals (go_wp2_with fail; go_roundw; (case rel => exact ⟨k + 1, by omega, by go_num, HQ.out.drewN 1⟩); (case measure => simp [intOf]; omega))
            case neg =>
              rw [decide_eq_false hy] at HHI
              go_upto_region 16 with fail
              go_region_held3 (fun w' => w'.cell? ⟨xb, xo + k, none⟩ = some (.int .i64 y) ∧ Ls ls Al cl w' ∧ Eqw w32 w') (first | exact ⟨by assumption, Ll.out.drewN 1, HQ.out.drewN 1⟩ | assumption) ((go_at_call 35; refine (HHI.out _ (by obtain ⟨_, hh, _⟩ := (by assumption : _ ∧ Ls ls Al cl _ ∧ _); exact hh)).mono ?_; rintro _ _ ⟨rfl, rfl⟩))
              all_goals (go_wp2_with fail; go_roundw; (case rel => exact ⟨k + 1, by omega, by go_num, HQ.out.drewN 1⟩); (case measure => simp [intOf]; omega))
          case neg =>
            obtain rfl : k = xs.length := by omega
            skip
            go_wp2_with fail
            refine (HNB.out _ Lz.out).mono ?_
            rintro _ w33 ⟨An, cn, rfl, o33, b33⟩
            try dsimp only at o33
            have Lz := Go.Lib.hid (Lz.out.below b33)
            have Lo := Go.Lib.hid (Lo.out.below b33)
            have Lu := Go.Lib.hid (Lu.out.below b33)
            have Lx := Go.Lib.hid (Lx.out.below b33)
            have Ll := Go.Lib.hid (Ll.out.below b33)
            have Lk := Go.Lib.hid (Lk.out.below b33)
            have HW := Go.Lib.hid (HW.out.trans (b33.mono HW.out.size))
            have Ln := Go.Lib.hid (lst0 o33 (by omega))
            clear o33 b33
            go_wp2_with fail
            go_loopw [22] (fun i wr => ∃ j : Nat, j ≤ os.length ∧ i = .int .i64 j ∧ wr = w33) (fun i _ => os.length - (intOf i).toNat)
            case atStart => exact ⟨0, Nat.zero_le _, rfl, rfl⟩
            case round =>
              obtain ⟨j, hj, rfl, rfl⟩ := hrel
              by_cases hjt : j < os.length
              case pos =>
                obtain ⟨ob, oo, hAo, -, hoc⟩ := Lo.out.at_ hjt
                subst hAo
                have hcell := hoc j hjt
                have HHN := Go.Lib.hid (hasInt_mem An ns.length cn ns 0 _ (os.getD j 0) wr Ln.out.rd (HNR.out _ (getD_mem hjt)) (by omega))
                have hjl : (j : Int) < os.length := by omega
                clear hoc
                generalize os.getD j 0 = y2 at *
                go_wp2_with fail
                refine (HHN.out).mono ?_
                rintro _ _ ⟨rfl, rfl⟩
                go_wp2_with fail
                go_roundw
                case rel => exact ⟨j + 1, by omega, by go_num, by first | rfl | trivial⟩
                case measure => simp [intOf]; omega
              case neg =>
                obtain rfl : j = os.length := by omega
                by_cases hsp : 0 < sp
                case pos =>
                  go_wp2_with fail
                  go_ret
                  exact ⟨rfl, HW.out⟩
                case neg =>
                  have hn0 := HFL.out (by omega)
                  subst hn0
                  go_wp2_with fail
                  go_ret
                  exact ⟨rfl, HW.out⟩

set_option maxRecDepth 100000 in
theorem lifted (os : Os) (started : os.Started) (H : Type) (enc : TypeId × Value → H) :
    ReturnsInHanded {} Try.checked os 5 .any (Rows.fnBandsSpec.pre6 enc Try.prog Try.f5 Rows.fnBandsRow.domain false) (Rows.fnBandsSpec.post enc Try.prog Try.f5 false true false false) := by
  refine returnsInHanded_of_change_sized (C := Try.checked) own started (by kernel_rfl) Try.func5
    (ChangeSpec.witness6 (enc := enc) (C := Try.checked) false ⟨#[], #[.slice none 0 0], []⟩ 8 (by kernel_rfl) (by kernel_rfl) (by kernel_rfl) (by kernel_rfl)) ?_
  intro W base args ds gs before hval0 hW hcnd hsz0 _
  have hsz : (DataW.weightsEach Try.prog (Try.f5.params.toList ++ Rows.fnBandsSpec.plain.varTypes Try.prog) (ds ++ gs)).all (· ≤ reachBytes) = true := hsz0
  clear hsz0
  have hval : ∀ (j : Nat) t v, Try.f5.params[j]? = some t → args[j]? = some v → Value.okWide Try.prog W .any base t v := hval0
  clear hval0
  have hW' := hW
  obtain ⟨p, q, hA0, hV, rfl, hfz, hnd⟩ := hW
  have hA : DataW.TrodAll enc Try.prog W 0 (fun _ => true) true Try.f5.params.toList args.toList ds p := hA0
  rw [Try.params5] at hA hval hsz
  obtain ⟨v0, vs0, d0, ds0, p0, q0, hargs, rfl, rfl, h0, r0⟩ := trodAll_cons hA
  obtain ⟨rfl, rfl, rfl⟩ := trodAll_nil r0
  obtain rfl : args = #[v0] := by cases args; simp_all
  obtain ⟨rfl, rfl⟩ := trodVars_none hV
  obtain ⟨a0, len0, cap0, rfl⟩ := okWide_slice Try.underlying22 (hval 0 22 v0 rfl rfl)
  have k0 := h0
  have lt0 : ∀ x ∈ p0, x.block < W.heap.size := by obtain ⟨m, hm⟩ := k0; exact DataW.trod_lt m _ _ _ hm
  obtain ⟨⟨z0, rd0, sz0⟩, hlc0, hp0⟩ := open_list_bytes h0
  have reach0 : len0 * 1 ≤ 140737488351232 := by
    rcases hp0 with hp0 | ⟨E0, S0, rfl, hl0⟩
    · omega
    · have := sized_slice hsz (j := 0) (t := 22) (e := 5) rfl rfl Try.underlying22
      rw [show Try.prog.bytesOf 5 = 1 by kernel_rfl] at this
      simp only [reachBytes] at this
      omega
  clear hA0
  refine (walk a0 len0 cap0 z0 W rd0 reach0 sz0).mono fun e W' ⟨he, bel⟩ => ?_
  subst he
  exact ⟨_, rfl, _, _, _, [], _, [], hW', trodAll_mk1 (shut_bool Try.underlying4 _), (trodAll_cons_mk (Below.trod laidOut (by kernel_rfl) (of_decide_eq_true (by kernel_rfl)) k0 bel lt0) trodAll_mk0), rfl, bel.frame _, fun h => by cases h⟩

theorem over : Rows.fnBandsRow.holds Try.pinned (OpenSpec.ofChange Rows.fnBandsSpec) :=
  OpenClaim.holds_of_wide 5 Try.f5 rfl rfl rfl rfl rfl rfl rfl ⟨rfl, rfl, rfl, rfl, rfl⟩ rfl rfl rfl rfl rfl (by kernel_rfl) Try.func5 (by kernel_rfl)
    (of_decide_eq_true (by kernel_rfl)) (by unfold Func.isWrapper; first | (rw [if_pos (by decide +kernel)]; kernel_rfl) | (rw [if_neg (by decide +kernel)]; exact ⟨rfl, rfl⟩))
    (fun os started H enc _ => lifted os started H enc)

theorem proved : Rows.FnBandsSaid := over
end Go.Proofs.Ytpcaakmcjdginab.fnBands
