/- FnLacings -/
import Derived.Test.YtlmbcidijbohiaaRows
import Derived.Test.YtlmbcidijbohiaaLacLaw
import Derived.Test.YtlmbcidijbohiaaBig
import Derived.Test.YtlmbcidijbohiaaOpenB
import Derived.Test.YtlmbcidijbohiaaLikesI
import Derived.Test.YtlmbcidijbohiaaInts
import Derived.WalkKit
import Derived.ProofKit
import Derived.OpenShut
import Derived.ShutString
import Derived.SizedLaws
namespace Go.Proofs.Ytlmbcidijbohiaa.fnLacings
open Go.ChangeShapes Go.WideShapes Go.ChangeAt Go.RowKit
open Go.ChangeMaps (open_string shut_string)
set_option linter.unusedVariables false

theorem eqw_below {w w' : World} (e : Eqw w w') : Below w.heap.size w w' := e.below (Below.refl _ _)
theorem usualR_bad {n c : Int} (h : ¬ (holes6 n = true ∧ 0 ≤ c ∧ c ≤ n / 2 - 1)) : ∃ z : Int, z ≠ 0 ∧ usualR n c = ([], z) := by
  by_cases hh : holes6 n = true
  · exact ⟨2, by omega, by unfold usualR; rw [if_pos hh, if_neg (fun e => h ⟨hh, e⟩)]⟩
  · exact ⟨1, by omega, by unfold usualR; rw [if_neg hh]⟩
set_option linter.unusedSimpArgs false
set_option maxRecDepth 100000 in
set_option maxHeartbeats 16000000 in
theorem walk (A : Option Addr) (n cap : Nat) (bs : List Int) (w : World) (h : Rd w 0 w.heap.size A n (byts bs)) (hn : n * 1 ≤ 140737488351232) (hs : ∀ z ∈ bs, 0 ≤ z ∧ z ≤ 255) :
    Calls Try.prog 3 #[.slice A n cap] w fun e w' => e = .returned (.bool true) ∧ Below w.heap.size w w' := by
  have HB := Go.Lib.hid (big_ A n cap w)
  by_cases hbig : (4096 : Int) < n
  · go_enter Try.func3, Try.ntmps3
    go_wp2_with fail
    refine HB.out.mono ?_
    rintro e w' ⟨rfl, rfl⟩
    go_wp2_with fail
    go_ret
    exact ⟨rfl, Below.refl _ _⟩
  · have hb2 := big_ A n cap w
    rw [decide_eq_false hbig] at hb2
    have HB2 := Go.Lib.hid hb2
    have HRD := Go.Lib.hid (fun w1 (hb : Below w.heap.size w w1) => (h.below hb (Nat.le_refl _)).mono (Nat.le_refl _) hb.size)
    have HW := Go.Lib.hid (Below.refl w.heap.size w)
    clear hb2 HB hbig h
    have hnn : n ≤ 140737488355328 := by omega
    clear hn
    go_enter Try.func3, Try.ntmps3
    go_wp2_with fail
    refine HB2.out.mono ?_
    rintro e w' ⟨rfl, rfl⟩
    have HD := Go.Lib.hid (drawShifts A n cap bs _ (HRD.out _ HW.out) hs hnn)
    go_wp2_with fail
    refine HD.out.mono ?_
    rintro _ w1 ⟨m, zs, Bz, cz, rfl, ⟨m0, m1⟩, lz, b1⟩
    have HW := Go.Lib.hid (HW.out.trans (b1.mono HW.out.size))
    have Lz := Go.Lib.hid lz.ls
    clear lz b1 HD
    by_cases hG : Lac m zs
    case neg =>
      have hS : shiftsR m zs = ([], 1) := by simp [shiftsR, hG]
      have hM : mirrorR m zs = ([], 1) := by simp [mirrorR, hG]
      have HS1 := Go.Lib.hid (fun w0 h0 => implShiftsOf m Bz cz zs w0 0 w0.heap.size h0)
      have HS2 := Go.Lib.hid (fun w0 h0 hc => specShifts m Bz cz zs w0 0 w0.heap.size h0 hc)
      have HM1 := Go.Lib.hid (fun w0 h0 => implMirrorLacing m Bz cz zs w0 0 w0.heap.size h0)
      have HM2 := Go.Lib.hid (fun w0 h0 hc => specMirror m Bz cz zs w0 0 w0.heap.size h0 hc)
      rw [hS] at HS1 HS2
      rw [hM] at HM1 HM2
      have HI := Go.Lib.hid (fun w0 h0 => implIsLacing m Bz cz zs w0 0 w0.heap.size h0)
      rw [decide_eq_false hG] at HI
      clear hS hM hG
      go_wp2_with fail
      refine (HS1.out _ Lz.out.rd).mono ?_
      rintro _ w2 ⟨As1, cs1, rfl, o2, b2⟩
      try dsimp only at o2
      have Lz := Go.Lib.hid (Lz.out.below b2)
      have HW := Go.Lib.hid (HW.out.trans (b2.mono HW.out.size))
      have Ls1 := Go.Lib.hid (lst0 o2 (by simp))
      clear o2 b2
      go_wp2_with fail
      refine (HS2.out _ Lz.out.rd Lz.out.le).mono ?_
      rintro _ w3 ⟨As2, cs2, rfl, o3, b3⟩
      try dsimp only at o3
      have Lz := Go.Lib.hid (Lz.out.below b3)
      have Ls1 := Go.Lib.hid (Ls1.out.below b3)
      have HW := Go.Lib.hid (HW.out.trans (b3.mono HW.out.size))
      have Ls2 := Go.Lib.hid (lst0 o3 (by simp))
      clear o3 b3
      go_wp2_with fail
      refine (HM1.out _ Lz.out.rd).mono ?_
      rintro _ w4 ⟨Am1, cm1, rfl, o4, b4⟩
      try dsimp only at o4
      have Lz := Go.Lib.hid (Lz.out.below b4)
      have Ls1 := Go.Lib.hid (Ls1.out.below b4)
      have Ls2 := Go.Lib.hid (Ls2.out.below b4)
      have HW := Go.Lib.hid (HW.out.trans (b4.mono HW.out.size))
      have Lm1 := Go.Lib.hid (lst0 o4 (by simp))
      clear o4 b4
      go_wp2_with fail
      refine (HM2.out _ Lz.out.rd Lz.out.le).mono ?_
      rintro _ w5 ⟨Am2, cm2, rfl, o5, b5⟩
      try dsimp only at o5
      have Lz := Go.Lib.hid (Lz.out.below b5)
      have Ls1 := Go.Lib.hid (Ls1.out.below b5)
      have Ls2 := Go.Lib.hid (Ls2.out.below b5)
      have Lm1 := Go.Lib.hid (Lm1.out.below b5)
      have HW := Go.Lib.hid (HW.out.trans (b5.mono HW.out.size))
      have Lm2 := Go.Lib.hid (lst0 o5 (by simp))
      clear o5 b5
      have HD := Go.Lib.hid (drawUsual A n cap bs _ (HRD.out _ HW.out) hs hnn)
      go_wp2_with fail
      refine HD.out.mono ?_
      rintro _ w6 ⟨ua, cr, rfl, ⟨ua0, ua1⟩, b6⟩
      have Lz := Go.Lib.hid (Lz.out.below b6)
      have Ls1 := Go.Lib.hid (Ls1.out.below b6)
      have Ls2 := Go.Lib.hid (Ls2.out.below b6)
      have Lm1 := Go.Lib.hid (Lm1.out.below b6)
      have Lm2 := Go.Lib.hid (Lm2.out.below b6)
      have HW := Go.Lib.hid (HW.out.trans (b6.mono HW.out.size))
      clear  b6 HD
      by_cases hU : holes6 ua = true ∧ 0 ≤ cr ∧ cr ≤ ua / 2 - 1
      case neg =>
        obtain ⟨z, hz, hUR⟩ : ∃ z : Int, z ≠ 0 ∧ usualR ua cr = ([], z) := usualR_bad hU
        have hzb : (z == 0) = false := by simpa using hz
        have HU1 := Go.Lib.hid (fun w0 => implUsual ua cr w0)
        have HU2 := Go.Lib.hid (fun w0 => specUsual ua cr w0)
        rw [hUR] at HU1 HU2
        clear hUR hU hz
        go_wp2_with fail
        refine (HU1.out _).mono ?_
        rintro _ w7 ⟨Au1, cu1, rfl, o7, b7⟩
        try dsimp only at o7
        have Lz := Go.Lib.hid (Lz.out.below b7)
        have Ls1 := Go.Lib.hid (Ls1.out.below b7)
        have Ls2 := Go.Lib.hid (Ls2.out.below b7)
        have Lm1 := Go.Lib.hid (Lm1.out.below b7)
        have Lm2 := Go.Lib.hid (Lm2.out.below b7)
        have HW := Go.Lib.hid (HW.out.trans (b7.mono HW.out.size))
        have Lu1 := Go.Lib.hid (lst0 o7 (by simp))
        clear o7 b7
        go_wp2_with fail
        refine (HU2.out _).mono ?_
        rintro _ w8 ⟨Au2, cu2, rfl, o8, b8⟩
        try dsimp only at o8
        have Lz := Go.Lib.hid (Lz.out.below b8)
        have Ls1 := Go.Lib.hid (Ls1.out.below b8)
        have Ls2 := Go.Lib.hid (Ls2.out.below b8)
        have Lm1 := Go.Lib.hid (Lm1.out.below b8)
        have Lm2 := Go.Lib.hid (Lm2.out.below b8)
        have Lu1 := Go.Lib.hid (Lu1.out.below b8)
        have HW := Go.Lib.hid (HW.out.trans (b8.mono HW.out.size))
        have Lu2 := Go.Lib.hid (lst0 o8 (by simp))
        clear o8 b8
        have HE := Go.Lib.hid (likeInts_same _ _ _ cs1 cs2 _ _ _ _ _ _ Ls1.out.rd Ls2.out.rd (by first | omega | simp))
        go_wp2_with fail
        refine HE.out.mono ?_
        rintro _ w9 ⟨rfl, x9, e9⟩
        have b9 := below_of_drewN e9
        have Lz := Go.Lib.hid (Lz.out.below b9)
        have Ls1 := Go.Lib.hid (Ls1.out.below b9)
        have Ls2 := Go.Lib.hid (Ls2.out.below b9)
        have Lm1 := Go.Lib.hid (Lm1.out.below b9)
        have Lm2 := Go.Lib.hid (Lm2.out.below b9)
        have Lu1 := Go.Lib.hid (Lu1.out.below b9)
        have Lu2 := Go.Lib.hid (Lu2.out.below b9)
        have HW := Go.Lib.hid (HW.out.trans (b9.mono HW.out.size))
        clear b9 e9 HE
        have HE := Go.Lib.hid (likeInts_same _ _ _ cm1 cm2 _ _ _ _ _ _ Lm1.out.rd Lm2.out.rd (by first | omega | simp))
        go_wp2_with fail
        refine HE.out.mono ?_
        rintro _ w10 ⟨rfl, x10, e10⟩
        have b10 := below_of_drewN e10
        have Lz := Go.Lib.hid (Lz.out.below b10)
        have Ls1 := Go.Lib.hid (Ls1.out.below b10)
        have Ls2 := Go.Lib.hid (Ls2.out.below b10)
        have Lm1 := Go.Lib.hid (Lm1.out.below b10)
        have Lm2 := Go.Lib.hid (Lm2.out.below b10)
        have Lu1 := Go.Lib.hid (Lu1.out.below b10)
        have Lu2 := Go.Lib.hid (Lu2.out.below b10)
        have HW := Go.Lib.hid (HW.out.trans (b10.mono HW.out.size))
        clear b10 e10 HE
        have HE := Go.Lib.hid (likeInts_same _ _ _ cu1 cu2 _ _ _ _ _ _ Lu1.out.rd Lu2.out.rd (by first | omega | simp))
        go_wp2_with fail
        refine HE.out.mono ?_
        rintro _ w11 ⟨rfl, x11, e11⟩
        have b11 := below_of_drewN e11
        have Lz := Go.Lib.hid (Lz.out.below b11)
        have Ls1 := Go.Lib.hid (Ls1.out.below b11)
        have Ls2 := Go.Lib.hid (Ls2.out.below b11)
        have Lm1 := Go.Lib.hid (Lm1.out.below b11)
        have Lm2 := Go.Lib.hid (Lm2.out.below b11)
        have Lu1 := Go.Lib.hid (Lu1.out.below b11)
        have Lu2 := Go.Lib.hid (Lu2.out.below b11)
        have HW := Go.Lib.hid (HW.out.trans (b11.mono HW.out.size))
        clear b11 e11 HE
        go_wp2_with fail
        refine (HI.out _ Lz.out.rd).mono ?_
        rintro _ w12 ⟨rfl, b12⟩
        have Lz := Go.Lib.hid (Lz.out.below b12)
        have Ls1 := Go.Lib.hid (Ls1.out.below b12)
        have Ls2 := Go.Lib.hid (Ls2.out.below b12)
        have Lm1 := Go.Lib.hid (Lm1.out.below b12)
        have Lm2 := Go.Lib.hid (Lm2.out.below b12)
        have Lu1 := Go.Lib.hid (Lu1.out.below b12)
        have Lu2 := Go.Lib.hid (Lu2.out.below b12)
        have HW := Go.Lib.hid (HW.out.trans (b12.mono HW.out.size))
        clear b12
        go_wp2_with fail
        go_ret
        exact ⟨rfl, HW.out⟩
      case pos =>
        have hUR : usualR ua cr = (usualI ua cr, 0) := by unfold usualR; rw [if_pos hU.1, if_pos hU.2]
        have hUL := usual_lac hU.1 hU.2.1 hU.2.2
        have HU1 := Go.Lib.hid (fun w0 => implUsual ua cr w0)
        have HU2 := Go.Lib.hid (fun w0 => specUsual ua cr w0)
        rw [hUR] at HU1 HU2
        have HUI := Go.Lib.hid (fun A2 c2 w0 h0 => implIsLacing ua A2 c2 (usualI ua cr) w0 0 w0.heap.size h0)
        rw [decide_eq_true hUL] at HUI
        have huf := hUL.few
        clear hUR hU hUL
        generalize usualI ua cr = us at *
        go_wp2_with fail
        refine (HU1.out _).mono ?_
        rintro _ w13 ⟨Au1, cu1, rfl, o13, b13⟩
        try dsimp only at o13
        have Lz := Go.Lib.hid (Lz.out.below b13)
        have Ls1 := Go.Lib.hid (Ls1.out.below b13)
        have Ls2 := Go.Lib.hid (Ls2.out.below b13)
        have Lm1 := Go.Lib.hid (Lm1.out.below b13)
        have Lm2 := Go.Lib.hid (Lm2.out.below b13)
        have HW := Go.Lib.hid (HW.out.trans (b13.mono HW.out.size))
        have Lu1 := Go.Lib.hid (lst0 o13 (by omega))
        clear o13 b13
        go_wp2_with fail
        refine (HU2.out _).mono ?_
        rintro _ w14 ⟨Au2, cu2, rfl, o14, b14⟩
        try dsimp only at o14
        have Lz := Go.Lib.hid (Lz.out.below b14)
        have Ls1 := Go.Lib.hid (Ls1.out.below b14)
        have Ls2 := Go.Lib.hid (Ls2.out.below b14)
        have Lm1 := Go.Lib.hid (Lm1.out.below b14)
        have Lm2 := Go.Lib.hid (Lm2.out.below b14)
        have Lu1 := Go.Lib.hid (Lu1.out.below b14)
        have HW := Go.Lib.hid (HW.out.trans (b14.mono HW.out.size))
        have Lu2 := Go.Lib.hid (lst0 o14 (by omega))
        clear o14 b14
        have HE := Go.Lib.hid (likeInts_same _ _ _ cs1 cs2 _ _ _ _ _ _ Ls1.out.rd Ls2.out.rd (by first | omega | simp))
        go_wp2_with fail
        refine HE.out.mono ?_
        rintro _ w15 ⟨rfl, x15, e15⟩
        have b15 := below_of_drewN e15
        have Lz := Go.Lib.hid (Lz.out.below b15)
        have Ls1 := Go.Lib.hid (Ls1.out.below b15)
        have Ls2 := Go.Lib.hid (Ls2.out.below b15)
        have Lm1 := Go.Lib.hid (Lm1.out.below b15)
        have Lm2 := Go.Lib.hid (Lm2.out.below b15)
        have Lu1 := Go.Lib.hid (Lu1.out.below b15)
        have Lu2 := Go.Lib.hid (Lu2.out.below b15)
        have HW := Go.Lib.hid (HW.out.trans (b15.mono HW.out.size))
        clear b15 e15 HE
        have HE := Go.Lib.hid (likeInts_same _ _ _ cm1 cm2 _ _ _ _ _ _ Lm1.out.rd Lm2.out.rd (by first | omega | simp))
        go_wp2_with fail
        refine HE.out.mono ?_
        rintro _ w16 ⟨rfl, x16, e16⟩
        have b16 := below_of_drewN e16
        have Lz := Go.Lib.hid (Lz.out.below b16)
        have Ls1 := Go.Lib.hid (Ls1.out.below b16)
        have Ls2 := Go.Lib.hid (Ls2.out.below b16)
        have Lm1 := Go.Lib.hid (Lm1.out.below b16)
        have Lm2 := Go.Lib.hid (Lm2.out.below b16)
        have Lu1 := Go.Lib.hid (Lu1.out.below b16)
        have Lu2 := Go.Lib.hid (Lu2.out.below b16)
        have HW := Go.Lib.hid (HW.out.trans (b16.mono HW.out.size))
        clear b16 e16 HE
        have HE := Go.Lib.hid (likeInts_same _ _ _ cu1 cu2 _ _ _ _ _ _ Lu1.out.rd Lu2.out.rd (by first | omega | simp))
        go_wp2_with fail
        refine HE.out.mono ?_
        rintro _ w17 ⟨rfl, x17, e17⟩
        have b17 := below_of_drewN e17
        have Lz := Go.Lib.hid (Lz.out.below b17)
        have Ls1 := Go.Lib.hid (Ls1.out.below b17)
        have Ls2 := Go.Lib.hid (Ls2.out.below b17)
        have Lm1 := Go.Lib.hid (Lm1.out.below b17)
        have Lm2 := Go.Lib.hid (Lm2.out.below b17)
        have Lu1 := Go.Lib.hid (Lu1.out.below b17)
        have Lu2 := Go.Lib.hid (Lu2.out.below b17)
        have HW := Go.Lib.hid (HW.out.trans (b17.mono HW.out.size))
        clear b17 e17 HE
        go_wp2_with fail
        refine (HI.out _ Lz.out.rd).mono ?_
        rintro _ w18 ⟨rfl, b18⟩
        have Lz := Go.Lib.hid (Lz.out.below b18)
        have Ls1 := Go.Lib.hid (Ls1.out.below b18)
        have Ls2 := Go.Lib.hid (Ls2.out.below b18)
        have Lm1 := Go.Lib.hid (Lm1.out.below b18)
        have Lm2 := Go.Lib.hid (Lm2.out.below b18)
        have Lu1 := Go.Lib.hid (Lu1.out.below b18)
        have Lu2 := Go.Lib.hid (Lu2.out.below b18)
        have HW := Go.Lib.hid (HW.out.trans (b18.mono HW.out.size))
        clear b18
        go_wp2_with fail
        refine (HUI.out _ _ _ Lu1.out.rd).mono ?_
        rintro _ w19 ⟨rfl, b19⟩
        have Lz := Go.Lib.hid (Lz.out.below b19)
        have Ls1 := Go.Lib.hid (Ls1.out.below b19)
        have Ls2 := Go.Lib.hid (Ls2.out.below b19)
        have Lm1 := Go.Lib.hid (Lm1.out.below b19)
        have Lm2 := Go.Lib.hid (Lm2.out.below b19)
        have Lu1 := Go.Lib.hid (Lu1.out.below b19)
        have Lu2 := Go.Lib.hid (Lu2.out.below b19)
        have HW := Go.Lib.hid (HW.out.trans (b19.mono HW.out.size))
        clear b19
        go_wp2_with fail
        go_ret
        exact ⟨rfl, HW.out⟩
    case pos =>
      have hS : shiftsR m zs = (shiftsI m zs, 0) := by simp [shiftsR, hG]
      have hM : mirrorR m zs = (mirrorI m zs, 0) := by simp [mirrorR, hG]
      have HS1 := Go.Lib.hid (fun w0 h0 => implShiftsOf m Bz cz zs w0 0 w0.heap.size h0)
      have HS2 := Go.Lib.hid (fun w0 h0 hc => specShifts m Bz cz zs w0 0 w0.heap.size h0 hc)
      have HM1 := Go.Lib.hid (fun w0 h0 => implMirrorLacing m Bz cz zs w0 0 w0.heap.size h0)
      have HM2 := Go.Lib.hid (fun w0 h0 hc => specMirror m Bz cz zs w0 0 w0.heap.size h0 hc)
      rw [hS] at HS1 HS2
      rw [hM] at HM1 HM2
      have HI := Go.Lib.hid (fun w0 h0 => implIsLacing m Bz cz zs w0 0 w0.heap.size h0)
      rw [decide_eq_true hG] at HI
      have hfew := hG.few
      have hlen := hG.len
      obtain ⟨r0, r1, r2⟩ := hG.rim
      have HR2 := Go.Lib.hid r2
      have HLEN := Go.Lib.hid hlen
      have HSL := Go.Lib.hid (shiftsI_len m zs)
      have hsl : (shiftsI m zs).length ≤ 24 := by rw [shiftsI_len]; exact hfew
      have hml : (mirrorI m zs).length ≤ 24 := by rw [mirrorI_len]; exact hfew
      have hge : m ≤ (zs.length : Int) := by omega
      have HG := Go.Lib.hid hG
      clear hS hM hG r2 hlen
      have HB1 := Go.Lib.hid (fun A2 c2 w0 h0 => implMirrorLacing m A2 c2 (mirrorI m zs) w0 0 w0.heap.size h0)
      rw [show mirrorR m (mirrorI m zs) = (zs, 0) by simp only [mirrorR, if_pos (mirror_lac HG.out), mirror_mirror HG.out]] at HB1
      have HAT := Go.Lib.hid (fun k (hk : k < zs.length) => show (shiftsI m zs).getD k 0 = shAt m zs k by simp [shiftsI, hk])
      generalize shiftsI m zs = ss at *
      generalize mirrorI m zs = ms at *
      go_wp2_with fail
      refine (HS1.out _ Lz.out.rd).mono ?_
      rintro _ w20 ⟨As1, cs1, rfl, o20, b20⟩
      try dsimp only at o20
      have Lz := Go.Lib.hid (Lz.out.below b20)
      have HW := Go.Lib.hid (HW.out.trans (b20.mono HW.out.size))
      have Ls1 := Go.Lib.hid (lst0 o20 (by omega))
      clear o20 b20
      go_wp2_with fail
      refine (HS2.out _ Lz.out.rd Lz.out.le).mono ?_
      rintro _ w21 ⟨As2, cs2, rfl, o21, b21⟩
      try dsimp only at o21
      have Lz := Go.Lib.hid (Lz.out.below b21)
      have Ls1 := Go.Lib.hid (Ls1.out.below b21)
      have HW := Go.Lib.hid (HW.out.trans (b21.mono HW.out.size))
      have Ls2 := Go.Lib.hid (lst0 o21 (by omega))
      clear o21 b21
      go_wp2_with fail
      refine (HM1.out _ Lz.out.rd).mono ?_
      rintro _ w22 ⟨Am1, cm1, rfl, o22, b22⟩
      try dsimp only at o22
      have Lz := Go.Lib.hid (Lz.out.below b22)
      have Ls1 := Go.Lib.hid (Ls1.out.below b22)
      have Ls2 := Go.Lib.hid (Ls2.out.below b22)
      have HW := Go.Lib.hid (HW.out.trans (b22.mono HW.out.size))
      have Lm1 := Go.Lib.hid (lst0 o22 (by omega))
      clear o22 b22
      go_wp2_with fail
      refine (HM2.out _ Lz.out.rd Lz.out.le).mono ?_
      rintro _ w23 ⟨Am2, cm2, rfl, o23, b23⟩
      try dsimp only at o23
      have Lz := Go.Lib.hid (Lz.out.below b23)
      have Ls1 := Go.Lib.hid (Ls1.out.below b23)
      have Ls2 := Go.Lib.hid (Ls2.out.below b23)
      have Lm1 := Go.Lib.hid (Lm1.out.below b23)
      have HW := Go.Lib.hid (HW.out.trans (b23.mono HW.out.size))
      have Lm2 := Go.Lib.hid (lst0 o23 (by omega))
      clear o23 b23
      have HD := Go.Lib.hid (drawUsual A n cap bs _ (HRD.out _ HW.out) hs hnn)
      go_wp2_with fail
      refine HD.out.mono ?_
      rintro _ w24 ⟨ua, cr, rfl, ⟨ua0, ua1⟩, b24⟩
      have Lz := Go.Lib.hid (Lz.out.below b24)
      have Ls1 := Go.Lib.hid (Ls1.out.below b24)
      have Ls2 := Go.Lib.hid (Ls2.out.below b24)
      have Lm1 := Go.Lib.hid (Lm1.out.below b24)
      have Lm2 := Go.Lib.hid (Lm2.out.below b24)
      have HW := Go.Lib.hid (HW.out.trans (b24.mono HW.out.size))
      clear  b24 HD
      by_cases hU : holes6 ua = true ∧ 0 ≤ cr ∧ cr ≤ ua / 2 - 1
      case neg =>
        obtain ⟨z, hz, hUR⟩ : ∃ z : Int, z ≠ 0 ∧ usualR ua cr = ([], z) := usualR_bad hU
        have hzb : (z == 0) = false := by simpa using hz
        have HU1 := Go.Lib.hid (fun w0 => implUsual ua cr w0)
        have HU2 := Go.Lib.hid (fun w0 => specUsual ua cr w0)
        rw [hUR] at HU1 HU2
        clear hUR hU hz
        go_wp2_with fail
        refine (HU1.out _).mono ?_
        rintro _ w25 ⟨Au1, cu1, rfl, o25, b25⟩
        try dsimp only at o25
        have Lz := Go.Lib.hid (Lz.out.below b25)
        have Ls1 := Go.Lib.hid (Ls1.out.below b25)
        have Ls2 := Go.Lib.hid (Ls2.out.below b25)
        have Lm1 := Go.Lib.hid (Lm1.out.below b25)
        have Lm2 := Go.Lib.hid (Lm2.out.below b25)
        have HW := Go.Lib.hid (HW.out.trans (b25.mono HW.out.size))
        have Lu1 := Go.Lib.hid (lst0 o25 (by simp))
        clear o25 b25
        go_wp2_with fail
        refine (HU2.out _).mono ?_
        rintro _ w26 ⟨Au2, cu2, rfl, o26, b26⟩
        try dsimp only at o26
        have Lz := Go.Lib.hid (Lz.out.below b26)
        have Ls1 := Go.Lib.hid (Ls1.out.below b26)
        have Ls2 := Go.Lib.hid (Ls2.out.below b26)
        have Lm1 := Go.Lib.hid (Lm1.out.below b26)
        have Lm2 := Go.Lib.hid (Lm2.out.below b26)
        have Lu1 := Go.Lib.hid (Lu1.out.below b26)
        have HW := Go.Lib.hid (HW.out.trans (b26.mono HW.out.size))
        have Lu2 := Go.Lib.hid (lst0 o26 (by simp))
        clear o26 b26
        have HE := Go.Lib.hid (likeInts_same _ _ _ cs1 cs2 _ _ _ _ _ _ Ls1.out.rd Ls2.out.rd (by first | omega | simp))
        go_wp2_with fail
        refine HE.out.mono ?_
        rintro _ w27 ⟨rfl, x27, e27⟩
        have b27 := below_of_drewN e27
        have Lz := Go.Lib.hid (Lz.out.below b27)
        have Ls1 := Go.Lib.hid (Ls1.out.below b27)
        have Ls2 := Go.Lib.hid (Ls2.out.below b27)
        have Lm1 := Go.Lib.hid (Lm1.out.below b27)
        have Lm2 := Go.Lib.hid (Lm2.out.below b27)
        have Lu1 := Go.Lib.hid (Lu1.out.below b27)
        have Lu2 := Go.Lib.hid (Lu2.out.below b27)
        have HW := Go.Lib.hid (HW.out.trans (b27.mono HW.out.size))
        clear b27 e27 HE
        have HE := Go.Lib.hid (likeInts_same _ _ _ cm1 cm2 _ _ _ _ _ _ Lm1.out.rd Lm2.out.rd (by first | omega | simp))
        go_wp2_with fail
        refine HE.out.mono ?_
        rintro _ w28 ⟨rfl, x28, e28⟩
        have b28 := below_of_drewN e28
        have Lz := Go.Lib.hid (Lz.out.below b28)
        have Ls1 := Go.Lib.hid (Ls1.out.below b28)
        have Ls2 := Go.Lib.hid (Ls2.out.below b28)
        have Lm1 := Go.Lib.hid (Lm1.out.below b28)
        have Lm2 := Go.Lib.hid (Lm2.out.below b28)
        have Lu1 := Go.Lib.hid (Lu1.out.below b28)
        have Lu2 := Go.Lib.hid (Lu2.out.below b28)
        have HW := Go.Lib.hid (HW.out.trans (b28.mono HW.out.size))
        clear b28 e28 HE
        have HE := Go.Lib.hid (likeInts_same _ _ _ cu1 cu2 _ _ _ _ _ _ Lu1.out.rd Lu2.out.rd (by first | omega | simp))
        go_wp2_with fail
        refine HE.out.mono ?_
        rintro _ w29 ⟨rfl, x29, e29⟩
        have b29 := below_of_drewN e29
        have Lz := Go.Lib.hid (Lz.out.below b29)
        have Ls1 := Go.Lib.hid (Ls1.out.below b29)
        have Ls2 := Go.Lib.hid (Ls2.out.below b29)
        have Lm1 := Go.Lib.hid (Lm1.out.below b29)
        have Lm2 := Go.Lib.hid (Lm2.out.below b29)
        have Lu1 := Go.Lib.hid (Lu1.out.below b29)
        have Lu2 := Go.Lib.hid (Lu2.out.below b29)
        have HW := Go.Lib.hid (HW.out.trans (b29.mono HW.out.size))
        clear b29 e29 HE
        go_wp2_with fail
        refine (HI.out _ Lz.out.rd).mono ?_
        rintro _ w30 ⟨rfl, b30⟩
        have Lz := Go.Lib.hid (Lz.out.below b30)
        have Ls1 := Go.Lib.hid (Ls1.out.below b30)
        have Ls2 := Go.Lib.hid (Ls2.out.below b30)
        have Lm1 := Go.Lib.hid (Lm1.out.below b30)
        have Lm2 := Go.Lib.hid (Lm2.out.below b30)
        have Lu1 := Go.Lib.hid (Lu1.out.below b30)
        have Lu2 := Go.Lib.hid (Lu2.out.below b30)
        have HW := Go.Lib.hid (HW.out.trans (b30.mono HW.out.size))
        clear b30
        have hm0 : ¬ m = 0 := by omega
        have hq4 : m.tdiv 2 = m / 2 := Int.tdiv_eq_ediv_of_nonneg (by omega)
        have hq1 : IntKind.i64.wrap (-m) = -m := IntWalk.i64_in _ (by omega)
        have hq2 : (-m).tdiv 2 = -(m / 2) := by rw [Int.neg_tdiv, hq4]
        have hq3 : IntKind.i64.wrap (-(m / 2)) = -(m / 2) := IntWalk.i64_in _ (by omega)
        have hq5 : IntKind.i64.wrap (m / 2) = m / 2 := IntWalk.i64_in _ (by omega)
        go_wp2_with fail
        go_loopw [19] (fun i wr => ∃ k : Nat, k ≤ zs.length ∧ i = .int .i64 k ∧ Eqw w30 wr) (fun i _ => zs.length - (intOf i).toNat)
        case atStart => exact ⟨0, Nat.zero_le _, rfl, Eqw.refl _⟩
        case round =>
          obtain ⟨k, hk, rfl, hwr⟩ := hrel
          have bq := eqw_below hwr
          have HWR := Go.Lib.hid hwr
          have Lz := Go.Lib.hid (Lz.out.below bq)
          have Ls1 := Go.Lib.hid (Ls1.out.below bq)
          have Ls2 := Go.Lib.hid (Ls2.out.below bq)
          have Lm1 := Go.Lib.hid (Lm1.out.below bq)
          have Lm2 := Go.Lib.hid (Lm2.out.below bq)
          have Lu1 := Go.Lib.hid (Lu1.out.below bq)
          have Lu2 := Go.Lib.hid (Lu2.out.below bq)
          have HW := Go.Lib.hid (HW.out.trans (bq.mono HW.out.size))
          clear bq hwr
          by_cases hlt : k < zs.length
          case neg =>
            obtain rfl : k = zs.length := by omega
            go_wp2_with fail
            refine (HB1.out _ _ _ Lm1.out.rd).mono ?_
            rintro _ w31 ⟨Abk, cbk, rfl, o31, b31⟩
            try dsimp only at o31
            have Lz := Go.Lib.hid (Lz.out.below b31)
            have Ls1 := Go.Lib.hid (Ls1.out.below b31)
            have Ls2 := Go.Lib.hid (Ls2.out.below b31)
            have Lm1 := Go.Lib.hid (Lm1.out.below b31)
            have Lm2 := Go.Lib.hid (Lm2.out.below b31)
            have Lu1 := Go.Lib.hid (Lu1.out.below b31)
            have Lu2 := Go.Lib.hid (Lu2.out.below b31)
            have HW := Go.Lib.hid (HW.out.trans (b31.mono HW.out.size))
            have Lbk := Go.Lib.hid (lst0 o31 (by omega))
            clear o31 b31
            have HE := Go.Lib.hid (likeInts_same _ _ _ cbk cz _ _ _ _ _ _ Lbk.out.rd Lz.out.rd (by first | omega | simp))
            go_wp2_with fail
            refine HE.out.mono ?_
            rintro _ w32 ⟨rfl, x32, e32⟩
            have b32 := below_of_drewN e32
            have Lz := Go.Lib.hid (Lz.out.below b32)
            have Ls1 := Go.Lib.hid (Ls1.out.below b32)
            have Ls2 := Go.Lib.hid (Ls2.out.below b32)
            have Lm1 := Go.Lib.hid (Lm1.out.below b32)
            have Lm2 := Go.Lib.hid (Lm2.out.below b32)
            have Lu1 := Go.Lib.hid (Lu1.out.below b32)
            have Lu2 := Go.Lib.hid (Lu2.out.below b32)
            have Lbk := Go.Lib.hid (Lbk.out.below b32)
            have HW := Go.Lib.hid (HW.out.trans (b32.mono HW.out.size))
            clear b32 e32 HE
            go_wp2_with fail
            go_ret
            exact ⟨rfl, HW.out⟩
          case pos =>
            obtain ⟨b1, o1, hA1, -, -, hc1⟩ := Ls1.out.rd.at_ (k := k) (by have := HSL.out; omega)
            obtain ⟨b2, o2, hA2, -, -, hc2⟩ := Lz.out.rd.at_ (k := k) hlt
            subst hA1
            subst hA2
            have d1 := hc1 k _ (ints_at ss k (by have := HSL.out; omega))
            have d2 := hc2 k _ (ints_at zs k hlt)
            rw [HAT.out k hlt] at d1
            obtain ⟨y0, y1⟩ := HG.out.in0 hlt
            have hsb := shiftI_bd (n := m) (k := k) (z := zs.getD k 0) (by omega) HR2.out
            have hsl2 := shift_law (n := m) (k := (k : Int)) (x := zs.getD k 0) (by omega)
            change -(m / 2) ≤ shAt m zs k ∧ shAt m zs k < m / 2 at hsb
            change ((k : Int) + shAt m zs k - zs.getD k 0) % m = 0 at hsl2
            generalize zs.getD k 0 = y at *
            generalize shAt m zs k = x at *
            obtain ⟨e0, e1⟩ := hsb
            have hkz : (k : Int) < zs.length := by omega
            have hks : (k : Int) < ss.length := by have := HSL.out; omega
            have hkm : (k : Int) < m := by have := HLEN.out; omega
            have hk0 : (0 : Int) ≤ k := by omega
            have hw1 : IntKind.i64.wrap ((k : Int) + x) = (k : Int) + x := IntWalk.i64_in _ (by omega)
            have hw2 : IntKind.i64.wrap ((k : Int) + x - y) = (k : Int) + x - y := IntWalk.i64_in _ (by omega)
            have ht : ((k : Int) + x - y).tmod m = 0 := Int.tmod_eq_zero_of_dvd (Int.dvd_of_emod_eq_zero hsl2)
            have hlq1 : ¬ x < -(m / 2) := by omega
            have hlq2 : ¬ m / 2 ≤ x := by omega
            clear hc1 hc2 hsl2
            go_upto_region 20 with fail
            go_region_held3 (fun w' => w'.cell? ⟨b1, o1 + k, none⟩ = some (.int .i64 x) ∧ w'.cell? ⟨b2, o2 + k, none⟩ = some (.int .i64 y)) (first | exact ⟨d1, d2⟩ | assumption) (fail)
            go_wp2_with fail
            go_roundw
            case rel => exact ⟨k + 1, by omega, by go_num, HWR.out.drew⟩
            case measure => simp [intOf]; omega
      case pos =>
        have hUR : usualR ua cr = (usualI ua cr, 0) := by unfold usualR; rw [if_pos hU.1, if_pos hU.2]
        have hUL := usual_lac hU.1 hU.2.1 hU.2.2
        have HU1 := Go.Lib.hid (fun w0 => implUsual ua cr w0)
        have HU2 := Go.Lib.hid (fun w0 => specUsual ua cr w0)
        rw [hUR] at HU1 HU2
        have HUI := Go.Lib.hid (fun A2 c2 w0 h0 => implIsLacing ua A2 c2 (usualI ua cr) w0 0 w0.heap.size h0)
        rw [decide_eq_true hUL] at HUI
        have huf := hUL.few
        clear hUR hU hUL
        generalize usualI ua cr = us at *
        go_wp2_with fail
        refine (HU1.out _).mono ?_
        rintro _ w33 ⟨Au1, cu1, rfl, o33, b33⟩
        try dsimp only at o33
        have Lz := Go.Lib.hid (Lz.out.below b33)
        have Ls1 := Go.Lib.hid (Ls1.out.below b33)
        have Ls2 := Go.Lib.hid (Ls2.out.below b33)
        have Lm1 := Go.Lib.hid (Lm1.out.below b33)
        have Lm2 := Go.Lib.hid (Lm2.out.below b33)
        have HW := Go.Lib.hid (HW.out.trans (b33.mono HW.out.size))
        have Lu1 := Go.Lib.hid (lst0 o33 (by omega))
        clear o33 b33
        go_wp2_with fail
        refine (HU2.out _).mono ?_
        rintro _ w34 ⟨Au2, cu2, rfl, o34, b34⟩
        try dsimp only at o34
        have Lz := Go.Lib.hid (Lz.out.below b34)
        have Ls1 := Go.Lib.hid (Ls1.out.below b34)
        have Ls2 := Go.Lib.hid (Ls2.out.below b34)
        have Lm1 := Go.Lib.hid (Lm1.out.below b34)
        have Lm2 := Go.Lib.hid (Lm2.out.below b34)
        have Lu1 := Go.Lib.hid (Lu1.out.below b34)
        have HW := Go.Lib.hid (HW.out.trans (b34.mono HW.out.size))
        have Lu2 := Go.Lib.hid (lst0 o34 (by omega))
        clear o34 b34
        have HE := Go.Lib.hid (likeInts_same _ _ _ cs1 cs2 _ _ _ _ _ _ Ls1.out.rd Ls2.out.rd (by first | omega | simp))
        go_wp2_with fail
        refine HE.out.mono ?_
        rintro _ w35 ⟨rfl, x35, e35⟩
        have b35 := below_of_drewN e35
        have Lz := Go.Lib.hid (Lz.out.below b35)
        have Ls1 := Go.Lib.hid (Ls1.out.below b35)
        have Ls2 := Go.Lib.hid (Ls2.out.below b35)
        have Lm1 := Go.Lib.hid (Lm1.out.below b35)
        have Lm2 := Go.Lib.hid (Lm2.out.below b35)
        have Lu1 := Go.Lib.hid (Lu1.out.below b35)
        have Lu2 := Go.Lib.hid (Lu2.out.below b35)
        have HW := Go.Lib.hid (HW.out.trans (b35.mono HW.out.size))
        clear b35 e35 HE
        have HE := Go.Lib.hid (likeInts_same _ _ _ cm1 cm2 _ _ _ _ _ _ Lm1.out.rd Lm2.out.rd (by first | omega | simp))
        go_wp2_with fail
        refine HE.out.mono ?_
        rintro _ w36 ⟨rfl, x36, e36⟩
        have b36 := below_of_drewN e36
        have Lz := Go.Lib.hid (Lz.out.below b36)
        have Ls1 := Go.Lib.hid (Ls1.out.below b36)
        have Ls2 := Go.Lib.hid (Ls2.out.below b36)
        have Lm1 := Go.Lib.hid (Lm1.out.below b36)
        have Lm2 := Go.Lib.hid (Lm2.out.below b36)
        have Lu1 := Go.Lib.hid (Lu1.out.below b36)
        have Lu2 := Go.Lib.hid (Lu2.out.below b36)
        have HW := Go.Lib.hid (HW.out.trans (b36.mono HW.out.size))
        clear b36 e36 HE
        have HE := Go.Lib.hid (likeInts_same _ _ _ cu1 cu2 _ _ _ _ _ _ Lu1.out.rd Lu2.out.rd (by first | omega | simp))
        go_wp2_with fail
        refine HE.out.mono ?_
        rintro _ w37 ⟨rfl, x37, e37⟩
        have b37 := below_of_drewN e37
        have Lz := Go.Lib.hid (Lz.out.below b37)
        have Ls1 := Go.Lib.hid (Ls1.out.below b37)
        have Ls2 := Go.Lib.hid (Ls2.out.below b37)
        have Lm1 := Go.Lib.hid (Lm1.out.below b37)
        have Lm2 := Go.Lib.hid (Lm2.out.below b37)
        have Lu1 := Go.Lib.hid (Lu1.out.below b37)
        have Lu2 := Go.Lib.hid (Lu2.out.below b37)
        have HW := Go.Lib.hid (HW.out.trans (b37.mono HW.out.size))
        clear b37 e37 HE
        go_wp2_with fail
        refine (HI.out _ Lz.out.rd).mono ?_
        rintro _ w38 ⟨rfl, b38⟩
        have Lz := Go.Lib.hid (Lz.out.below b38)
        have Ls1 := Go.Lib.hid (Ls1.out.below b38)
        have Ls2 := Go.Lib.hid (Ls2.out.below b38)
        have Lm1 := Go.Lib.hid (Lm1.out.below b38)
        have Lm2 := Go.Lib.hid (Lm2.out.below b38)
        have Lu1 := Go.Lib.hid (Lu1.out.below b38)
        have Lu2 := Go.Lib.hid (Lu2.out.below b38)
        have HW := Go.Lib.hid (HW.out.trans (b38.mono HW.out.size))
        clear b38
        go_wp2_with fail
        refine (HUI.out _ _ _ Lu1.out.rd).mono ?_
        rintro _ w39 ⟨rfl, b39⟩
        have Lz := Go.Lib.hid (Lz.out.below b39)
        have Ls1 := Go.Lib.hid (Ls1.out.below b39)
        have Ls2 := Go.Lib.hid (Ls2.out.below b39)
        have Lm1 := Go.Lib.hid (Lm1.out.below b39)
        have Lm2 := Go.Lib.hid (Lm2.out.below b39)
        have Lu1 := Go.Lib.hid (Lu1.out.below b39)
        have Lu2 := Go.Lib.hid (Lu2.out.below b39)
        have HW := Go.Lib.hid (HW.out.trans (b39.mono HW.out.size))
        clear b39
        have hm0 : ¬ m = 0 := by omega
        have hq4 : m.tdiv 2 = m / 2 := Int.tdiv_eq_ediv_of_nonneg (by omega)
        have hq1 : IntKind.i64.wrap (-m) = -m := IntWalk.i64_in _ (by omega)
        have hq2 : (-m).tdiv 2 = -(m / 2) := by rw [Int.neg_tdiv, hq4]
        have hq3 : IntKind.i64.wrap (-(m / 2)) = -(m / 2) := IntWalk.i64_in _ (by omega)
        have hq5 : IntKind.i64.wrap (m / 2) = m / 2 := IntWalk.i64_in _ (by omega)
        go_wp2_with fail
        go_loopw [19] (fun i wr => ∃ k : Nat, k ≤ zs.length ∧ i = .int .i64 k ∧ Eqw w39 wr) (fun i _ => zs.length - (intOf i).toNat)
        case atStart => exact ⟨0, Nat.zero_le _, rfl, Eqw.refl _⟩
        case round =>
          obtain ⟨k, hk, rfl, hwr⟩ := hrel
          have bq := eqw_below hwr
          have HWR := Go.Lib.hid hwr
          have Lz := Go.Lib.hid (Lz.out.below bq)
          have Ls1 := Go.Lib.hid (Ls1.out.below bq)
          have Ls2 := Go.Lib.hid (Ls2.out.below bq)
          have Lm1 := Go.Lib.hid (Lm1.out.below bq)
          have Lm2 := Go.Lib.hid (Lm2.out.below bq)
          have Lu1 := Go.Lib.hid (Lu1.out.below bq)
          have Lu2 := Go.Lib.hid (Lu2.out.below bq)
          have HW := Go.Lib.hid (HW.out.trans (bq.mono HW.out.size))
          clear bq hwr
          by_cases hlt : k < zs.length
          case neg =>
            obtain rfl : k = zs.length := by omega
            go_wp2_with fail
            refine (HB1.out _ _ _ Lm1.out.rd).mono ?_
            rintro _ w40 ⟨Abk, cbk, rfl, o40, b40⟩
            try dsimp only at o40
            have Lz := Go.Lib.hid (Lz.out.below b40)
            have Ls1 := Go.Lib.hid (Ls1.out.below b40)
            have Ls2 := Go.Lib.hid (Ls2.out.below b40)
            have Lm1 := Go.Lib.hid (Lm1.out.below b40)
            have Lm2 := Go.Lib.hid (Lm2.out.below b40)
            have Lu1 := Go.Lib.hid (Lu1.out.below b40)
            have Lu2 := Go.Lib.hid (Lu2.out.below b40)
            have HW := Go.Lib.hid (HW.out.trans (b40.mono HW.out.size))
            have Lbk := Go.Lib.hid (lst0 o40 (by omega))
            clear o40 b40
            have HE := Go.Lib.hid (likeInts_same _ _ _ cbk cz _ _ _ _ _ _ Lbk.out.rd Lz.out.rd (by first | omega | simp))
            go_wp2_with fail
            refine HE.out.mono ?_
            rintro _ w41 ⟨rfl, x41, e41⟩
            have b41 := below_of_drewN e41
            have Lz := Go.Lib.hid (Lz.out.below b41)
            have Ls1 := Go.Lib.hid (Ls1.out.below b41)
            have Ls2 := Go.Lib.hid (Ls2.out.below b41)
            have Lm1 := Go.Lib.hid (Lm1.out.below b41)
            have Lm2 := Go.Lib.hid (Lm2.out.below b41)
            have Lu1 := Go.Lib.hid (Lu1.out.below b41)
            have Lu2 := Go.Lib.hid (Lu2.out.below b41)
            have Lbk := Go.Lib.hid (Lbk.out.below b41)
            have HW := Go.Lib.hid (HW.out.trans (b41.mono HW.out.size))
            clear b41 e41 HE
            go_wp2_with fail
            go_ret
            exact ⟨rfl, HW.out⟩
          case pos =>
            obtain ⟨b1, o1, hA1, -, -, hc1⟩ := Ls1.out.rd.at_ (k := k) (by have := HSL.out; omega)
            obtain ⟨b2, o2, hA2, -, -, hc2⟩ := Lz.out.rd.at_ (k := k) hlt
            subst hA1
            subst hA2
            have d1 := hc1 k _ (ints_at ss k (by have := HSL.out; omega))
            have d2 := hc2 k _ (ints_at zs k hlt)
            rw [HAT.out k hlt] at d1
            obtain ⟨y0, y1⟩ := HG.out.in0 hlt
            have hsb := shiftI_bd (n := m) (k := k) (z := zs.getD k 0) (by omega) HR2.out
            have hsl2 := shift_law (n := m) (k := (k : Int)) (x := zs.getD k 0) (by omega)
            change -(m / 2) ≤ shAt m zs k ∧ shAt m zs k < m / 2 at hsb
            change ((k : Int) + shAt m zs k - zs.getD k 0) % m = 0 at hsl2
            generalize zs.getD k 0 = y at *
            generalize shAt m zs k = x at *
            obtain ⟨e0, e1⟩ := hsb
            have hkz : (k : Int) < zs.length := by omega
            have hks : (k : Int) < ss.length := by have := HSL.out; omega
            have hkm : (k : Int) < m := by have := HLEN.out; omega
            have hk0 : (0 : Int) ≤ k := by omega
            have hw1 : IntKind.i64.wrap ((k : Int) + x) = (k : Int) + x := IntWalk.i64_in _ (by omega)
            have hw2 : IntKind.i64.wrap ((k : Int) + x - y) = (k : Int) + x - y := IntWalk.i64_in _ (by omega)
            have ht : ((k : Int) + x - y).tmod m = 0 := Int.tmod_eq_zero_of_dvd (Int.dvd_of_emod_eq_zero hsl2)
            have hlq1 : ¬ x < -(m / 2) := by omega
            have hlq2 : ¬ m / 2 ≤ x := by omega
            clear hc1 hc2 hsl2
            go_upto_region 20 with fail
            go_region_held3 (fun w' => w'.cell? ⟨b1, o1 + k, none⟩ = some (.int .i64 x) ∧ w'.cell? ⟨b2, o2 + k, none⟩ = some (.int .i64 y)) (first | exact ⟨d1, d2⟩ | assumption) (fail)
            go_wp2_with fail
            go_roundw
            case rel => exact ⟨k + 1, by omega, by go_num, HWR.out.drew⟩
            case measure => simp [intOf]; omega

set_option maxRecDepth 100000 in
theorem lifted (os : Os) (started : os.Started) (H : Type) (enc : TypeId × Value → H) :
    ReturnsInHanded {} Try.checked os 3 .any (Rows.fnLacingsSpec.pre6 enc Try.prog Try.f3 Rows.fnLacingsRow.domain false) (Rows.fnLacingsSpec.post enc Try.prog Try.f3 false true false false) := by
  refine returnsInHanded_of_change_sized (C := Try.checked) own started (by kernel_rfl) Try.func3
    (ChangeSpec.witness6 (enc := enc) (C := Try.checked) false ⟨#[], #[.slice none 0 0], []⟩ 8 (by kernel_rfl) (by kernel_rfl) (by kernel_rfl) (by kernel_rfl)) ?_
  intro W base args ds gs before hval0 hW hcnd hsz0 _
  have hsz : (DataW.weightsEach Try.prog (Try.f3.params.toList ++ Rows.fnLacingsSpec.plain.varTypes Try.prog) (ds ++ gs)).all (· ≤ reachBytes) = true := hsz0
  clear hsz0
  have hval : ∀ (j : Nat) t v, Try.f3.params[j]? = some t → args[j]? = some v → Value.okWide Try.prog W .any base t v := hval0
  clear hval0
  have hW' := hW
  obtain ⟨p, q, hA0, hV, rfl, hfz, hnd⟩ := hW
  have hA : DataW.TrodAll enc Try.prog W 0 (fun _ => true) true Try.f3.params.toList args.toList ds p := hA0
  rw [Try.params3] at hA hval hsz
  obtain ⟨v0, vs0, d0, ds0, p0, q0, hargs, rfl, rfl, h0, r0⟩ := trodAll_cons hA
  obtain ⟨rfl, rfl, rfl⟩ := trodAll_nil r0
  obtain rfl : args = #[v0] := by cases args; simp_all
  obtain ⟨rfl, rfl⟩ := trodVars_none hV
  obtain ⟨a0, len0, cap0, rfl⟩ := okWide_slice Try.underlying22 (hval 0 22 v0 rfl rfl)
  have k0 := h0
  have lt0 : ∀ x ∈ p0, x.block < W.heap.size := by obtain ⟨m, hm⟩ := k0; exact DataW.trod_lt m _ _ _ hm
  obtain ⟨⟨z0, rd0, sz0⟩, hlc0, hp0⟩ := open_list_bytes h0
  have reach0 : len0 * 1 ≤ 140737488351232 := by
    rcases hp0 with hp0 | ⟨E0, S0, rfl, hl0⟩
    · omega
    · have := sized_slice hsz (j := 0) (t := 22) (e := 5) rfl rfl Try.underlying22
      rw [show Try.prog.bytesOf 5 = 1 by kernel_rfl] at this
      simp only [reachBytes] at this
      omega
  clear hA0
  refine (walk a0 len0 cap0 z0 W rd0 reach0 sz0).mono fun e W' ⟨he, bel⟩ => ?_
  subst he
  exact ⟨_, rfl, _, _, _, [], _, [], hW', trodAll_mk1 (shut_bool Try.underlying4 _), (trodAll_cons_mk (Below.trod laidOut (by kernel_rfl) (of_decide_eq_true (by kernel_rfl)) k0 bel lt0) trodAll_mk0), rfl, bel.frame _, fun h => by cases h⟩

theorem over : Rows.fnLacingsRow.holds Try.pinned (OpenSpec.ofChange Rows.fnLacingsSpec) :=
  OpenClaim.holds_of_wide 3 Try.f3 rfl rfl rfl rfl rfl rfl rfl ⟨rfl, rfl, rfl, rfl, rfl⟩ rfl rfl rfl rfl rfl (by kernel_rfl) Try.func3 (by kernel_rfl)
    (of_decide_eq_true (by kernel_rfl)) (by unfold Func.isWrapper; first | (rw [if_pos (by decide +kernel)]; kernel_rfl) | (rw [if_neg (by decide +kernel)]; exact ⟨rfl, rfl⟩))
    (fun os started H enc _ => lifted os started H enc)

theorem proved : Rows.FnLacingsSaid := over
end Go.Proofs.Ytlmbcidijbohiaa.fnLacings
