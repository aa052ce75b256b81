/- FnRotations -/
import Derived.Test.YtlmbcidijbohiaaRows
import Derived.Test.YtlmbcidijbohiaaLacLaw
import Derived.Test.YtlmbcidijbohiaaBig
import Derived.Test.YtlmbcidijbohiaaOpenB
import Derived.Test.YtlmbcidijbohiaaLikesI
import Derived.Test.YtlmbcidijbohiaaInts
import Derived.WalkKit
import Derived.ProofKit
import Derived.OpenShut
import Derived.ShutString
import Derived.SizedLaws
namespace Go.Proofs.Ytlmbcidijbohiaa.fnRotations
open Go.ChangeShapes Go.WideShapes Go.ChangeAt Go.RowKit
open Go.ChangeMaps (open_string shut_string)
set_option linter.unusedVariables false

theorem rotR_bad {m r : Int} {zs : List Int} (h : ¬ (Lac m zs ∧ placeB m r = true)) : ∃ z : Int, z ≠ 0 ∧ rotR m r zs = ([], z) := by
  by_cases hL : Lac m zs
  · have : ¬ placeB m r = true := fun e => h ⟨hL, e⟩
    exact ⟨2, by omega, by simp [rotR, hL, this]⟩
  · exact ⟨1, by omega, by simp [rotR, hL]⟩
set_option linter.unusedSimpArgs false
set_option maxRecDepth 100000 in
set_option maxHeartbeats 16000000 in
theorem walk (A : Option Addr) (n cap : Nat) (bs : List Int) (w : World) (h : Rd w 0 w.heap.size A n (byts bs)) (hn : n * 1 ≤ 140737488351232) (hs : ∀ z ∈ bs, 0 ≤ z ∧ z ≤ 255) :
    Calls Try.prog 5 #[.slice A n cap] w fun e w' => e = .returned (.bool true) ∧ Below w.heap.size w w' := by
  have HB := Go.Lib.hid (big_ A n cap w)
  by_cases hbig : (4096 : Int) < n
  · go_enter Try.func5, Try.ntmps5
    go_wp2_with fail
    refine HB.out.mono ?_
    rintro e w' ⟨rfl, rfl⟩
    go_wp2_with fail
    go_ret
    exact ⟨rfl, Below.refl _ _⟩
  · have hb2 := big_ A n cap w
    rw [decide_eq_false hbig] at hb2
    have HB2 := Go.Lib.hid hb2
    have HRD := Go.Lib.hid (fun w1 (hb : Below w.heap.size w w1) => (h.below hb (Nat.le_refl _)).mono (Nat.le_refl _) hb.size)
    have HW := Go.Lib.hid (Below.refl w.heap.size w)
    clear hb2 HB hbig h
    have hnn : n ≤ 140737488355328 := by omega
    clear hn
    go_enter Try.func5, Try.ntmps5
    go_wp2_with fail
    refine HB2.out.mono ?_
    rintro e w' ⟨rfl, rfl⟩
    have HD := Go.Lib.hid (drawRotate A n cap bs _ (HRD.out _ HW.out) hs hnn)
    go_wp2_with fail
    refine HD.out.mono ?_
    rintro _ w1 ⟨m, zs, Bz, cz, r, rfl, ⟨m0, m1⟩, lz, b1⟩
    have HW := Go.Lib.hid (HW.out.trans (b1.mono HW.out.size))
    have Lz := Go.Lib.hid lz.ls
    clear lz b1 HD
    by_cases hG : Lac m zs ∧ placeB m r = true
    case neg =>
      obtain ⟨z, hz, hR⟩ : ∃ z : Int, z ≠ 0 ∧ rotR m r zs = ([], z) := rotR_bad hG
      have HI := Go.Lib.hid (fun w0 h0 => implRotateLacing m Bz cz zs r w0 0 w0.heap.size h0)
      have HS := Go.Lib.hid (fun w0 h0 hc => specRotate m Bz cz zs r w0 0 w0.heap.size h0 hc)
      rw [hR] at HI HS
      have hzb : (z != 0) = true := by simpa using hz
      have hzz : (z != z) = false := by simp
      clear hz hR hG
      go_wp2_with fail
      refine (HI.out _ Lz.out.rd).mono ?_
      rintro _ w2 ⟨Ai, ci, rfl, o2, b2⟩
      try dsimp only at o2
      have Lz := Go.Lib.hid (Lz.out.below b2)
      have HW := Go.Lib.hid (HW.out.trans (b2.mono HW.out.size))
      have Li := Go.Lib.hid (lst0 o2 (by simp))
      clear o2 b2
      go_wp2_with fail
      refine (HS.out _ Lz.out.rd Lz.out.le).mono ?_
      rintro _ w3 ⟨As, cs, rfl, o3, b3⟩
      try dsimp only at o3
      have Lz := Go.Lib.hid (Lz.out.below b3)
      have Li := Go.Lib.hid (Li.out.below b3)
      have HW := Go.Lib.hid (HW.out.trans (b3.mono HW.out.size))
      have Ls := Go.Lib.hid (lst0 o3 (by simp))
      clear o3 b3
      have HE := Go.Lib.hid (likeInts_same _ _ _ ci cs _ _ _ _ _ _ Li.out.rd Ls.out.rd (by first | omega | simp))
      go_wp2_with fail
      refine HE.out.mono ?_
      rintro _ w4 ⟨rfl, x4, e4⟩
      have b4 := below_of_drewN e4
      have Lz := Go.Lib.hid (Lz.out.below b4)
      have Li := Go.Lib.hid (Li.out.below b4)
      have Ls := Go.Lib.hid (Ls.out.below b4)
      have HW := Go.Lib.hid (HW.out.trans (b4.mono HW.out.size))
      clear b4 e4 HE
      go_wp2_with fail
      go_ret
      exact ⟨rfl, HW.out⟩
    case pos =>
      obtain ⟨hL, hp⟩ := hG
      obtain ⟨p0, p1⟩ := placeB_iff.1 hp
      have hR : rotR m r zs = (rotI m r zs, 0) := by simp [rotR, hL, hp]
      obtain ⟨r0, r1, -⟩ := hL.rim
      have hlen := hL.len
      have HI := Go.Lib.hid (fun w0 h0 => implRotateLacing m Bz cz zs r w0 0 w0.heap.size h0)
      have HS := Go.Lib.hid (fun w0 h0 hc => specRotate m Bz cz zs r w0 0 w0.heap.size h0 hc)
      rw [hR] at HI HS
      have hL2 := rot_lac hL p0 p1
      have hq0 := Int.emod_nonneg (m - r) (show m ≠ 0 by omega)
      have hq1 := Int.emod_lt_of_pos (m - r) (show 0 < m by omega)
      have ht : (m - r).tmod m = (m - r) % m := Int.tmod_eq_emod_of_nonneg (by omega)
      have HLEN := Go.Lib.hid hlen
      have hR2 : rotR m ((m - r) % m) (rotI m r zs) = (zs, 0) := by simp only [rotR, if_pos hL2, if_pos (placeB_iff.2 ⟨hq0, hq1⟩), rot_back hL p0 p1]
      have hrl : (rotI m r zs).length ≤ 24 := by rw [rotI_len]; exact hL.few
      have hfew := hL.few
      have HI2 := Go.Lib.hid (fun A2 c2 w0 h0 => implRotateLacing m A2 c2 (rotI m r zs) ((m - r) % m) w0 0 w0.heap.size h0)
      have HL2 := Go.Lib.hid (fun A2 c2 w0 h0 => implIsLacing m A2 c2 (rotI m r zs) w0 0 w0.heap.size h0)
      rw [hR2] at HI2
      rw [decide_eq_true hL2] at HL2
      have hmz : ¬ m = 0 := by omega
      clear hR hR2 hL hL2 hp hlen
      generalize (m - r) % m = q at *
      generalize rotI m r zs = ys at *
      go_wp2_with fail
      refine (HI.out _ Lz.out.rd).mono ?_
      rintro _ w5 ⟨Ai, ci, rfl, o5, b5⟩
      try dsimp only at o5
      have Lz := Go.Lib.hid (Lz.out.below b5)
      have HW := Go.Lib.hid (HW.out.trans (b5.mono HW.out.size))
      have Li := Go.Lib.hid (lst0 o5 (by omega))
      clear o5 b5
      go_wp2_with fail
      refine (HS.out _ Lz.out.rd Lz.out.le).mono ?_
      rintro _ w6 ⟨As, cs, rfl, o6, b6⟩
      try dsimp only at o6
      have Lz := Go.Lib.hid (Lz.out.below b6)
      have Li := Go.Lib.hid (Li.out.below b6)
      have HW := Go.Lib.hid (HW.out.trans (b6.mono HW.out.size))
      have Ls := Go.Lib.hid (lst0 o6 (by omega))
      clear o6 b6
      have HE := Go.Lib.hid (likeInts_same _ _ _ ci cs _ _ _ _ _ _ Li.out.rd Ls.out.rd (by first | omega | simp))
      go_wp2_with fail
      refine HE.out.mono ?_
      rintro _ w7 ⟨rfl, x7, e7⟩
      have b7 := below_of_drewN e7
      have Lz := Go.Lib.hid (Lz.out.below b7)
      have Li := Go.Lib.hid (Li.out.below b7)
      have Ls := Go.Lib.hid (Ls.out.below b7)
      have HW := Go.Lib.hid (HW.out.trans (b7.mono HW.out.size))
      clear b7 e7 HE
      go_wp2_with fail
      refine (HI2.out _ _ _ Li.out.rd).mono ?_
      rintro _ w8 ⟨Ab, cb, rfl, o8, b8⟩
      try dsimp only at o8
      have Lz := Go.Lib.hid (Lz.out.below b8)
      have Li := Go.Lib.hid (Li.out.below b8)
      have Ls := Go.Lib.hid (Ls.out.below b8)
      have HW := Go.Lib.hid (HW.out.trans (b8.mono HW.out.size))
      have Lb := Go.Lib.hid (lst0 o8 (by omega))
      clear o8 b8
      go_wp2_with fail
      refine (HL2.out _ _ _ Li.out.rd).mono ?_
      rintro _ w9 ⟨rfl, b9⟩
      have Lz := Go.Lib.hid (Lz.out.below b9)
      have Li := Go.Lib.hid (Li.out.below b9)
      have Ls := Go.Lib.hid (Ls.out.below b9)
      have Lb := Go.Lib.hid (Lb.out.below b9)
      have HW := Go.Lib.hid (HW.out.trans (b9.mono HW.out.size))
      clear b9
      have HE := Go.Lib.hid (likeInts_same _ _ _ cb cz _ _ _ _ _ _ Lb.out.rd Lz.out.rd (by first | omega | simp))
      go_wp2_with fail
      refine HE.out.mono ?_
      rintro _ w10 ⟨rfl, x10, e10⟩
      have b10 := below_of_drewN e10
      have Lz := Go.Lib.hid (Lz.out.below b10)
      have Li := Go.Lib.hid (Li.out.below b10)
      have Ls := Go.Lib.hid (Ls.out.below b10)
      have Lb := Go.Lib.hid (Lb.out.below b10)
      have HW := Go.Lib.hid (HW.out.trans (b10.mono HW.out.size))
      clear b10 e10 HE
      go_wp2_with fail
      go_ret
      exact ⟨rfl, HW.out⟩

set_option maxRecDepth 100000 in
theorem lifted (os : Os) (started : os.Started) (H : Type) (enc : TypeId × Value → H) :
    ReturnsInHanded {} Try.checked os 5 .any (Rows.fnRotationsSpec.pre6 enc Try.prog Try.f5 Rows.fnRotationsRow.domain false) (Rows.fnRotationsSpec.post enc Try.prog Try.f5 false true false false) := by
  refine returnsInHanded_of_change_sized (C := Try.checked) own started (by kernel_rfl) Try.func5
    (ChangeSpec.witness6 (enc := enc) (C := Try.checked) false ⟨#[], #[.slice none 0 0], []⟩ 8 (by kernel_rfl) (by kernel_rfl) (by kernel_rfl) (by kernel_rfl)) ?_
  intro W base args ds gs before hval0 hW hcnd hsz0 _
  have hsz : (DataW.weightsEach Try.prog (Try.f5.params.toList ++ Rows.fnRotationsSpec.plain.varTypes Try.prog) (ds ++ gs)).all (· ≤ reachBytes) = true := hsz0
  clear hsz0
  have hval : ∀ (j : Nat) t v, Try.f5.params[j]? = some t → args[j]? = some v → Value.okWide Try.prog W .any base t v := hval0
  clear hval0
  have hW' := hW
  obtain ⟨p, q, hA0, hV, rfl, hfz, hnd⟩ := hW
  have hA : DataW.TrodAll enc Try.prog W 0 (fun _ => true) true Try.f5.params.toList args.toList ds p := hA0
  rw [Try.params5] at hA hval hsz
  obtain ⟨v0, vs0, d0, ds0, p0, q0, hargs, rfl, rfl, h0, r0⟩ := trodAll_cons hA
  obtain ⟨rfl, rfl, rfl⟩ := trodAll_nil r0
  obtain rfl : args = #[v0] := by cases args; simp_all
  obtain ⟨rfl, rfl⟩ := trodVars_none hV
  obtain ⟨a0, len0, cap0, rfl⟩ := okWide_slice Try.underlying22 (hval 0 22 v0 rfl rfl)
  have k0 := h0
  have lt0 : ∀ x ∈ p0, x.block < W.heap.size := by obtain ⟨m, hm⟩ := k0; exact DataW.trod_lt m _ _ _ hm
  obtain ⟨⟨z0, rd0, sz0⟩, hlc0, hp0⟩ := open_list_bytes h0
  have reach0 : len0 * 1 ≤ 140737488351232 := by
    rcases hp0 with hp0 | ⟨E0, S0, rfl, hl0⟩
    · omega
    · have := sized_slice hsz (j := 0) (t := 22) (e := 5) rfl rfl Try.underlying22
      rw [show Try.prog.bytesOf 5 = 1 by kernel_rfl] at this
      simp only [reachBytes] at this
      omega
  clear hA0
  refine (walk a0 len0 cap0 z0 W rd0 reach0 sz0).mono fun e W' ⟨he, bel⟩ => ?_
  subst he
  exact ⟨_, rfl, _, _, _, [], _, [], hW', trodAll_mk1 (shut_bool Try.underlying4 _), (trodAll_cons_mk (Below.trod laidOut (by kernel_rfl) (of_decide_eq_true (by kernel_rfl)) k0 bel lt0) trodAll_mk0), rfl, bel.frame _, fun h => by cases h⟩

theorem over : Rows.fnRotationsRow.holds Try.pinned (OpenSpec.ofChange Rows.fnRotationsSpec) :=
  OpenClaim.holds_of_wide 5 Try.f5 rfl rfl rfl rfl rfl rfl rfl ⟨rfl, rfl, rfl, rfl, rfl⟩ rfl rfl rfl rfl rfl (by kernel_rfl) Try.func5 (by kernel_rfl)
    (of_decide_eq_true (by kernel_rfl)) (by unfold Func.isWrapper; first | (rw [if_pos (by decide +kernel)]; kernel_rfl) | (rw [if_neg (by decide +kernel)]; exact ⟨rfl, rfl⟩))
    (fun os started H enc _ => lifted os started H enc)

theorem proved : Rows.FnRotationsSaid := over
end Go.Proofs.Ytlmbcidijbohiaa.fnRotations
