/- OutOfBand of the program answers as the model does, at every argument. -/
import Derived.Test.YtpcaakmcjdginabRows
import Derived.Test.YtpcaakmcjdginabTenX
import Derived.Test.YtpcaakmcjdginabInts
import Derived.Test.YtpcaakmcjdginabOpen
import Derived.Test.YtpcaakmcjdginabOpenI
import Derived.WalkKit
import Derived.ProofKit
import Derived.OpenShut
import Derived.ShutString
import Derived.SizedLaws
namespace Go.Proofs.Ytpcaakmcjdginab.fnExactOutOfBand
open Go.ChangeShapes Go.WideShapes Go.ChangeAt Go.RowKit
open Go.ChangeMaps (open_string shut_string)
set_option linter.unusedVariables false

set_option maxRecDepth 100000 in
set_option maxHeartbeats 16000000 in
theorem walk (AaList : Option Addr) (naList caList : Nat) (zList : List Int) (aPercent : Int) (w : World) (haList : Rd w 0 w.heap.size AaList naList (ints zList)) (_hnaList : naList * 8 ≤ 140737488351232) (_waPercent : (Lit.int .i64 aPercent).wf = true) :
    Calls Try.prog 8 #[.slice AaList naList caList, .int .i64 aPercent] w fun e w' => e = .returned (.bool true) ∧ Below w.heap.size w w' := by
  obtain rfl : zList.length = naList := by have := haList.len; rwa [ints_len] at this
  clear _waPercent
  by_cases hbaList : (1048576 : Int) < zList.length
  · go_enter Try.func8, Try.ntmps8
    go_wp2_with fail
    go_ret
    exact ⟨rfl, Below.refl _ _⟩
  · skip
    have hzzList : zList.length ≤ 1048576 := by omega
    obtain ⟨V0, V1, hv⟩ : ∃ V0 V1, outR zList aPercent = (V0, V1) := ⟨_, _, rfl⟩
    have Hspec := Go.Lib.hid (fun (BaList : Option Addr) (daList : Nat) (w0 : World) (loaList hiaList : Nat) (h0aList : Rd w0 loaList hiaList BaList zList.length (ints zList)) (hcaList : zList.length ≤ daList) => xsOutOfBand BaList daList zList aPercent w0 loaList hiaList h0aList hzzList hcaList)
    have Himpl := Go.Lib.hid (fun (BaList : Option Addr) (daList : Nat) (w0 : World) (loaList hiaList : Nat) (h0aList : Rd w0 loaList hiaList BaList zList.length (ints zList)) (hcaList : zList.length ≤ daList) => xiOutOfBand BaList daList zList aPercent w0 loaList hiaList h0aList hzzList hcaList)
    have hlen : V0.length ≤ 1048576 := by
      have hx := outR_len zList aPercent
      rw [hv] at hx
      exact hx
    rw [hv] at Hspec Himpl
    try dsimp only [pairI] at Hspec Himpl
    clear hv
    have hne1 : (V1 != V1) = false := by simp
    have C := Go.Lib.hid (Ctx.start w)
    go_enter Try.func8, Try.ntmps8
    go_wp2_with fail
    refine (toInts AaList zList.length caList zList 0 _ (C.out.rd haList) (by omega)).mono ?_
    rintro _ w1 ⟨E1, f1, rfl, q1, b1⟩
    have C := Go.Lib.hid (C.out.push (OwnL.loc _ _ _ _ _) q1 b1)
    clear q1 b1
    obtain ⟨l2, t2, -, -, -, p2, u2⟩ := C.out.pick 0 rfl
    go_wp2_with fail
    refine (Hspec.out E1 f1 _ _ _ p2.rd p2.le).mono ?_
    rintro _ w3 ⟨E3, f3, rfl, q3, b3⟩
    have C := Go.Lib.hid (C.out.push (OwnL.loc _ _ _ _ _) q3 b3)
    clear q3 b3
    clear p2 u2
    go_wp2_with fail
    refine (toInts AaList zList.length caList zList 0 _ (C.out.rd haList) (by omega)).mono ?_
    rintro _ w4 ⟨E4, f4, rfl, q4, b4⟩
    have C := Go.Lib.hid (C.out.push (OwnL.loc _ _ _ _ _) q4 b4)
    clear q4 b4
    obtain ⟨l5, t5, -, -, -, p5, u5⟩ := C.out.pick 0 rfl
    go_wp2_with fail
    refine (Himpl.out E4 f4 _ _ _ p5.rd p5.le).mono ?_
    rintro _ w6 ⟨E6, f6, rfl, q6, b6⟩
    have C := Go.Lib.hid (C.out.push (OwnL.loc _ _ _ _ _) q6 b6)
    clear q6 b6
    clear p5 u5
    obtain ⟨l7, t7, -, -, -, p7, u7⟩ := C.out.pick 0 rfl
    obtain ⟨l8, t8, -, -, -, p8, u8⟩ := C.out.pick 2 rfl
    have HE := Go.Lib.hid (eqInts_same E6 E3 V0.length f6 f3 V0 _ _ _ _ _ p7.rd p8.rd (by omega))
    clear p7 u7 p8 u8
    go_wp2_with fail
    refine HE.out.mono ?_
    rintro _ _ ⟨rfl, x9, rfl⟩
    have C := Go.Lib.hid (C.out.drewN x9)
    clear HE
    generalize World.drewN _ x9 = w9 at C ⊢
    go_wp2_with fail
    refine (toInts AaList zList.length caList zList 0 _ (C.out.rd haList) (by omega)).mono ?_
    rintro _ w10 ⟨E10, f10, rfl, q10, b10⟩
    have C := Go.Lib.hid (C.out.push (OwnL.loc _ _ _ _ _) q10 b10)
    clear q10 b10
    obtain ⟨l11, t11, -, -, -, p11, u11⟩ := C.out.pick 2 rfl
    obtain ⟨l12, t12, -, -, -, p12, u12⟩ := C.out.pick 0 rfl
    have HE := Go.Lib.hid (eqInts_same E4 E10 zList.length f4 f10 zList _ _ _ _ _ p11.rd p12.rd (by omega))
    clear p11 u11 p12 u12
    go_wp2_with fail
    refine HE.out.mono ?_
    rintro _ _ ⟨rfl, x13, rfl⟩
    have C := Go.Lib.hid (C.out.drewN x13)
    clear HE
    generalize World.drewN _ x13 = w13 at C ⊢
    obtain ⟨l14, t14, -, -, -, p14, u14⟩ := C.out.pick 2 rfl
    have HM := Go.Lib.hid (markInts E4 zList.length f4 (1) _ l14 t14 _ p14 (by omega) (by omega))
    clear p14
    go_wp2_with fail
    refine HM.out.mono ?_
    rintro _ w15 ⟨rfl, q15, k15⟩
    have C := Go.Lib.hid (u14 _ _ (OwnL.loc _ _ _ _ _) q15 k15)
    clear q15 k15 HM u14
    try dsimp only [List.set] at C
    have hk15 : ¬ ((1 + zList.length : Nat) : Int) < 0 := by omega
    have hm15 : (((1 + zList.length : Nat) : Int) != ((1 + zList.length : Nat) : Int)) = false := by simp
    obtain ⟨l16, t16, -, -, -, p16, u16⟩ := C.out.pick 1 rfl
    obtain ⟨l17, t17, -, -, -, p17, u17⟩ := C.out.pick 3 rfl
    have HE := Go.Lib.hid (eqInts_same E6 E3 V0.length f6 f3 V0 _ _ _ _ _ p16.rd p17.rd (by omega))
    clear p16 u16 p17 u17
    go_wp2_with fail
    refine HE.out.mono ?_
    rintro _ _ ⟨rfl, x18, rfl⟩
    have C := Go.Lib.hid (C.out.drewN x18)
    clear HE
    generalize World.drewN _ x18 = w18 at C ⊢
    obtain ⟨l19, t19, -, -, -, p19, u19⟩ := C.out.pick 1 rfl
    have HM := Go.Lib.hid (markInts E6 V0.length f6 (1) _ l19 t19 _ p19 (by omega) (by omega))
    clear p19
    go_wp2_with fail
    refine HM.out.mono ?_
    rintro _ w20 ⟨rfl, q20, k20⟩
    have C := Go.Lib.hid (u19 _ _ (OwnL.loc _ _ _ _ _) q20 k20)
    clear q20 k20 HM u19
    try dsimp only [List.set] at C
    have hk20 : ¬ ((1 + V0.length : Nat) : Int) < 0 := by omega
    have hm20 : (((1 + V0.length : Nat) : Int) != ((1 + V0.length : Nat) : Int)) = false := by simp
    obtain ⟨l21, t21, -, -, -, p21, u21⟩ := C.out.pick 1 rfl
    have HH := Go.Lib.hid (heldInts E6 V0.length f6 (1) l21 t21 _ p21.rd (by omega) (by omega))
    clear p21 u21
    go_wp2_with fail
    refine HH.out.mono ?_
    rintro _ _ ⟨rfl, rfl⟩
    clear HH
    go_wp2_with fail
    refine (toInts AaList zList.length caList zList 0 _ (C.out.rd haList) (by omega)).mono ?_
    rintro _ w23 ⟨E23, f23, rfl, q23, b23⟩
    have C := Go.Lib.hid (C.out.push (OwnL.loc _ _ _ _ _) q23 b23)
    clear q23 b23
    obtain ⟨l24, t24, -, -, -, p24, u24⟩ := C.out.pick 0 rfl
    go_wp2_with fail
    refine (Himpl.out E23 f23 _ _ _ p24.rd p24.le).mono ?_
    rintro _ w25 ⟨E25, f25, rfl, q25, b25⟩
    have C := Go.Lib.hid (C.out.push (OwnL.loc _ _ _ _ _) q25 b25)
    clear q25 b25
    clear p24 u24
    obtain ⟨l26, t26, -, -, -, p26, u26⟩ := C.out.pick 0 rfl
    obtain ⟨l27, t27, -, -, -, p27, u27⟩ := C.out.pick 5 rfl
    have HE := Go.Lib.hid (eqInts_same E25 E3 V0.length f25 f3 V0 _ _ _ _ _ p26.rd p27.rd (by omega))
    clear p26 u26 p27 u27
    go_wp2_with fail
    refine HE.out.mono ?_
    rintro _ _ ⟨rfl, x28, rfl⟩
    have C := Go.Lib.hid (C.out.drewN x28)
    clear HE
    generalize World.drewN _ x28 = w28 at C ⊢
    obtain ⟨l29, t29, -, -, -, p29, u29⟩ := C.out.pick 3 rfl
    have HH := Go.Lib.hid (heldInts E6 V0.length f6 (1) l29 t29 _ p29.rd (by omega) (by omega))
    clear p29 u29
    go_wp2_with fail
    refine HH.out.mono ?_
    rintro _ _ ⟨rfl, rfl⟩
    clear HH
    go_wp2_with fail
    go_ret
    exact ⟨rfl, C.out.b⟩

set_option maxRecDepth 100000 in
theorem lifted (os : Os) (started : os.Started) (H : Type) (enc : TypeId × Value → H) :
    ReturnsInHanded {} Try.checked os 8 .any (Rows.fnExactOutOfBandSpec.pre6 enc Try.prog Try.f8 Rows.fnExactOutOfBandRow.domain false) (Rows.fnExactOutOfBandSpec.post enc Try.prog Try.f8 false true false false) := by
  refine returnsInHanded_of_change_sized (C := Try.checked) own started (by kernel_rfl) Try.func8
    (ChangeSpec.witness6 (enc := enc) (C := Try.checked) false ⟨#[], #[.slice none 0 0, .int .i64 0], []⟩ 8 (by kernel_rfl) (by kernel_rfl) (by kernel_rfl) (by kernel_rfl)) ?_
  intro W base args ds gs before hval0 hW hcnd hsz0 _
  have hsz : (DataW.weightsEach Try.prog (Try.f8.params.toList ++ Rows.fnExactOutOfBandSpec.plain.varTypes Try.prog) (ds ++ gs)).all (· ≤ reachBytes) = true := hsz0
  clear hsz0
  have hval : ∀ (j : Nat) t v, Try.f8.params[j]? = some t → args[j]? = some v → Value.okWide Try.prog W .any base t v := hval0
  clear hval0
  have hW' := hW
  obtain ⟨p, q, hA0, hV, rfl, hfz, hnd⟩ := hW
  have hA : DataW.TrodAll enc Try.prog W 0 (fun _ => true) true Try.f8.params.toList args.toList ds p := hA0
  rw [Try.params8] at hA hval hsz
  obtain ⟨v0, vs0, d0, ds0, p0, q0, hargs, rfl, rfl, h0, r0⟩ := trodAll_cons hA
  obtain ⟨v1, vs1, d1, ds1, p1, q1, rfl, rfl, rfl, h1, r1⟩ := trodAll_cons r0
  obtain ⟨rfl, rfl, rfl⟩ := trodAll_nil r1
  obtain rfl : args = #[v0, v1] := by cases args; simp_all
  obtain ⟨rfl, rfl⟩ := trodVars_none hV
  obtain ⟨a0, len0, cap0, rfl⟩ := okWide_slice Try.underlying24 (hval 0 24 v0 rfl rfl)
  have k0 := h0
  have lt0 : ∀ x ∈ p0, x.block < W.heap.size := by obtain ⟨m, hm⟩ := k0; exact DataW.trod_lt m _ _ _ hm
  obtain ⟨⟨z0, rd0⟩, hlc0, hp0⟩ := open_list_ints h0
  have reach0 : len0 * 8 ≤ 140737488351232 := by
    rcases hp0 with hp0 | ⟨E0, S0, rfl, hl0⟩
    · omega
    · have := sized_slice hsz (j := 0) (t := 24) (e := 2) rfl rfl Try.underlying24
      rw [show Try.prog.bytesOf 2 = 8 by kernel_rfl] at this
      simp only [reachBytes] at this
      omega
  obtain ⟨a1, rfl, rfl, rfl, w1⟩ := open_int Try.underlying2 (hval 1 2 v1 rfl rfl) h1
  clear hA0
  refine (walk a0 len0 cap0 z0 a1 W rd0 reach0 w1).mono fun e W' ⟨he, bel⟩ => ?_
  subst he
  exact ⟨_, rfl, _, _, _, [], _, [], hW', trodAll_mk1 (shut_bool Try.underlying4 _), (trodAll_cons_mk (Below.trod laidOut (by kernel_rfl) (of_decide_eq_true (by kernel_rfl)) k0 bel lt0) (trodAll_cons_mk (shut_int Try.underlying2 w1) trodAll_mk0)), rfl, bel.frame _, fun h => by cases h⟩

theorem over : Rows.fnExactOutOfBandRow.holds Try.pinned (OpenSpec.ofChange Rows.fnExactOutOfBandSpec) :=
  OpenClaim.holds_of_wide 8 Try.f8 rfl rfl rfl rfl rfl rfl rfl ⟨rfl, rfl, rfl, rfl, rfl⟩ rfl rfl rfl rfl rfl (by kernel_rfl) Try.func8 (by kernel_rfl)
    (of_decide_eq_true (by kernel_rfl)) (by unfold Func.isWrapper; first | (rw [if_pos (by decide +kernel)]; kernel_rfl) | (rw [if_neg (by decide +kernel)]; exact ⟨rfl, rfl⟩))
    (fun os started H enc _ => lifted os started H enc)

theorem proved : Rows.FnExactOutOfBandSaid := over
end Go.Proofs.Ytpcaakmcjdginab.fnExactOutOfBand
