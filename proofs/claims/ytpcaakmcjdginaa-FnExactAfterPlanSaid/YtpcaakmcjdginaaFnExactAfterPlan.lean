/- AfterPlan of the program answers as the model does, at every argument. -/
import Derived.Test.YtpcaakmcjdginaaRows
import Derived.Test.YtpcaakmcjdginaaTruX
import Derived.Test.YtpcaakmcjdginaaInts
import Derived.Test.YtpcaakmcjdginaaOpen
import Derived.Test.YtpcaakmcjdginaaOpenI
import Derived.WalkKit
import Derived.ProofKit
import Derived.OpenShut
import Derived.ShutString
import Derived.SizedLaws
namespace Go.Proofs.Ytpcaakmcjdginaa.fnExactAfterPlan
open Go.ChangeShapes Go.WideShapes Go.ChangeAt Go.RowKit
open Go.ChangeMaps (open_string shut_string)
set_option linter.unusedVariables false

set_option maxRecDepth 100000 in
set_option maxHeartbeats 16000000 in
theorem walk (AaList : Option Addr) (naList caList : Nat) (zList : List Int) (AaE : Option Addr) (naE caE : Nat) (zE : List Int) (AaPlan : Option Addr) (naPlan caPlan : Nat) (zPlan : List Int) (w : World) (haList : Rd w 0 w.heap.size AaList naList (ints zList)) (_hnaList : naList * 8 ≤ 140737488351232) (haE : Rd w 0 w.heap.size AaE naE (ints zE)) (_hnaE : naE * 8 ≤ 140737488351232) (haPlan : Rd w 0 w.heap.size AaPlan naPlan (ints zPlan)) (_hnaPlan : naPlan * 8 ≤ 140737488351232) :
    Calls Try.prog 7 #[.slice AaList naList caList, .slice AaE naE caE, .slice AaPlan naPlan caPlan] w fun e w' => e = .returned (.bool true) ∧ Below w.heap.size w w' := by
  obtain rfl : zList.length = naList := by have := haList.len; rwa [ints_len] at this
  obtain rfl : zE.length = naE := by have := haE.len; rwa [ints_len] at this
  obtain rfl : zPlan.length = naPlan := by have := haPlan.len; rwa [ints_len] at this
  by_cases hbaList : (1048576 : Int) < zList.length
  · go_enter Try.func7, Try.ntmps7
    go_wp2_with fail
    go_ret
    exact ⟨rfl, Below.refl _ _⟩
  · skip
    have hzzList : zList.length ≤ 1048576 := by omega
    by_cases hbaE : (1048576 : Int) < zE.length
    · go_enter Try.func7, Try.ntmps7
      go_wp2_with fail
      go_ret
      exact ⟨rfl, Below.refl _ _⟩
    · skip
      have hzzE : zE.length ≤ 1048576 := by omega
      by_cases hbaPlan : (1048576 : Int) < zPlan.length
      · go_enter Try.func7, Try.ntmps7
        go_wp2_with fail
        go_ret
        exact ⟨rfl, Below.refl _ _⟩
      · skip
        have hzzPlan : zPlan.length ≤ 1048576 := by omega
        obtain ⟨V0, V1, hv⟩ : ∃ V0 V1, afterR zList zE zPlan = (V0, V1) := ⟨_, _, rfl⟩
        have Hspec := Go.Lib.hid (fun (BaList : Option Addr) (daList : Nat) (BaE : Option Addr) (daE : Nat) (BaPlan : Option Addr) (daPlan : Nat) (w0 : World) (loaList hiaList : Nat) (h0aList : Rd w0 loaList hiaList BaList zList.length (ints zList)) (hcaList : zList.length ≤ daList) (loaE hiaE : Nat) (h0aE : Rd w0 loaE hiaE BaE zE.length (ints zE)) (hcaE : zE.length ≤ daE) (loaPlan hiaPlan : Nat) (h0aPlan : Rd w0 loaPlan hiaPlan BaPlan zPlan.length (ints zPlan)) (hcaPlan : zPlan.length ≤ daPlan) => xsAfterPlan BaList daList zList BaE daE zE BaPlan daPlan zPlan w0 loaList hiaList h0aList hzzList hcaList loaE hiaE h0aE hzzE hcaE loaPlan hiaPlan h0aPlan hzzPlan hcaPlan)
        have Himpl := Go.Lib.hid (fun (BaList : Option Addr) (daList : Nat) (BaE : Option Addr) (daE : Nat) (BaPlan : Option Addr) (daPlan : Nat) (w0 : World) (loaList hiaList : Nat) (h0aList : Rd w0 loaList hiaList BaList zList.length (ints zList)) (hcaList : zList.length ≤ daList) (loaE hiaE : Nat) (h0aE : Rd w0 loaE hiaE BaE zE.length (ints zE)) (hcaE : zE.length ≤ daE) (loaPlan hiaPlan : Nat) (h0aPlan : Rd w0 loaPlan hiaPlan BaPlan zPlan.length (ints zPlan)) (hcaPlan : zPlan.length ≤ daPlan) => xiAfterPlan BaList daList zList BaE daE zE BaPlan daPlan zPlan w0 loaList hiaList h0aList hzzList hcaList loaE hiaE h0aE hzzE hcaE loaPlan hiaPlan h0aPlan hzzPlan hcaPlan)
        have hlen : V0.length ≤ 1048576 := by
          have hx := afterR_len zList zE zPlan
          rw [hv] at hx
          exact hx
        rw [hv] at Hspec Himpl
        try dsimp only [pairI] at Hspec Himpl
        clear hv
        have hne1 : (V1 != V1) = false := by simp
        have C := Go.Lib.hid (Ctx.start w)
        go_enter Try.func7, Try.ntmps7
        go_wp2_with fail
        refine (toInts AaList zList.length caList zList 0 _ (C.out.rd haList) (by omega)).mono ?_
        rintro _ w1 ⟨E1, f1, rfl, q1, b1⟩
        have C := Go.Lib.hid (C.out.push (OwnL.loc _ _ _ _ _) q1 b1)
        clear q1 b1
        go_wp2_with fail
        refine (toInts AaE zE.length caE zE 0 _ (C.out.rd haE) (by omega)).mono ?_
        rintro _ w2 ⟨E2, f2, rfl, q2, b2⟩
        have C := Go.Lib.hid (C.out.push (OwnL.loc _ _ _ _ _) q2 b2)
        clear q2 b2
        go_wp2_with fail
        refine (toInts AaPlan zPlan.length caPlan zPlan 0 _ (C.out.rd haPlan) (by omega)).mono ?_
        rintro _ w3 ⟨E3, f3, rfl, q3, b3⟩
        have C := Go.Lib.hid (C.out.push (OwnL.loc _ _ _ _ _) q3 b3)
        clear q3 b3
        obtain ⟨l4, t4, -, -, -, p4, u4⟩ := C.out.pick 2 rfl
        obtain ⟨l5, t5, -, -, -, p5, u5⟩ := C.out.pick 1 rfl
        obtain ⟨l6, t6, -, -, -, p6, u6⟩ := C.out.pick 0 rfl
        go_wp2_with fail
        refine (Hspec.out E1 f1 E2 f2 E3 f3 _ _ _ p4.rd p4.le _ _ p5.rd p5.le _ _ p6.rd p6.le).mono ?_
        rintro _ w7 ⟨E7, f7, rfl, q7, b7⟩
        have C := Go.Lib.hid (C.out.push (OwnL.loc _ _ _ _ _) q7 b7)
        clear q7 b7
        clear p4 u4 p5 u5 p6 u6
        go_wp2_with fail
        refine (toInts AaList zList.length caList zList 0 _ (C.out.rd haList) (by omega)).mono ?_
        rintro _ w8 ⟨E8, f8, rfl, q8, b8⟩
        have C := Go.Lib.hid (C.out.push (OwnL.loc _ _ _ _ _) q8 b8)
        clear q8 b8
        go_wp2_with fail
        refine (toInts AaE zE.length caE zE 0 _ (C.out.rd haE) (by omega)).mono ?_
        rintro _ w9 ⟨E9, f9, rfl, q9, b9⟩
        have C := Go.Lib.hid (C.out.push (OwnL.loc _ _ _ _ _) q9 b9)
        clear q9 b9
        go_wp2_with fail
        refine (toInts AaPlan zPlan.length caPlan zPlan 0 _ (C.out.rd haPlan) (by omega)).mono ?_
        rintro _ w10 ⟨E10, f10, rfl, q10, b10⟩
        have C := Go.Lib.hid (C.out.push (OwnL.loc _ _ _ _ _) q10 b10)
        clear q10 b10
        obtain ⟨l11, t11, -, -, -, p11, u11⟩ := C.out.pick 2 rfl
        obtain ⟨l12, t12, -, -, -, p12, u12⟩ := C.out.pick 1 rfl
        obtain ⟨l13, t13, -, -, -, p13, u13⟩ := C.out.pick 0 rfl
        go_wp2_with fail
        refine (Himpl.out E8 f8 E9 f9 E10 f10 _ _ _ p11.rd p11.le _ _ p12.rd p12.le _ _ p13.rd p13.le).mono ?_
        rintro _ w14 ⟨E14, f14, rfl, q14, b14⟩
        have C := Go.Lib.hid (C.out.push (OwnL.loc _ _ _ _ _) q14 b14)
        clear q14 b14
        clear p11 u11 p12 u12 p13 u13
        obtain ⟨l15, t15, -, -, -, p15, u15⟩ := C.out.pick 0 rfl
        obtain ⟨l16, t16, -, -, -, p16, u16⟩ := C.out.pick 4 rfl
        have HE := Go.Lib.hid (eqInts_same E14 E7 V0.length f14 f7 V0 _ _ _ _ _ p15.rd p16.rd (by omega))
        clear p15 u15 p16 u16
        go_wp2_with fail
        refine HE.out.mono ?_
        rintro _ _ ⟨rfl, x17, rfl⟩
        have C := Go.Lib.hid (C.out.drewN x17)
        clear HE
        generalize World.drewN _ x17 = w17 at C ⊢
        go_wp2_with fail
        refine (toInts AaList zList.length caList zList 0 _ (C.out.rd haList) (by omega)).mono ?_
        rintro _ w18 ⟨E18, f18, rfl, q18, b18⟩
        have C := Go.Lib.hid (C.out.push (OwnL.loc _ _ _ _ _) q18 b18)
        clear q18 b18
        obtain ⟨l19, t19, -, -, -, p19, u19⟩ := C.out.pick 4 rfl
        obtain ⟨l20, t20, -, -, -, p20, u20⟩ := C.out.pick 0 rfl
        have HE := Go.Lib.hid (eqInts_same E8 E18 zList.length f8 f18 zList _ _ _ _ _ p19.rd p20.rd (by omega))
        clear p19 u19 p20 u20
        go_wp2_with fail
        refine HE.out.mono ?_
        rintro _ _ ⟨rfl, x21, rfl⟩
        have C := Go.Lib.hid (C.out.drewN x21)
        clear HE
        generalize World.drewN _ x21 = w21 at C ⊢
        go_wp2_with fail
        refine (toInts AaE zE.length caE zE 0 _ (C.out.rd haE) (by omega)).mono ?_
        rintro _ w22 ⟨E22, f22, rfl, q22, b22⟩
        have C := Go.Lib.hid (C.out.push (OwnL.loc _ _ _ _ _) q22 b22)
        clear q22 b22
        obtain ⟨l23, t23, -, -, -, p23, u23⟩ := C.out.pick 4 rfl
        obtain ⟨l24, t24, -, -, -, p24, u24⟩ := C.out.pick 0 rfl
        have HE := Go.Lib.hid (eqInts_same E9 E22 zE.length f9 f22 zE _ _ _ _ _ p23.rd p24.rd (by omega))
        clear p23 u23 p24 u24
        go_wp2_with fail
        refine HE.out.mono ?_
        rintro _ _ ⟨rfl, x25, rfl⟩
        have C := Go.Lib.hid (C.out.drewN x25)
        clear HE
        generalize World.drewN _ x25 = w25 at C ⊢
        go_wp2_with fail
        refine (toInts AaPlan zPlan.length caPlan zPlan 0 _ (C.out.rd haPlan) (by omega)).mono ?_
        rintro _ w26 ⟨E26, f26, rfl, q26, b26⟩
        have C := Go.Lib.hid (C.out.push (OwnL.loc _ _ _ _ _) q26 b26)
        clear q26 b26
        obtain ⟨l27, t27, -, -, -, p27, u27⟩ := C.out.pick 4 rfl
        obtain ⟨l28, t28, -, -, -, p28, u28⟩ := C.out.pick 0 rfl
        have HE := Go.Lib.hid (eqInts_same E10 E26 zPlan.length f10 f26 zPlan _ _ _ _ _ p27.rd p28.rd (by omega))
        clear p27 u27 p28 u28
        go_wp2_with fail
        refine HE.out.mono ?_
        rintro _ _ ⟨rfl, x29, rfl⟩
        have C := Go.Lib.hid (C.out.drewN x29)
        clear HE
        generalize World.drewN _ x29 = w29 at C ⊢
        obtain ⟨l30, t30, -, -, -, p30, u30⟩ := C.out.pick 6 rfl
        have HM := Go.Lib.hid (markInts E8 zList.length f8 (1) _ l30 t30 _ p30 (by omega) (by omega))
        clear p30
        go_wp2_with fail
        refine HM.out.mono ?_
        rintro _ w31 ⟨rfl, q31, k31⟩
        have C := Go.Lib.hid (u30 _ _ (OwnL.loc _ _ _ _ _) q31 k31)
        clear q31 k31 HM u30
        try dsimp only [List.set] at C
        have hk31 : ¬ ((1 + zList.length : Nat) : Int) < 0 := by omega
        have hm31 : (((1 + zList.length : Nat) : Int) != ((1 + zList.length : Nat) : Int)) = false := by simp
        obtain ⟨l32, t32, -, -, -, p32, u32⟩ := C.out.pick 5 rfl
        have HM := Go.Lib.hid (markInts E9 zE.length f9 (1 + zList.length) _ l32 t32 _ p32 (by omega) (by omega))
        clear p32
        go_wp2_with fail
        refine HM.out.mono ?_
        rintro _ w33 ⟨rfl, q33, k33⟩
        have C := Go.Lib.hid (u32 _ _ (OwnL.loc _ _ _ _ _) q33 k33)
        clear q33 k33 HM u32
        try dsimp only [List.set] at C
        have hk33 : ¬ ((1 + zList.length + zE.length : Nat) : Int) < 0 := by omega
        have hm33 : (((1 + zList.length + zE.length : Nat) : Int) != ((1 + zList.length + zE.length : Nat) : Int)) = false := by simp
        obtain ⟨l34, t34, -, -, -, p34, u34⟩ := C.out.pick 4 rfl
        have HM := Go.Lib.hid (markInts E10 zPlan.length f10 (1 + zList.length + zE.length) _ l34 t34 _ p34 (by omega) (by omega))
        clear p34
        go_wp2_with fail
        refine HM.out.mono ?_
        rintro _ w35 ⟨rfl, q35, k35⟩
        have C := Go.Lib.hid (u34 _ _ (OwnL.loc _ _ _ _ _) q35 k35)
        clear q35 k35 HM u34
        try dsimp only [List.set] at C
        have hk35 : ¬ ((1 + zList.length + zE.length + zPlan.length : Nat) : Int) < 0 := by omega
        have hm35 : (((1 + zList.length + zE.length + zPlan.length : Nat) : Int) != ((1 + zList.length + zE.length + zPlan.length : Nat) : Int)) = false := by simp
        obtain ⟨l36, t36, -, -, -, p36, u36⟩ := C.out.pick 3 rfl
        obtain ⟨l37, t37, -, -, -, p37, u37⟩ := C.out.pick 7 rfl
        have HE := Go.Lib.hid (eqInts_same E14 E7 V0.length f14 f7 V0 _ _ _ _ _ p36.rd p37.rd (by omega))
        clear p36 u36 p37 u37
        go_wp2_with fail
        refine HE.out.mono ?_
        rintro _ _ ⟨rfl, x38, rfl⟩
        have C := Go.Lib.hid (C.out.drewN x38)
        clear HE
        generalize World.drewN _ x38 = w38 at C ⊢
        obtain ⟨l39, t39, -, -, -, p39, u39⟩ := C.out.pick 3 rfl
        have HM := Go.Lib.hid (markInts E14 V0.length f14 (1) _ l39 t39 _ p39 (by omega) (by omega))
        clear p39
        go_wp2_with fail
        refine HM.out.mono ?_
        rintro _ w40 ⟨rfl, q40, k40⟩
        have C := Go.Lib.hid (u39 _ _ (OwnL.loc _ _ _ _ _) q40 k40)
        clear q40 k40 HM u39
        try dsimp only [List.set] at C
        have hk40 : ¬ ((1 + V0.length : Nat) : Int) < 0 := by omega
        have hm40 : (((1 + V0.length : Nat) : Int) != ((1 + V0.length : Nat) : Int)) = false := by simp
        obtain ⟨l41, t41, -, -, -, p41, u41⟩ := C.out.pick 3 rfl
        have HH := Go.Lib.hid (heldInts E14 V0.length f14 (1) l41 t41 _ p41.rd (by omega) (by omega))
        clear p41 u41
        go_wp2_with fail
        refine HH.out.mono ?_
        rintro _ _ ⟨rfl, rfl⟩
        clear HH
        go_wp2_with fail
        refine (toInts AaList zList.length caList zList 0 _ (C.out.rd haList) (by omega)).mono ?_
        rintro _ w43 ⟨E43, f43, rfl, q43, b43⟩
        have C := Go.Lib.hid (C.out.push (OwnL.loc _ _ _ _ _) q43 b43)
        clear q43 b43
        go_wp2_with fail
        refine (toInts AaE zE.length caE zE 0 _ (C.out.rd haE) (by omega)).mono ?_
        rintro _ w44 ⟨E44, f44, rfl, q44, b44⟩
        have C := Go.Lib.hid (C.out.push (OwnL.loc _ _ _ _ _) q44 b44)
        clear q44 b44
        go_wp2_with fail
        refine (toInts AaPlan zPlan.length caPlan zPlan 0 _ (C.out.rd haPlan) (by omega)).mono ?_
        rintro _ w45 ⟨E45, f45, rfl, q45, b45⟩
        have C := Go.Lib.hid (C.out.push (OwnL.loc _ _ _ _ _) q45 b45)
        clear q45 b45
        obtain ⟨l46, t46, -, -, -, p46, u46⟩ := C.out.pick 2 rfl
        obtain ⟨l47, t47, -, -, -, p47, u47⟩ := C.out.pick 1 rfl
        obtain ⟨l48, t48, -, -, -, p48, u48⟩ := C.out.pick 0 rfl
        go_wp2_with fail
        refine (Himpl.out E43 f43 E44 f44 E45 f45 _ _ _ p46.rd p46.le _ _ p47.rd p47.le _ _ p48.rd p48.le).mono ?_
        rintro _ w49 ⟨E49, f49, rfl, q49, b49⟩
        have C := Go.Lib.hid (C.out.push (OwnL.loc _ _ _ _ _) q49 b49)
        clear q49 b49
        clear p46 u46 p47 u47 p48 u48
        obtain ⟨l50, t50, -, -, -, p50, u50⟩ := C.out.pick 0 rfl
        obtain ⟨l51, t51, -, -, -, p51, u51⟩ := C.out.pick 11 rfl
        have HE := Go.Lib.hid (eqInts_same E49 E7 V0.length f49 f7 V0 _ _ _ _ _ p50.rd p51.rd (by omega))
        clear p50 u50 p51 u51
        go_wp2_with fail
        refine HE.out.mono ?_
        rintro _ _ ⟨rfl, x52, rfl⟩
        have C := Go.Lib.hid (C.out.drewN x52)
        clear HE
        generalize World.drewN _ x52 = w52 at C ⊢
        obtain ⟨l53, t53, -, -, -, p53, u53⟩ := C.out.pick 7 rfl
        have HH := Go.Lib.hid (heldInts E14 V0.length f14 (1) l53 t53 _ p53.rd (by omega) (by omega))
        clear p53 u53
        go_wp2_with fail
        refine HH.out.mono ?_
        rintro _ _ ⟨rfl, rfl⟩
        clear HH
        go_wp2_with fail
        go_ret
        exact ⟨rfl, C.out.b⟩

set_option maxRecDepth 100000 in
theorem lifted (os : Os) (started : os.Started) (H : Type) (enc : TypeId × Value → H) :
    ReturnsInHanded {} Try.checked os 7 .any (Rows.fnExactAfterPlanSpec.pre6 enc Try.prog Try.f7 Rows.fnExactAfterPlanRow.domain false) (Rows.fnExactAfterPlanSpec.post enc Try.prog Try.f7 false true false false) := by
  refine returnsInHanded_of_change_sized (C := Try.checked) own started (by kernel_rfl) Try.func7
    (ChangeSpec.witness6 (enc := enc) (C := Try.checked) false ⟨#[], #[.slice none 0 0, .slice none 0 0, .slice none 0 0], []⟩ 8 (by kernel_rfl) (by kernel_rfl) (by kernel_rfl) (by kernel_rfl)) ?_
  intro W base args ds gs before hval0 hW hcnd hsz0 _
  have hsz : (DataW.weightsEach Try.prog (Try.f7.params.toList ++ Rows.fnExactAfterPlanSpec.plain.varTypes Try.prog) (ds ++ gs)).all (· ≤ reachBytes) = true := hsz0
  clear hsz0
  have hval : ∀ (j : Nat) t v, Try.f7.params[j]? = some t → args[j]? = some v → Value.okWide Try.prog W .any base t v := hval0
  clear hval0
  have hW' := hW
  obtain ⟨p, q, hA0, hV, rfl, hfz, hnd⟩ := hW
  have hA : DataW.TrodAll enc Try.prog W 0 (fun _ => true) true Try.f7.params.toList args.toList ds p := hA0
  rw [Try.params7] at hA hval hsz
  obtain ⟨v0, vs0, d0, ds0, p0, q0, hargs, rfl, rfl, h0, r0⟩ := trodAll_cons hA
  obtain ⟨v1, vs1, d1, ds1, p1, q1, rfl, rfl, rfl, h1, r1⟩ := trodAll_cons r0
  obtain ⟨v2, vs2, d2, ds2, p2, q2, rfl, rfl, rfl, h2, r2⟩ := trodAll_cons r1
  obtain ⟨rfl, rfl, rfl⟩ := trodAll_nil r2
  obtain rfl : args = #[v0, v1, v2] := by cases args; simp_all
  obtain ⟨rfl, rfl⟩ := trodVars_none hV
  obtain ⟨a0, len0, cap0, rfl⟩ := okWide_slice Try.underlying24 (hval 0 24 v0 rfl rfl)
  have k0 := h0
  have lt0 : ∀ x ∈ p0, x.block < W.heap.size := by obtain ⟨m, hm⟩ := k0; exact DataW.trod_lt m _ _ _ hm
  obtain ⟨⟨z0, rd0⟩, hlc0, hp0⟩ := open_list_ints h0
  have reach0 : len0 * 8 ≤ 140737488351232 := by
    rcases hp0 with hp0 | ⟨E0, S0, rfl, hl0⟩
    · omega
    · have := sized_slice hsz (j := 0) (t := 24) (e := 2) rfl rfl Try.underlying24
      rw [show Try.prog.bytesOf 2 = 8 by kernel_rfl] at this
      simp only [reachBytes] at this
      omega
  obtain ⟨a1, len1, cap1, rfl⟩ := okWide_slice Try.underlying24 (hval 1 24 v1 rfl rfl)
  have k1 := h1
  have lt1 : ∀ x ∈ p1, x.block < W.heap.size := by obtain ⟨m, hm⟩ := k1; exact DataW.trod_lt m _ _ _ hm
  obtain ⟨⟨z1, rd1⟩, hlc1, hp1⟩ := open_list_ints h1
  have reach1 : len1 * 8 ≤ 140737488351232 := by
    rcases hp1 with hp1 | ⟨E1, S1, rfl, hl1⟩
    · omega
    · have := sized_slice hsz (j := 1) (t := 24) (e := 2) rfl rfl Try.underlying24
      rw [show Try.prog.bytesOf 2 = 8 by kernel_rfl] at this
      simp only [reachBytes] at this
      omega
  obtain ⟨a2, len2, cap2, rfl⟩ := okWide_slice Try.underlying24 (hval 2 24 v2 rfl rfl)
  have k2 := h2
  have lt2 : ∀ x ∈ p2, x.block < W.heap.size := by obtain ⟨m, hm⟩ := k2; exact DataW.trod_lt m _ _ _ hm
  obtain ⟨⟨z2, rd2⟩, hlc2, hp2⟩ := open_list_ints h2
  have reach2 : len2 * 8 ≤ 140737488351232 := by
    rcases hp2 with hp2 | ⟨E2, S2, rfl, hl2⟩
    · omega
    · have := sized_slice hsz (j := 2) (t := 24) (e := 2) rfl rfl Try.underlying24
      rw [show Try.prog.bytesOf 2 = 8 by kernel_rfl] at this
      simp only [reachBytes] at this
      omega
  clear hA0
  refine (walk a0 len0 cap0 z0 a1 len1 cap1 z1 a2 len2 cap2 z2 W rd0 reach0 rd1 reach1 rd2 reach2).mono fun e W' ⟨he, bel⟩ => ?_
  subst he
  exact ⟨_, rfl, _, _, _, [], _, [], hW', trodAll_mk1 (shut_bool Try.underlying4 _), (trodAll_cons_mk (Below.trod laidOut (by kernel_rfl) (of_decide_eq_true (by kernel_rfl)) k0 bel lt0) (trodAll_cons_mk (Below.trod laidOut (by kernel_rfl) (of_decide_eq_true (by kernel_rfl)) k1 bel lt1) (trodAll_cons_mk (Below.trod laidOut (by kernel_rfl) (of_decide_eq_true (by kernel_rfl)) k2 bel lt2) trodAll_mk0))), rfl, bel.frame _, fun h => by cases h⟩

theorem over : Rows.fnExactAfterPlanRow.holds Try.pinned (OpenSpec.ofChange Rows.fnExactAfterPlanSpec) :=
  OpenClaim.holds_of_wide 7 Try.f7 rfl rfl rfl rfl rfl rfl rfl ⟨rfl, rfl, rfl, rfl, rfl⟩ rfl rfl rfl rfl rfl (by kernel_rfl) Try.func7 (by kernel_rfl)
    (of_decide_eq_true (by kernel_rfl)) (by unfold Func.isWrapper; first | (rw [if_pos (by decide +kernel)]; kernel_rfl) | (rw [if_neg (by decide +kernel)]; exact ⟨rfl, rfl⟩))
    (fun os started H enc _ => lifted os started H enc)

theorem proved : Rows.FnExactAfterPlanSaid := over
end Go.Proofs.Ytpcaakmcjdginaa.fnExactAfterPlan
