/- LeastPlan of the program answers as the model does, at every argument. -/
import Derived.Test.YtpcaakmcjdginaaRows
import Derived.Test.YtpcaakmcjdginaaTruX
import Derived.Test.YtpcaakmcjdginaaInts
import Derived.Test.YtpcaakmcjdginaaOpen
import Derived.Test.YtpcaakmcjdginaaOpenI
import Derived.WalkKit
import Derived.ProofKit
import Derived.OpenShut
import Derived.ShutString
import Derived.SizedLaws
namespace Go.Proofs.Ytpcaakmcjdginaa.fnExactLeastPlan
open Go.ChangeShapes Go.WideShapes Go.ChangeAt Go.RowKit
open Go.ChangeMaps (open_string shut_string)
set_option linter.unusedVariables false

set_option maxRecDepth 100000 in
set_option maxHeartbeats 16000000 in
theorem walk (AaList : Option Addr) (naList caList : Nat) (zList : List Int) (AaE : Option Addr) (naE caE : Nat) (zE : List Int) (aTolerance : Int) (w : World) (haList : Rd w 0 w.heap.size AaList naList (ints zList)) (_hnaList : naList * 8 ≤ 140737488351232) (haE : Rd w 0 w.heap.size AaE naE (ints zE)) (_hnaE : naE * 8 ≤ 140737488351232) (_waTolerance : (Lit.int .i64 aTolerance).wf = true) :
    Calls Try.prog 12 #[.slice AaList naList caList, .slice AaE naE caE, .int .i64 aTolerance] w fun e w' => e = .returned (.bool true) ∧ Below w.heap.size w w' := by
  obtain rfl : zList.length = naList := by have := haList.len; rwa [ints_len] at this
  obtain rfl : zE.length = naE := by have := haE.len; rwa [ints_len] at this
  clear _waTolerance
  by_cases hbaList : (1048576 : Int) < zList.length
  · go_enter Try.func12, Try.ntmps12
    go_wp2_with fail
    go_ret
    exact ⟨rfl, Below.refl _ _⟩
  · skip
    have hzzList : zList.length ≤ 1048576 := by omega
    by_cases hbaE : (1048576 : Int) < zE.length
    · go_enter Try.func12, Try.ntmps12
      go_wp2_with fail
      go_ret
      exact ⟨rfl, Below.refl _ _⟩
    · skip
      have hzzE : zE.length ≤ 1048576 := by omega
      obtain ⟨V0, V1, hv⟩ : ∃ V0 V1, leastR zList zE aTolerance = (V0, V1) := ⟨_, _, rfl⟩
      have Hspec := Go.Lib.hid (fun (BaList : Option Addr) (daList : Nat) (BaE : Option Addr) (daE : Nat) (w0 : World) (loaList hiaList : Nat) (h0aList : Rd w0 loaList hiaList BaList zList.length (ints zList)) (hcaList : zList.length ≤ daList) (loaE hiaE : Nat) (h0aE : Rd w0 loaE hiaE BaE zE.length (ints zE)) (hcaE : zE.length ≤ daE) => xsLeastPlan BaList daList zList BaE daE zE aTolerance w0 loaList hiaList h0aList hzzList hcaList loaE hiaE h0aE hzzE hcaE)
      have Himpl := Go.Lib.hid (fun (BaList : Option Addr) (daList : Nat) (BaE : Option Addr) (daE : Nat) (w0 : World) (loaList hiaList : Nat) (h0aList : Rd w0 loaList hiaList BaList zList.length (ints zList)) (hcaList : zList.length ≤ daList) (loaE hiaE : Nat) (h0aE : Rd w0 loaE hiaE BaE zE.length (ints zE)) (hcaE : zE.length ≤ daE) => xiLeastPlan BaList daList zList BaE daE zE aTolerance w0 loaList hiaList h0aList hzzList hcaList loaE hiaE h0aE hzzE hcaE)
      have hlen : V0.length ≤ 1048576 := by
        have hx := leastR_len zList zE aTolerance
        rw [hv] at hx
        exact hx
      rw [hv] at Hspec Himpl
      try dsimp only [pairI] at Hspec Himpl
      clear hv
      have hne1 : (V1 != V1) = false := by simp
      have C := Go.Lib.hid (Ctx.start w)
      go_enter Try.func12, Try.ntmps12
      go_wp2_with fail
      refine (toInts AaList zList.length caList zList 0 _ (C.out.rd haList) (by omega)).mono ?_
      rintro _ w1 ⟨E1, f1, rfl, q1, b1⟩
      have C := Go.Lib.hid (C.out.push (OwnL.loc _ _ _ _ _) q1 b1)
      clear q1 b1
      go_wp2_with fail
      refine (toInts AaE zE.length caE zE 0 _ (C.out.rd haE) (by omega)).mono ?_
      rintro _ w2 ⟨E2, f2, rfl, q2, b2⟩
      have C := Go.Lib.hid (C.out.push (OwnL.loc _ _ _ _ _) q2 b2)
      clear q2 b2
      obtain ⟨l3, t3, -, -, -, p3, u3⟩ := C.out.pick 1 rfl
      obtain ⟨l4, t4, -, -, -, p4, u4⟩ := C.out.pick 0 rfl
      go_wp2_with fail
      refine (Hspec.out E1 f1 E2 f2 _ _ _ p3.rd p3.le _ _ p4.rd p4.le).mono ?_
      rintro _ w5 ⟨E5, f5, rfl, q5, b5⟩
      have C := Go.Lib.hid (C.out.push (OwnL.loc _ _ _ _ _) q5 b5)
      clear q5 b5
      clear p3 u3 p4 u4
      go_wp2_with fail
      refine (toInts AaList zList.length caList zList 0 _ (C.out.rd haList) (by omega)).mono ?_
      rintro _ w6 ⟨E6, f6, rfl, q6, b6⟩
      have C := Go.Lib.hid (C.out.push (OwnL.loc _ _ _ _ _) q6 b6)
      clear q6 b6
      go_wp2_with fail
      refine (toInts AaE zE.length caE zE 0 _ (C.out.rd haE) (by omega)).mono ?_
      rintro _ w7 ⟨E7, f7, rfl, q7, b7⟩
      have C := Go.Lib.hid (C.out.push (OwnL.loc _ _ _ _ _) q7 b7)
      clear q7 b7
      obtain ⟨l8, t8, -, -, -, p8, u8⟩ := C.out.pick 1 rfl
      obtain ⟨l9, t9, -, -, -, p9, u9⟩ := C.out.pick 0 rfl
      go_wp2_with fail
      refine (Himpl.out E6 f6 E7 f7 _ _ _ p8.rd p8.le _ _ p9.rd p9.le).mono ?_
      rintro _ w10 ⟨E10, f10, rfl, q10, b10⟩
      have C := Go.Lib.hid (C.out.push (OwnL.loc _ _ _ _ _) q10 b10)
      clear q10 b10
      clear p8 u8 p9 u9
      obtain ⟨l11, t11, -, -, -, p11, u11⟩ := C.out.pick 0 rfl
      obtain ⟨l12, t12, -, -, -, p12, u12⟩ := C.out.pick 3 rfl
      have HE := Go.Lib.hid (eqInts_same E10 E5 V0.length f10 f5 V0 _ _ _ _ _ p11.rd p12.rd (by omega))
      clear p11 u11 p12 u12
      go_wp2_with fail
      refine HE.out.mono ?_
      rintro _ _ ⟨rfl, x13, rfl⟩
      have C := Go.Lib.hid (C.out.drewN x13)
      clear HE
      generalize World.drewN _ x13 = w13 at C ⊢
      go_wp2_with fail
      refine (toInts AaList zList.length caList zList 0 _ (C.out.rd haList) (by omega)).mono ?_
      rintro _ w14 ⟨E14, f14, rfl, q14, b14⟩
      have C := Go.Lib.hid (C.out.push (OwnL.loc _ _ _ _ _) q14 b14)
      clear q14 b14
      obtain ⟨l15, t15, -, -, -, p15, u15⟩ := C.out.pick 3 rfl
      obtain ⟨l16, t16, -, -, -, p16, u16⟩ := C.out.pick 0 rfl
      have HE := Go.Lib.hid (eqInts_same E6 E14 zList.length f6 f14 zList _ _ _ _ _ p15.rd p16.rd (by omega))
      clear p15 u15 p16 u16
      go_wp2_with fail
      refine HE.out.mono ?_
      rintro _ _ ⟨rfl, x17, rfl⟩
      have C := Go.Lib.hid (C.out.drewN x17)
      clear HE
      generalize World.drewN _ x17 = w17 at C ⊢
      go_wp2_with fail
      refine (toInts AaE zE.length caE zE 0 _ (C.out.rd haE) (by omega)).mono ?_
      rintro _ w18 ⟨E18, f18, rfl, q18, b18⟩
      have C := Go.Lib.hid (C.out.push (OwnL.loc _ _ _ _ _) q18 b18)
      clear q18 b18
      obtain ⟨l19, t19, -, -, -, p19, u19⟩ := C.out.pick 3 rfl
      obtain ⟨l20, t20, -, -, -, p20, u20⟩ := C.out.pick 0 rfl
      have HE := Go.Lib.hid (eqInts_same E7 E18 zE.length f7 f18 zE _ _ _ _ _ p19.rd p20.rd (by omega))
      clear p19 u19 p20 u20
      go_wp2_with fail
      refine HE.out.mono ?_
      rintro _ _ ⟨rfl, x21, rfl⟩
      have C := Go.Lib.hid (C.out.drewN x21)
      clear HE
      generalize World.drewN _ x21 = w21 at C ⊢
      obtain ⟨l22, t22, -, -, -, p22, u22⟩ := C.out.pick 4 rfl
      have HM := Go.Lib.hid (markInts E6 zList.length f6 (1) _ l22 t22 _ p22 (by omega) (by omega))
      clear p22
      go_wp2_with fail
      refine HM.out.mono ?_
      rintro _ w23 ⟨rfl, q23, k23⟩
      have C := Go.Lib.hid (u22 _ _ (OwnL.loc _ _ _ _ _) q23 k23)
      clear q23 k23 HM u22
      try dsimp only [List.set] at C
      have hk23 : ¬ ((1 + zList.length : Nat) : Int) < 0 := by omega
      have hm23 : (((1 + zList.length : Nat) : Int) != ((1 + zList.length : Nat) : Int)) = false := by simp
      obtain ⟨l24, t24, -, -, -, p24, u24⟩ := C.out.pick 3 rfl
      have HM := Go.Lib.hid (markInts E7 zE.length f7 (1 + zList.length) _ l24 t24 _ p24 (by omega) (by omega))
      clear p24
      go_wp2_with fail
      refine HM.out.mono ?_
      rintro _ w25 ⟨rfl, q25, k25⟩
      have C := Go.Lib.hid (u24 _ _ (OwnL.loc _ _ _ _ _) q25 k25)
      clear q25 k25 HM u24
      try dsimp only [List.set] at C
      have hk25 : ¬ ((1 + zList.length + zE.length : Nat) : Int) < 0 := by omega
      have hm25 : (((1 + zList.length + zE.length : Nat) : Int) != ((1 + zList.length + zE.length : Nat) : Int)) = false := by simp
      obtain ⟨l26, t26, -, -, -, p26, u26⟩ := C.out.pick 2 rfl
      obtain ⟨l27, t27, -, -, -, p27, u27⟩ := C.out.pick 5 rfl
      have HE := Go.Lib.hid (eqInts_same E10 E5 V0.length f10 f5 V0 _ _ _ _ _ p26.rd p27.rd (by omega))
      clear p26 u26 p27 u27
      go_wp2_with fail
      refine HE.out.mono ?_
      rintro _ _ ⟨rfl, x28, rfl⟩
      have C := Go.Lib.hid (C.out.drewN x28)
      clear HE
      generalize World.drewN _ x28 = w28 at C ⊢
      obtain ⟨l29, t29, -, -, -, p29, u29⟩ := C.out.pick 2 rfl
      have HM := Go.Lib.hid (markInts E10 V0.length f10 (1) _ l29 t29 _ p29 (by omega) (by omega))
      clear p29
      go_wp2_with fail
      refine HM.out.mono ?_
      rintro _ w30 ⟨rfl, q30, k30⟩
      have C := Go.Lib.hid (u29 _ _ (OwnL.loc _ _ _ _ _) q30 k30)
      clear q30 k30 HM u29
      try dsimp only [List.set] at C
      have hk30 : ¬ ((1 + V0.length : Nat) : Int) < 0 := by omega
      have hm30 : (((1 + V0.length : Nat) : Int) != ((1 + V0.length : Nat) : Int)) = false := by simp
      obtain ⟨l31, t31, -, -, -, p31, u31⟩ := C.out.pick 2 rfl
      have HH := Go.Lib.hid (heldInts E10 V0.length f10 (1) l31 t31 _ p31.rd (by omega) (by omega))
      clear p31 u31
      go_wp2_with fail
      refine HH.out.mono ?_
      rintro _ _ ⟨rfl, rfl⟩
      clear HH
      go_wp2_with fail
      refine (toInts AaList zList.length caList zList 0 _ (C.out.rd haList) (by omega)).mono ?_
      rintro _ w33 ⟨E33, f33, rfl, q33, b33⟩
      have C := Go.Lib.hid (C.out.push (OwnL.loc _ _ _ _ _) q33 b33)
      clear q33 b33
      go_wp2_with fail
      refine (toInts AaE zE.length caE zE 0 _ (C.out.rd haE) (by omega)).mono ?_
      rintro _ w34 ⟨E34, f34, rfl, q34, b34⟩
      have C := Go.Lib.hid (C.out.push (OwnL.loc _ _ _ _ _) q34 b34)
      clear q34 b34
      obtain ⟨l35, t35, -, -, -, p35, u35⟩ := C.out.pick 1 rfl
      obtain ⟨l36, t36, -, -, -, p36, u36⟩ := C.out.pick 0 rfl
      go_wp2_with fail
      refine (Himpl.out E33 f33 E34 f34 _ _ _ p35.rd p35.le _ _ p36.rd p36.le).mono ?_
      rintro _ w37 ⟨E37, f37, rfl, q37, b37⟩
      have C := Go.Lib.hid (C.out.push (OwnL.loc _ _ _ _ _) q37 b37)
      clear q37 b37
      clear p35 u35 p36 u36
      obtain ⟨l38, t38, -, -, -, p38, u38⟩ := C.out.pick 0 rfl
      obtain ⟨l39, t39, -, -, -, p39, u39⟩ := C.out.pick 8 rfl
      have HE := Go.Lib.hid (eqInts_same E37 E5 V0.length f37 f5 V0 _ _ _ _ _ p38.rd p39.rd (by omega))
      clear p38 u38 p39 u39
      go_wp2_with fail
      refine HE.out.mono ?_
      rintro _ _ ⟨rfl, x40, rfl⟩
      have C := Go.Lib.hid (C.out.drewN x40)
      clear HE
      generalize World.drewN _ x40 = w40 at C ⊢
      obtain ⟨l41, t41, -, -, -, p41, u41⟩ := C.out.pick 5 rfl
      have HH := Go.Lib.hid (heldInts E10 V0.length f10 (1) l41 t41 _ p41.rd (by omega) (by omega))
      clear p41 u41
      go_wp2_with fail
      refine HH.out.mono ?_
      rintro _ _ ⟨rfl, rfl⟩
      clear HH
      go_wp2_with fail
      go_ret
      exact ⟨rfl, C.out.b⟩

set_option maxRecDepth 100000 in
theorem lifted (os : Os) (started : os.Started) (H : Type) (enc : TypeId × Value → H) :
    ReturnsInHanded {} Try.checked os 12 .any (Rows.fnExactLeastPlanSpec.pre6 enc Try.prog Try.f12 Rows.fnExactLeastPlanRow.domain false) (Rows.fnExactLeastPlanSpec.post enc Try.prog Try.f12 false true false false) := by
  refine returnsInHanded_of_change_sized (C := Try.checked) own started (by kernel_rfl) Try.func12
    (ChangeSpec.witness6 (enc := enc) (C := Try.checked) false ⟨#[], #[.slice none 0 0, .slice none 0 0, .int .i64 0], []⟩ 8 (by kernel_rfl) (by kernel_rfl) (by kernel_rfl) (by kernel_rfl)) ?_
  intro W base args ds gs before hval0 hW hcnd hsz0 _
  have hsz : (DataW.weightsEach Try.prog (Try.f12.params.toList ++ Rows.fnExactLeastPlanSpec.plain.varTypes Try.prog) (ds ++ gs)).all (· ≤ reachBytes) = true := hsz0
  clear hsz0
  have hval : ∀ (j : Nat) t v, Try.f12.params[j]? = some t → args[j]? = some v → Value.okWide Try.prog W .any base t v := hval0
  clear hval0
  have hW' := hW
  obtain ⟨p, q, hA0, hV, rfl, hfz, hnd⟩ := hW
  have hA : DataW.TrodAll enc Try.prog W 0 (fun _ => true) true Try.f12.params.toList args.toList ds p := hA0
  rw [Try.params12] at hA hval hsz
  obtain ⟨v0, vs0, d0, ds0, p0, q0, hargs, rfl, rfl, h0, r0⟩ := trodAll_cons hA
  obtain ⟨v1, vs1, d1, ds1, p1, q1, rfl, rfl, rfl, h1, r1⟩ := trodAll_cons r0
  obtain ⟨v2, vs2, d2, ds2, p2, q2, rfl, rfl, rfl, h2, r2⟩ := trodAll_cons r1
  obtain ⟨rfl, rfl, rfl⟩ := trodAll_nil r2
  obtain rfl : args = #[v0, v1, v2] := by cases args; simp_all
  obtain ⟨rfl, rfl⟩ := trodVars_none hV
  obtain ⟨a0, len0, cap0, rfl⟩ := okWide_slice Try.underlying24 (hval 0 24 v0 rfl rfl)
  have k0 := h0
  have lt0 : ∀ x ∈ p0, x.block < W.heap.size := by obtain ⟨m, hm⟩ := k0; exact DataW.trod_lt m _ _ _ hm
  obtain ⟨⟨z0, rd0⟩, hlc0, hp0⟩ := open_list_ints h0
  have reach0 : len0 * 8 ≤ 140737488351232 := by
    rcases hp0 with hp0 | ⟨E0, S0, rfl, hl0⟩
    · omega
    · have := sized_slice hsz (j := 0) (t := 24) (e := 2) rfl rfl Try.underlying24
      rw [show Try.prog.bytesOf 2 = 8 by kernel_rfl] at this
      simp only [reachBytes] at this
      omega
  obtain ⟨a1, len1, cap1, rfl⟩ := okWide_slice Try.underlying24 (hval 1 24 v1 rfl rfl)
  have k1 := h1
  have lt1 : ∀ x ∈ p1, x.block < W.heap.size := by obtain ⟨m, hm⟩ := k1; exact DataW.trod_lt m _ _ _ hm
  obtain ⟨⟨z1, rd1⟩, hlc1, hp1⟩ := open_list_ints h1
  have reach1 : len1 * 8 ≤ 140737488351232 := by
    rcases hp1 with hp1 | ⟨E1, S1, rfl, hl1⟩
    · omega
    · have := sized_slice hsz (j := 1) (t := 24) (e := 2) rfl rfl Try.underlying24
      rw [show Try.prog.bytesOf 2 = 8 by kernel_rfl] at this
      simp only [reachBytes] at this
      omega
  obtain ⟨a2, rfl, rfl, rfl, w2⟩ := open_int Try.underlying2 (hval 2 2 v2 rfl rfl) h2
  clear hA0
  refine (walk a0 len0 cap0 z0 a1 len1 cap1 z1 a2 W rd0 reach0 rd1 reach1 w2).mono fun e W' ⟨he, bel⟩ => ?_
  subst he
  exact ⟨_, rfl, _, _, _, [], _, [], hW', trodAll_mk1 (shut_bool Try.underlying4 _), (trodAll_cons_mk (Below.trod laidOut (by kernel_rfl) (of_decide_eq_true (by kernel_rfl)) k0 bel lt0) (trodAll_cons_mk (Below.trod laidOut (by kernel_rfl) (of_decide_eq_true (by kernel_rfl)) k1 bel lt1) (trodAll_cons_mk (shut_int Try.underlying2 w2) trodAll_mk0))), rfl, bel.frame _, fun h => by cases h⟩

theorem over : Rows.fnExactLeastPlanRow.holds Try.pinned (OpenSpec.ofChange Rows.fnExactLeastPlanSpec) :=
  OpenClaim.holds_of_wide 12 Try.f12 rfl rfl rfl rfl rfl rfl rfl ⟨rfl, rfl, rfl, rfl, rfl⟩ rfl rfl rfl rfl rfl (by kernel_rfl) Try.func12 (by kernel_rfl)
    (of_decide_eq_true (by kernel_rfl)) (by unfold Func.isWrapper; first | (rw [if_pos (by decide +kernel)]; kernel_rfl) | (rw [if_neg (by decide +kernel)]; exact ⟨rfl, rfl⟩))
    (fun os started H enc _ => lifted os started H enc)

theorem proved : Rows.FnExactLeastPlanSaid := over
end Go.Proofs.Ytpcaakmcjdginaa.fnExactLeastPlan
