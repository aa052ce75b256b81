/- UsualLacing -/
import Derived.Test.YtlmbcidijbohiaaRows
import Derived.Test.YtlmbcidijbohiaaLacX
import Derived.Test.YtlmbcidijbohiaaInts
import Derived.Test.YtlmbcidijbohiaaOpen
import Derived.Test.YtlmbcidijbohiaaOpenI
import Derived.WalkKit
import Derived.ProofKit
import Derived.OpenShut
import Derived.ShutString
import Derived.SizedLaws
namespace Go.Proofs.Ytlmbcidijbohiaa.fnExactUsualLacing
open Go.ChangeShapes Go.WideShapes Go.ChangeAt Go.RowKit
open Go.ChangeMaps (open_string shut_string)
set_option linter.unusedVariables false

set_option maxRecDepth 100000 in
set_option maxHeartbeats 16000000 in
theorem walk (aN : Int) (aCrosses : Int) (w : World) (_waN : (Lit.int .i64 aN).wf = true) (_waCrosses : (Lit.int .i64 aCrosses).wf = true) :
    Calls Try.prog 7 #[.int .i64 aN, .int .i64 aCrosses] w fun e w' => e = .returned (.bool true) ∧ Below w.heap.size w w' := by
  clear _waN
  clear _waCrosses
  obtain ⟨V0, V1, hv⟩ : ∃ V0 V1, usualR aN aCrosses = (V0, V1) := ⟨_, _, rfl⟩
  have Hspec := Go.Lib.hid (fun (w0 : World) => xsUsualLacing aN aCrosses w0 )
  have Himpl := Go.Lib.hid (fun (w0 : World) => xiUsualLacing aN aCrosses w0 )
  have hlen : V0.length ≤ 1048576 := by
    have hx := usualR_few aN aCrosses
    rw [hv] at hx
    exact hx
  rw [hv] at Hspec Himpl
  try dsimp only [pairI] at Hspec Himpl
  clear hv
  have hne1 : (V1 != V1) = false := by simp
  have C := Go.Lib.hid (Ctx.start w)
  go_enter Try.func7, Try.ntmps7
  go_wp2_with fail
  refine (Hspec.out _).mono ?_
  rintro _ w1 ⟨E1, f1, rfl, q1, b1⟩
  have C := Go.Lib.hid (C.out.push (OwnL.loc _ _ _ _ _) q1 b1)
  clear q1 b1
  go_wp2_with fail
  refine (Himpl.out _).mono ?_
  rintro _ w2 ⟨E2, f2, rfl, q2, b2⟩
  have C := Go.Lib.hid (C.out.push (OwnL.loc _ _ _ _ _) q2 b2)
  clear q2 b2
  obtain ⟨l3, t3, -, -, -, p3, u3⟩ := C.out.pick 0 rfl
  obtain ⟨l4, t4, -, -, -, p4, u4⟩ := C.out.pick 1 rfl
  have HE := Go.Lib.hid (eqInts_same E2 E1 V0.length f2 f1 V0 _ _ _ _ _ p3.rd p4.rd (by omega))
  clear p3 u3 p4 u4
  go_wp2_with fail
  refine HE.out.mono ?_
  rintro _ _ ⟨rfl, x5, rfl⟩
  have C := Go.Lib.hid (C.out.drewN x5)
  clear HE
  generalize World.drewN _ x5 = w5 at C ⊢
  obtain ⟨l6, t6, -, -, -, p6, u6⟩ := C.out.pick 0 rfl
  have HM := Go.Lib.hid (markInts E2 V0.length f2 (1) _ l6 t6 _ p6 (by omega) (by omega))
  clear p6
  go_wp2_with fail
  refine HM.out.mono ?_
  rintro _ w7 ⟨rfl, q7, k7⟩
  have C := Go.Lib.hid (u6 _ _ (OwnL.loc _ _ _ _ _) q7 k7)
  clear q7 k7 HM u6
  try dsimp only [List.set] at C
  have hk7 : ¬ ((1 + V0.length : Nat) : Int) < 0 := by omega
  have hm7 : (((1 + V0.length : Nat) : Int) != ((1 + V0.length : Nat) : Int)) = false := by simp
  obtain ⟨l8, t8, -, -, -, p8, u8⟩ := C.out.pick 0 rfl
  have HH := Go.Lib.hid (heldInts E2 V0.length f2 (1) l8 t8 _ p8.rd (by omega) (by omega))
  clear p8 u8
  go_wp2_with fail
  refine HH.out.mono ?_
  rintro _ _ ⟨rfl, rfl⟩
  clear HH
  go_wp2_with fail
  refine (Himpl.out _).mono ?_
  rintro _ w10 ⟨E10, f10, rfl, q10, b10⟩
  have C := Go.Lib.hid (C.out.push (OwnL.loc _ _ _ _ _) q10 b10)
  clear q10 b10
  obtain ⟨l11, t11, -, -, -, p11, u11⟩ := C.out.pick 0 rfl
  obtain ⟨l12, t12, -, -, -, p12, u12⟩ := C.out.pick 2 rfl
  have HE := Go.Lib.hid (eqInts_same E10 E1 V0.length f10 f1 V0 _ _ _ _ _ p11.rd p12.rd (by omega))
  clear p11 u11 p12 u12
  go_wp2_with fail
  refine HE.out.mono ?_
  rintro _ _ ⟨rfl, x13, rfl⟩
  have C := Go.Lib.hid (C.out.drewN x13)
  clear HE
  generalize World.drewN _ x13 = w13 at C ⊢
  obtain ⟨l14, t14, -, -, -, p14, u14⟩ := C.out.pick 1 rfl
  have HH := Go.Lib.hid (heldInts E2 V0.length f2 (1) l14 t14 _ p14.rd (by omega) (by omega))
  clear p14 u14
  go_wp2_with fail
  refine HH.out.mono ?_
  rintro _ _ ⟨rfl, rfl⟩
  clear HH
  go_wp2_with fail
  go_ret
  exact ⟨rfl, C.out.b⟩

set_option maxRecDepth 100000 in
theorem lifted (os : Os) (started : os.Started) (H : Type) (enc : TypeId × Value → H) :
    ReturnsInHanded {} Try.checked os 7 .any (Rows.fnExactUsualLacingSpec.pre6 enc Try.prog Try.f7 Rows.fnExactUsualLacingRow.domain false) (Rows.fnExactUsualLacingSpec.post enc Try.prog Try.f7 false true false false) := by
  refine returnsInHanded_of_change_sized (C := Try.checked) own started (by kernel_rfl) Try.func7
    (ChangeSpec.witness6 (enc := enc) (C := Try.checked) false ⟨#[], #[.int .i64 0, .int .i64 0], []⟩ 8 (by kernel_rfl) (by kernel_rfl) (by kernel_rfl) (by kernel_rfl)) ?_
  intro W base args ds gs before hval0 hW hcnd hsz0 _
  have hsz : (DataW.weightsEach Try.prog (Try.f7.params.toList ++ Rows.fnExactUsualLacingSpec.plain.varTypes Try.prog) (ds ++ gs)).all (· ≤ reachBytes) = true := hsz0
  clear hsz0
  have hval : ∀ (j : Nat) t v, Try.f7.params[j]? = some t → args[j]? = some v → Value.okWide Try.prog W .any base t v := hval0
  clear hval0
  have hW' := hW
  obtain ⟨p, q, hA0, hV, rfl, hfz, hnd⟩ := hW
  have hA : DataW.TrodAll enc Try.prog W 0 (fun _ => true) true Try.f7.params.toList args.toList ds p := hA0
  rw [Try.params7] at hA hval hsz
  obtain ⟨v0, vs0, d0, ds0, p0, q0, hargs, rfl, rfl, h0, r0⟩ := trodAll_cons hA
  obtain ⟨v1, vs1, d1, ds1, p1, q1, rfl, rfl, rfl, h1, r1⟩ := trodAll_cons r0
  obtain ⟨rfl, rfl, rfl⟩ := trodAll_nil r1
  obtain rfl : args = #[v0, v1] := by cases args; simp_all
  obtain ⟨rfl, rfl⟩ := trodVars_none hV
  obtain ⟨a0, rfl, rfl, rfl, w0⟩ := open_int Try.underlying2 (hval 0 2 v0 rfl rfl) h0
  obtain ⟨a1, rfl, rfl, rfl, w1⟩ := open_int Try.underlying2 (hval 1 2 v1 rfl rfl) h1
  clear hA0
  refine (walk a0 a1 W w0 w1).mono fun e W' ⟨he, bel⟩ => ?_
  subst he
  exact ⟨_, rfl, _, _, _, [], _, [], hW', trodAll_mk1 (shut_bool Try.underlying4 _), (trodAll_cons_mk (shut_int Try.underlying2 w0) (trodAll_cons_mk (shut_int Try.underlying2 w1) trodAll_mk0)), rfl, bel.frame _, fun h => by cases h⟩

theorem over : Rows.fnExactUsualLacingRow.holds Try.pinned (OpenSpec.ofChange Rows.fnExactUsualLacingSpec) :=
  OpenClaim.holds_of_wide 7 Try.f7 rfl rfl rfl rfl rfl rfl rfl ⟨rfl, rfl, rfl, rfl, rfl⟩ rfl rfl rfl rfl rfl (by kernel_rfl) Try.func7 (by kernel_rfl)
    (of_decide_eq_true (by kernel_rfl)) (by unfold Func.isWrapper; first | (rw [if_pos (by decide +kernel)]; kernel_rfl) | (rw [if_neg (by decide +kernel)]; exact ⟨rfl, rfl⟩))
    (fun os started H enc _ => lifted os started H enc)

theorem proved : Rows.FnExactUsualLacingSaid := over
end Go.Proofs.Ytlmbcidijbohiaa.fnExactUsualLacing
