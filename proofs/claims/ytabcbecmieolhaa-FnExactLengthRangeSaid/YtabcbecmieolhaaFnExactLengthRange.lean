/- FnExactLengthRange holds: at every wheel, side and tolerance impl.LengthRange answers as spec.LengthRange. -/
import Derived.Test.YtabcbecmieolhaaRows
import Derived.Test.YtabcbecmieolhaaSpokeImpl
import Derived.Test.YtabcbecmieolhaaLawHub
import Derived.Test.YtabcbecmieolhaaLawHub2
import Derived.Test.YtabcbecmieolhaaBox
import Derived.Test.YtabcbecmieolhaaLawSpoke
import Derived.WalkKit
import Derived.ProofKit
import Derived.OpenShut
import Derived.ShutString
import Derived.SizedLaws
namespace Go.Proofs.Ytabcbecmieolhaa.fnExactLengthRange
open Go.ChangeShapes Go.WideShapes Go.ChangeAt Go.RowKit
open Go.ChangeMaps (open_string shut_string)
set_option linter.unusedVariables false

set_option maxRecDepth 100000 in
set_option maxHeartbeats 8000000 in
theorem walk (a : Wh) (b : Bool) (c : Int) (w : World) (_h : wheelW a) (_hc : (Lit.int .i64 c).wf = true) :
    Calls Try.prog 9 #[wheelV a, .bool b, .int .i64 c] w fun e w' => e = .returned (.bool true) ∧ Below w.heap.size w w' := by
  have HT := Go.Lib.hid (fun w0 => law_toWheel a w0)
  have HS := Go.Lib.hid (fun w0 => specLengthRange a b c w0)
  have HI := Go.Lib.hid (fun w0 => implLengthRange a b c w0)
  generalize rngA a b c = p at HS HI
  obtain ⟨⟨lo, hi⟩, e⟩ := p
  have HE := Go.Lib.hid (fun w0 => law_eqIvP (lo, hi) w0)
  clear _h _hc
  go_enter Try.func9, Try.ntmps9
  go_wp2_with fail
  refine calls_gen (R := fun w' => Box w' w.heap.size [.int .i64 a.h.n, .int .i64 a.h.l, .int .i64 a.h.r, .int .i64 a.h.a, .int .i64 a.h.b, .int .i64 a.r.n, .int .i64 a.r.d, .int .i64 a.r.o, .int .i64 a.c] ∧ Below w.heap.size w w') ⟨Box.new rfl rfl, by go_grown⟩ ?_
  rintro W1 ⟨K1_0, B1⟩
  refine (HT.out _).mono ?_
  rintro _ W2 ⟨rfl, b2⟩
  have K2_0 := K1_0.below b2
  have B2 := upB B1 b2
  clear b2 K1_0 B1
  have k2_0_0 := K2_0.at_ 0 _ rfl
  have k2_0_1 := K2_0.at_ 1 _ rfl
  have k2_0_2 := K2_0.at_ 2 _ rfl
  have k2_0_3 := K2_0.at_ 3 _ rfl
  have k2_0_4 := K2_0.at_ 4 _ rfl
  have k2_0_5 := K2_0.at_ 5 _ rfl
  have k2_0_6 := K2_0.at_ 6 _ rfl
  have k2_0_7 := K2_0.at_ 7 _ rfl
  have k2_0_8 := K2_0.at_ 8 _ rfl
  have k2_0_f := K2_0.fr
  have k2_0_l := K2_0.lt
  go_wp2_with fail
  refine (HS.out _).mono ?_
  rintro _ W3 ⟨rfl, b3⟩
  have K3_0 := K2_0.below b3
  clear k2_0_0 k2_0_1 k2_0_2 k2_0_3 k2_0_4 k2_0_5 k2_0_6 k2_0_7 k2_0_8 k2_0_f k2_0_l
  have B3 := upB B2 b3
  clear b3 K2_0 B2
  have k3_0_0 := K3_0.at_ 0 _ rfl
  have k3_0_1 := K3_0.at_ 1 _ rfl
  have k3_0_2 := K3_0.at_ 2 _ rfl
  have k3_0_3 := K3_0.at_ 3 _ rfl
  have k3_0_4 := K3_0.at_ 4 _ rfl
  have k3_0_5 := K3_0.at_ 5 _ rfl
  have k3_0_6 := K3_0.at_ 6 _ rfl
  have k3_0_7 := K3_0.at_ 7 _ rfl
  have k3_0_8 := K3_0.at_ 8 _ rfl
  have k3_0_f := K3_0.fr
  have k3_0_l := K3_0.lt
  go_upto_region 2 with fail
  refine wp_gen (R := fun w' => Box w' w.heap.size [.int .i64 a.h.n, .int .i64 a.h.l, .int .i64 a.h.r, .int .i64 a.h.a, .int .i64 a.h.b, .int .i64 a.r.n, .int .i64 a.r.d, .int .i64 a.r.o, .int .i64 a.c] ∧ Box w' W3.heap.size [.int .i64 lo, .int .i64 hi] ∧ Below w.heap.size w w') ⟨K3_0.alloc _, Box.new rfl rfl, B3.alloc B3.size _⟩ ?_
  clear k3_0_0 k3_0_1 k3_0_2 k3_0_3 k3_0_4 k3_0_5 k3_0_6 k3_0_7 k3_0_8 k3_0_f k3_0_l
  rintro W4 ⟨K4_0, K4_1, B4⟩
  clear K3_0 B3
  have k4_0_0 := K4_0.at_ 0 _ rfl
  have k4_0_1 := K4_0.at_ 1 _ rfl
  have k4_0_2 := K4_0.at_ 2 _ rfl
  have k4_0_3 := K4_0.at_ 3 _ rfl
  have k4_0_4 := K4_0.at_ 4 _ rfl
  have k4_0_5 := K4_0.at_ 5 _ rfl
  have k4_0_6 := K4_0.at_ 6 _ rfl
  have k4_0_7 := K4_0.at_ 7 _ rfl
  have k4_0_8 := K4_0.at_ 8 _ rfl
  have k4_0_f := K4_0.fr
  have k4_0_l := K4_0.lt
  go_wp2_with fail
  refine (HT.out _).mono ?_
  rintro _ W5 ⟨rfl, b5⟩
  have K5_0 := K4_0.below b5
  have K5_1 := K4_1.below b5
  clear k4_0_0 k4_0_1 k4_0_2 k4_0_3 k4_0_4 k4_0_5 k4_0_6 k4_0_7 k4_0_8 k4_0_f k4_0_l
  have B5 := upB B4 b5
  clear b5 K4_0 K4_1 B4
  have k5_0_0 := K5_0.at_ 0 _ rfl
  have k5_0_1 := K5_0.at_ 1 _ rfl
  have k5_0_2 := K5_0.at_ 2 _ rfl
  have k5_0_3 := K5_0.at_ 3 _ rfl
  have k5_0_4 := K5_0.at_ 4 _ rfl
  have k5_0_5 := K5_0.at_ 5 _ rfl
  have k5_0_6 := K5_0.at_ 6 _ rfl
  have k5_0_7 := K5_0.at_ 7 _ rfl
  have k5_0_8 := K5_0.at_ 8 _ rfl
  have k5_0_f := K5_0.fr
  have k5_0_l := K5_0.lt
  go_wp2_with fail
  refine (HI.out _).mono ?_
  rintro _ W6 ⟨rfl, b6⟩
  have K6_0 := K5_0.below b6
  have K6_1 := K5_1.below b6
  clear k5_0_0 k5_0_1 k5_0_2 k5_0_3 k5_0_4 k5_0_5 k5_0_6 k5_0_7 k5_0_8 k5_0_f k5_0_l
  have B6 := upB B5 b6
  clear b6 K5_0 K5_1 B5
  have k6_0_0 := K6_0.at_ 0 _ rfl
  have k6_0_1 := K6_0.at_ 1 _ rfl
  have k6_0_2 := K6_0.at_ 2 _ rfl
  have k6_0_3 := K6_0.at_ 3 _ rfl
  have k6_0_4 := K6_0.at_ 4 _ rfl
  have k6_0_5 := K6_0.at_ 5 _ rfl
  have k6_0_6 := K6_0.at_ 6 _ rfl
  have k6_0_7 := K6_0.at_ 7 _ rfl
  have k6_0_8 := K6_0.at_ 8 _ rfl
  have k6_0_f := K6_0.fr
  have k6_0_l := K6_0.lt
  go_upto_region 3 with fail
  refine wp_gen (R := fun w' => Box w' w.heap.size [.int .i64 a.h.n, .int .i64 a.h.l, .int .i64 a.h.r, .int .i64 a.h.a, .int .i64 a.h.b, .int .i64 a.r.n, .int .i64 a.r.d, .int .i64 a.r.o, .int .i64 a.c] ∧ Box w' W3.heap.size [.int .i64 lo, .int .i64 hi] ∧ Box w' W6.heap.size [.int .i64 lo, .int .i64 hi] ∧ Below w.heap.size w w') ⟨K6_0.alloc _, K6_1.alloc _, Box.new rfl rfl, B6.alloc B6.size _⟩ ?_
  clear k6_0_0 k6_0_1 k6_0_2 k6_0_3 k6_0_4 k6_0_5 k6_0_6 k6_0_7 k6_0_8 k6_0_f k6_0_l
  rintro W7 ⟨K7_0, K7_1, K7_2, B7⟩
  clear K6_0 K6_1 B6
  have k7_1_0 := K7_1.at_ 0 _ rfl
  have k7_1_1 := K7_1.at_ 1 _ rfl
  have k7_1_f := K7_1.fr
  have k7_1_l := K7_1.lt
  have k7_2_0 := K7_2.at_ 0 _ rfl
  have k7_2_1 := K7_2.at_ 1 _ rfl
  have k7_2_f := K7_2.fr
  have k7_2_l := K7_2.lt
  go_wp2_with fail
  refine (HE.out _).mono ?_
  rintro _ W8 ⟨rfl, b8⟩
  have K8_0 := K7_0.below b8
  have K8_1 := K7_1.below b8
  have K8_2 := K7_2.below b8
  clear k7_1_0 k7_1_1 k7_1_f k7_1_l k7_2_0 k7_2_1 k7_2_f k7_2_l
  have B8 := upB B7 b8
  clear b8 K7_0 K7_1 K7_2 B7
  go_wp2_with fail
  go_ret
  exact ⟨rfl, B8⟩

set_option maxRecDepth 100000 in
theorem lifted (os : Os) (started : os.Started) (H : Type) (enc : TypeId × Value → H) :
    ReturnsInHanded {} Try.checked os 9 .any (Rows.fnExactLengthRangeSpec.pre6 enc Try.prog Try.f9 Rows.fnExactLengthRangeRow.domain false) (Rows.fnExactLengthRangeSpec.post enc Try.prog Try.f9 false true false false) := by
  refine returnsInHanded_of_change_sized (C := Try.checked) own started (by kernel_rfl) Try.func9
    (ChangeSpec.witness6 (enc := enc) (C := Try.checked) false ⟨#[], #[.agg #[.int .i64 0, .int .i64 0, .int .i64 0, .int .i64 0, .int .i64 0, .int .i64 0, .int .i64 0, .int .i64 0, .int .i64 0], .bool false, .int .i64 0], []⟩ 8 (by kernel_rfl) (by kernel_rfl) (by kernel_rfl) (by kernel_rfl)) ?_
  intro W base args ds gs before hval0 hW hcnd hsz0 _
  have hsz : (DataW.weightsEach Try.prog (Try.f9.params.toList ++ Rows.fnExactLengthRangeSpec.plain.varTypes Try.prog) (ds ++ gs)).all (· ≤ reachBytes) = true := hsz0
  clear hsz0
  have hval : ∀ (j : Nat) t v, Try.f9.params[j]? = some t → args[j]? = some v → Value.okWide Try.prog W .any base t v := hval0
  clear hval0
  have hW' := hW
  obtain ⟨p, q, hA0, hV, rfl, hfz, hnd⟩ := hW
  have hA : DataW.TrodAll enc Try.prog W 0 (fun _ => true) true Try.f9.params.toList args.toList ds p := hA0
  rw [Try.params9] at hA hval hsz
  obtain ⟨v0, vs0, d0, ds0, p0, q0, hargs, rfl, rfl, h0, r0⟩ := trodAll_cons hA
  obtain ⟨v1, vs1, d1, ds1, p1, q1, rfl, rfl, rfl, h1, r1⟩ := trodAll_cons r0
  obtain ⟨v2, vs2, d2, ds2, p2, q2, rfl, rfl, rfl, h2, r2⟩ := trodAll_cons r1
  obtain ⟨rfl, rfl, rfl⟩ := trodAll_nil r2
  obtain rfl : args = #[v0, v1, v2] := by cases args; simp_all
  obtain ⟨rfl, rfl⟩ := trodVars_none hV
  obtain ⟨a0, rfl, rfl, rfl, w0⟩ := open_wheel (hval 0 62 v0 rfl rfl) h0
  obtain ⟨a1, rfl, rfl, rfl⟩ := open_bool Try.underlying4 (hval 1 4 v1 rfl rfl) h1
  obtain ⟨a2, rfl, rfl, rfl, w2⟩ := open_int Try.underlying2 (hval 2 2 v2 rfl rfl) h2
  clear hA0
  refine (walk a0 a1 a2 W w0 w2).mono fun e W' ⟨he, bel⟩ => ?_
  subst he
  exact ⟨_, rfl, _, _, _, [], _, [], hW', trodAll_mk1 (shut_bool Try.underlying4 _), (trodAll_cons_mk (shut_wheel w0) (trodAll_cons_mk (shut_bool Try.underlying4 _) (trodAll_cons_mk (shut_int Try.underlying2 w2) trodAll_mk0))), rfl, bel.frame _, fun h => by cases h⟩

theorem over : Rows.fnExactLengthRangeRow.holds Try.pinned (OpenSpec.ofChange Rows.fnExactLengthRangeSpec) :=
  OpenClaim.holds_of_wide 9 Try.f9 rfl rfl rfl rfl rfl rfl rfl ⟨rfl, rfl, rfl, rfl, rfl⟩ rfl rfl rfl rfl rfl (by kernel_rfl) Try.func9 (by kernel_rfl)
    (of_decide_eq_true (by kernel_rfl)) (by unfold Func.isWrapper; first | (rw [if_pos (by decide +kernel)]; kernel_rfl) | (rw [if_neg (by decide +kernel)]; exact ⟨rfl, rfl⟩))
    (fun os started H enc _ => lifted os started H enc)

theorem proved : Rows.FnExactLengthRangeSaid := over
end Go.Proofs.Ytabcbecmieolhaa.fnExactLengthRange
