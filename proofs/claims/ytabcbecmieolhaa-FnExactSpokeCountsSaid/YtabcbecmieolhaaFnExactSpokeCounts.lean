/- FnExactSpokeCounts holds: at every wheel impl.SpokeCounts answers as spec.SpokeCounts, and its answer owns its memory. -/
import Derived.Test.YtabcbecmieolhaaRows
import Derived.Test.YtabcbecmieolhaaSpokeImpl
import Derived.Test.YtabcbecmieolhaaLawHub
import Derived.Test.YtabcbecmieolhaaLawHub2
import Derived.Test.YtabcbecmieolhaaBox
import Derived.Test.YtabcbecmieolhaaGrid2
import Derived.WalkKit
import Derived.ProofKit
import Derived.OpenShut
import Derived.ShutString
import Derived.SizedLaws
namespace Go.Proofs.Ytabcbecmieolhaa.fnExactSpokeCounts
open Go.ChangeShapes Go.WideShapes Go.ChangeAt Go.RowKit
open Go.ChangeMaps (open_string shut_string)
set_option linter.unusedVariables false

set_option maxRecDepth 100000 in
set_option maxHeartbeats 8000000 in
theorem walk (a : Wh) (w : World) (_h : wheelW a) :
    Calls Try.prog 8 #[wheelV a] w fun e w' => e = .returned (.bool true) ∧ Below w.heap.size w w' := by
  have HT := Go.Lib.hid (fun w0 => law_toWheel a w0)
  obtain ⟨zss, code, hp⟩ : ∃ zss code, cntA a = (zss, code) := ⟨_, _, rfl⟩
  have HS := Go.Lib.hid (fun w0 => (specSpokeCounts a w0).mono fun e w2 (h : RowsEnd (cntA a) w0 e w2) => show ∃ A cap c d G g, e = .returned (.tuple #[.slice A zss.length cap, .int .i64 code]) ∧ GridAt w2 w0.heap.size w2.heap.size A zss.length zss c d G g ∧ Below w0.heap.size w0 w2 by rw [hp] at h; exact h)
  have HI := Go.Lib.hid (fun w0 => (implSpokeCounts a w0).mono fun e w2 (h : RowsEnd (cntA a) w0 e w2) => show ∃ A cap c d G g, e = .returned (.tuple #[.slice A zss.length cap, .int .i64 code]) ∧ GridAt w2 w0.heap.size w2.heap.size A zss.length zss c d G g ∧ Below w0.heap.size w0 w2 by rw [hp] at h; exact h)
  clear hp _h
  obtain ⟨N, hN⟩ : ∃ N : Int, N = ((1 + off zss zss.length : Nat) : Int) := ⟨_, rfl⟩
  have hng : ¬ N < 0 := by omega
  have HNN := Go.Lib.hid hN
  clear hN
  have hnn : (N != N) = false := by simp
  have hne : ((code : Int) != code) = false := by simp
  go_enter Try.func8, Try.ntmps8
  go_wp2_with fail
  refine calls_gen (R := fun w' => Box w' w.heap.size [.int .i64 a.h.n, .int .i64 a.h.l, .int .i64 a.h.r, .int .i64 a.h.a, .int .i64 a.h.b, .int .i64 a.r.n, .int .i64 a.r.d, .int .i64 a.r.o, .int .i64 a.c] ∧ Below w.heap.size w w') ⟨Box.new rfl rfl, by go_grown⟩ ?_
  rintro W1 ⟨K1_0, B1⟩
  refine (HT.out _).mono ?_
  rintro _ W2 ⟨rfl, b2⟩
  have K2_0 := K1_0.below b2
  have B2 := upB B1 b2
  clear b2 K1_0 B1
  have k2_0_0 := K2_0.at_ 0 _ rfl
  have k2_0_1 := K2_0.at_ 1 _ rfl
  have k2_0_2 := K2_0.at_ 2 _ rfl
  have k2_0_3 := K2_0.at_ 3 _ rfl
  have k2_0_4 := K2_0.at_ 4 _ rfl
  have k2_0_5 := K2_0.at_ 5 _ rfl
  have k2_0_6 := K2_0.at_ 6 _ rfl
  have k2_0_7 := K2_0.at_ 7 _ rfl
  have k2_0_8 := K2_0.at_ 8 _ rfl
  have k2_0_f := K2_0.fr
  have k2_0_l := K2_0.lt
  go_wp2_with fail
  refine (HS.out _).mono ?_
  rintro _ W3 ⟨A0, n0, c0, d0, G0, g0, rfl, q0, b3⟩
  have K3_0 := K2_0.below b3
  clear k2_0_0 k2_0_1 k2_0_2 k2_0_3 k2_0_4 k2_0_5 k2_0_6 k2_0_7 k2_0_8 k2_0_f k2_0_l
  have B3 := upB B2 b3
  clear b3 K2_0 B2
  have Q0 := Go.Lib.hid q0
  have S0 : Hid (_ ≤ _) := Go.Lib.hid (Nat.le_refl W3.heap.size)
  clear q0
  have k3_0_0 := K3_0.at_ 0 _ rfl
  have k3_0_1 := K3_0.at_ 1 _ rfl
  have k3_0_2 := K3_0.at_ 2 _ rfl
  have k3_0_3 := K3_0.at_ 3 _ rfl
  have k3_0_4 := K3_0.at_ 4 _ rfl
  have k3_0_5 := K3_0.at_ 5 _ rfl
  have k3_0_6 := K3_0.at_ 6 _ rfl
  have k3_0_7 := K3_0.at_ 7 _ rfl
  have k3_0_8 := K3_0.at_ 8 _ rfl
  have k3_0_f := K3_0.fr
  have k3_0_l := K3_0.lt
  go_wp2_with fail
  refine (HT.out _).mono ?_
  rintro _ W4 ⟨rfl, b4⟩
  have K4_0 := K3_0.below b4
  clear k3_0_0 k3_0_1 k3_0_2 k3_0_3 k3_0_4 k3_0_5 k3_0_6 k3_0_7 k3_0_8 k3_0_f k3_0_l
  have Q0 := Go.Lib.hid (Q0.out.below b4 S0.out)
  have S0 := Go.Lib.hid (Nat.le_trans S0.out b4.size)
  have B4 := upB B3 b4
  clear b4 K3_0 B3
  have T4 := Go.Lib.hid K4_0.lt
  have L4 := S0
  have k4_0_0 := K4_0.at_ 0 _ rfl
  have k4_0_1 := K4_0.at_ 1 _ rfl
  have k4_0_2 := K4_0.at_ 2 _ rfl
  have k4_0_3 := K4_0.at_ 3 _ rfl
  have k4_0_4 := K4_0.at_ 4 _ rfl
  have k4_0_5 := K4_0.at_ 5 _ rfl
  have k4_0_6 := K4_0.at_ 6 _ rfl
  have k4_0_7 := K4_0.at_ 7 _ rfl
  have k4_0_8 := K4_0.at_ 8 _ rfl
  have k4_0_f := K4_0.fr
  have k4_0_l := K4_0.lt
  go_wp2_with fail
  refine (HI.out _).mono ?_
  rintro _ W5 ⟨A1, n1, c1, d1, G1, g1, rfl, q1, b5⟩
  have K5_0 := K4_0.below b5
  clear k4_0_0 k4_0_1 k4_0_2 k4_0_3 k4_0_4 k4_0_5 k4_0_6 k4_0_7 k4_0_8 k4_0_f k4_0_l
  have Q0 := Go.Lib.hid (Q0.out.below b5 S0.out)
  have S0 := Go.Lib.hid (Nat.le_trans S0.out b5.size)
  have B5 := upB B4 b5
  clear b5 K4_0 B4
  have Q1 := Go.Lib.hid q1
  have S1 : Hid (_ ≤ _) := Go.Lib.hid (Nat.le_refl W5.heap.size)
  clear q1
  go_wp2_with fail
  refine (eqRows_same A1 A0 zss.length n1 n0 zss _ _ _ _ _ _ _ _ _ _ _ _ W5 Q1.out Q0.out).mono ?_
  rintro _ _ ⟨rfl, x, rfl⟩
  have Q0 := Go.Lib.hid (Q0.out.drewN x)
  have Q1 := Go.Lib.hid (Q1.out.drewN x)
  have K5_0 := K5_0.drewN x
  have B5 := below_drewN B5 x
  have S0 : Hid (_ ≤ (W5.drewN x).heap.size) := S0
  have S1 : Hid (_ ≤ (W5.drewN x).heap.size) := S1
  generalize W5.drewN x = V at *
  have HM := markRows A1 zss.length n1 1 zss _ _ _ _ _ _ V Q1.out (by omega)
  rw [← HNN.out] at HM
  have HM := Go.Lib.hid HM
  go_wp2_with fail
  refine HM.out.mono ?_
  rintro _ V1 ⟨rfl, q1, k1⟩
  have Q1 := Go.Lib.hid q1
  have Q0 := Go.Lib.hid (Q0.out.keep k1 (.inl L4.out))
  have S0 := Go.Lib.hid (Nat.le_trans S0.out k1.size)
  have S1 := Go.Lib.hid (Nat.le_trans S1.out k1.size)
  have K5_0 := K5_0.keep k1 (.inl T4.out)
  have B5 := B5.trans (k1.below (Nat.le_of_lt T4.out) B5.size)
  clear q1 k1 HM L4 T4
  have HH := heldRows A1 zss.length n1 1 zss _ _ _ _ _ _ V1 Q1.out (by omega)
  rw [← HNN.out] at HH
  have HH := Go.Lib.hid HH
  go_wp2_with fail
  refine HH.out.mono ?_
  rintro _ _ ⟨rfl, rfl⟩
  clear HH
  have k5_0_0 := K5_0.at_ 0 _ rfl
  have k5_0_1 := K5_0.at_ 1 _ rfl
  have k5_0_2 := K5_0.at_ 2 _ rfl
  have k5_0_3 := K5_0.at_ 3 _ rfl
  have k5_0_4 := K5_0.at_ 4 _ rfl
  have k5_0_5 := K5_0.at_ 5 _ rfl
  have k5_0_6 := K5_0.at_ 6 _ rfl
  have k5_0_7 := K5_0.at_ 7 _ rfl
  have k5_0_8 := K5_0.at_ 8 _ rfl
  have k5_0_f := K5_0.fr
  have k5_0_l := K5_0.lt
  go_wp2_with fail
  refine (HT.out _).mono ?_
  rintro _ W6 ⟨rfl, b6⟩
  have K6_0 := K5_0.below b6
  clear k5_0_0 k5_0_1 k5_0_2 k5_0_3 k5_0_4 k5_0_5 k5_0_6 k5_0_7 k5_0_8 k5_0_f k5_0_l
  have Q0 := Go.Lib.hid (Q0.out.below b6 S0.out)
  have S0 := Go.Lib.hid (Nat.le_trans S0.out b6.size)
  have Q1 := Go.Lib.hid (Q1.out.below b6 S1.out)
  have S1 := Go.Lib.hid (Nat.le_trans S1.out b6.size)
  have B6 := upB B5 b6
  clear b6 K5_0 B5
  have k6_0_0 := K6_0.at_ 0 _ rfl
  have k6_0_1 := K6_0.at_ 1 _ rfl
  have k6_0_2 := K6_0.at_ 2 _ rfl
  have k6_0_3 := K6_0.at_ 3 _ rfl
  have k6_0_4 := K6_0.at_ 4 _ rfl
  have k6_0_5 := K6_0.at_ 5 _ rfl
  have k6_0_6 := K6_0.at_ 6 _ rfl
  have k6_0_7 := K6_0.at_ 7 _ rfl
  have k6_0_8 := K6_0.at_ 8 _ rfl
  have k6_0_f := K6_0.fr
  have k6_0_l := K6_0.lt
  go_wp2_with fail
  refine (HI.out _).mono ?_
  rintro _ W7 ⟨A2, n2, c2, d2, G2, g2, rfl, q2, b7⟩
  have K7_0 := K6_0.below b7
  clear k6_0_0 k6_0_1 k6_0_2 k6_0_3 k6_0_4 k6_0_5 k6_0_6 k6_0_7 k6_0_8 k6_0_f k6_0_l
  have Q0 := Go.Lib.hid (Q0.out.below b7 S0.out)
  have S0 := Go.Lib.hid (Nat.le_trans S0.out b7.size)
  have Q1 := Go.Lib.hid (Q1.out.below b7 S1.out)
  have S1 := Go.Lib.hid (Nat.le_trans S1.out b7.size)
  have B7 := upB B6 b7
  clear b7 K6_0 B6
  have Q2 := Go.Lib.hid q2
  have S2 : Hid (_ ≤ _) := Go.Lib.hid (Nat.le_refl W7.heap.size)
  clear q2
  go_wp2_with fail
  refine (eqRows_same A2 A0 zss.length n2 n0 zss _ _ _ _ _ _ _ _ _ _ _ _ W7 Q2.out Q0.out).mono ?_
  rintro _ _ ⟨rfl, x, rfl⟩
  have Q1 := Go.Lib.hid (Q1.out.drewN x)
  have B7 := below_drewN B7 x
  generalize W7.drewN x = V at *
  have HH := heldRows A1 zss.length n1 1 zss _ _ _ _ _ _ V Q1.out (by omega)
  rw [← HNN.out] at HH
  have HH := Go.Lib.hid HH
  go_wp2_with fail
  refine HH.out.mono ?_
  rintro _ _ ⟨rfl, rfl⟩
  go_wp2_with fail
  go_ret
  exact ⟨rfl, B7⟩

set_option maxRecDepth 100000 in
theorem lifted (os : Os) (started : os.Started) (H : Type) (enc : TypeId × Value → H) :
    ReturnsInHanded {} Try.checked os 8 .any (Rows.fnExactSpokeCountsSpec.pre6 enc Try.prog Try.f8 Rows.fnExactSpokeCountsRow.domain false) (Rows.fnExactSpokeCountsSpec.post enc Try.prog Try.f8 false true false false) := by
  refine returnsInHanded_of_change_sized (C := Try.checked) own started (by kernel_rfl) Try.func8
    (ChangeSpec.witness6 (enc := enc) (C := Try.checked) false ⟨#[], #[.agg #[.int .i64 0, .int .i64 0, .int .i64 0, .int .i64 0, .int .i64 0, .int .i64 0, .int .i64 0, .int .i64 0, .int .i64 0]], []⟩ 8 (by kernel_rfl) (by kernel_rfl) (by kernel_rfl) (by kernel_rfl)) ?_
  intro W base args ds gs before hval0 hW hcnd hsz0 _
  have hsz : (DataW.weightsEach Try.prog (Try.f8.params.toList ++ Rows.fnExactSpokeCountsSpec.plain.varTypes Try.prog) (ds ++ gs)).all (· ≤ reachBytes) = true := hsz0
  clear hsz0
  have hval : ∀ (j : Nat) t v, Try.f8.params[j]? = some t → args[j]? = some v → Value.okWide Try.prog W .any base t v := hval0
  clear hval0
  have hW' := hW
  obtain ⟨p, q, hA0, hV, rfl, hfz, hnd⟩ := hW
  have hA : DataW.TrodAll enc Try.prog W 0 (fun _ => true) true Try.f8.params.toList args.toList ds p := hA0
  rw [Try.params8] at hA hval hsz
  obtain ⟨v0, vs0, d0, ds0, p0, q0, hargs, rfl, rfl, h0, r0⟩ := trodAll_cons hA
  obtain ⟨rfl, rfl, rfl⟩ := trodAll_nil r0
  obtain rfl : args = #[v0] := by cases args; simp_all
  obtain ⟨rfl, rfl⟩ := trodVars_none hV
  obtain ⟨a0, rfl, rfl, rfl, w0⟩ := open_wheel (hval 0 62 v0 rfl rfl) h0
  clear hA0
  refine (walk a0 W w0).mono fun e W' ⟨he, bel⟩ => ?_
  subst he
  exact ⟨_, rfl, _, _, _, [], _, [], hW', trodAll_mk1 (shut_bool Try.underlying4 _), (trodAll_cons_mk (shut_wheel w0) trodAll_mk0), rfl, bel.frame _, fun h => by cases h⟩

theorem over : Rows.fnExactSpokeCountsRow.holds Try.pinned (OpenSpec.ofChange Rows.fnExactSpokeCountsSpec) :=
  OpenClaim.holds_of_wide 8 Try.f8 rfl rfl rfl rfl rfl rfl rfl ⟨rfl, rfl, rfl, rfl, rfl⟩ rfl rfl rfl rfl rfl (by kernel_rfl) Try.func8 (by kernel_rfl)
    (of_decide_eq_true (by kernel_rfl)) (by unfold Func.isWrapper; first | (rw [if_pos (by decide +kernel)]; kernel_rfl) | (rw [if_neg (by decide +kernel)]; exact ⟨rfl, rfl⟩))
    (fun os started H enc _ => lifted os started H enc)

theorem proved : Rows.FnExactSpokeCountsSaid := over
end Go.Proofs.Ytabcbecmieolhaa.fnExactSpokeCounts
