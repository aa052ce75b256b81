/- laws.FnExactDishOf answers true for every wheel: DishOf answers as its model. No condition. -/
import Derived.Test.YtcphhcnomaociabRows
import Derived.Test.YtcphhcnomaociabHubImpl
import Derived.Test.YtcphhcnomaociabLawHub
import Derived.Test.YtcphhcnomaociabLawHub2
import Derived.Test.YtcphhcnomaociabBox
import Derived.WalkKit
import Derived.ProofKit
import Derived.OpenShut
import Derived.ShutString
import Derived.SizedLaws
namespace Go.Proofs.Ytcphhcnomaociab.fnExactDishOf
open Go.ChangeShapes Go.WideShapes Go.ChangeAt Go.RowKit
open Go.ChangeMaps (open_string shut_string)
set_option linter.unusedVariables false

set_option maxRecDepth 100000 in
set_option maxHeartbeats 4000000 in
theorem walk (a : Wh) (w : World) (_h : wheelW a) :
    Calls Try.prog 8 #[wheelV a] w fun e w' => e = .returned (.bool true) ∧ Below w.heap.size w w' := by
  have HT := Go.Lib.hid (fun w0 => law_toWheel a w0)
  have HS := Go.Lib.hid (fun w0 => specDishOf a w0)
  have HI := Go.Lib.hid (fun w0 => implDishOf a w0)
  obtain ⟨x, y, hv⟩ : ∃ x y : Int, pairI (dishA a) = .tuple #[.int .i64 x, .int .i64 y] := ⟨_, _, rfl⟩
  rw [hv] at HS HI
  clear hv
  clear _h
  go_enter Try.func8, Try.ntmps8
  go_wp2_with fail
  refine (HT.out _).mono ?_
  rintro _ w1 ⟨rfl, b1⟩
  have K1 : Box w1 w.heap.size [.int .i64 a.h.n, .int .i64 a.h.l, .int .i64 a.h.r, .int .i64 a.h.a, .int .i64 a.h.b, .int .i64 a.r.n, .int .i64 a.r.d, .int .i64 a.r.o, .int .i64 a.c] := Box.below (Box.new rfl rfl) b1
  have B1 := Go.Lib.hid (upB (a := w) (by go_grown) b1)
  clear b1
  have p0 := K1.at_ 0 _ rfl
  have p1 := K1.at_ 1 _ rfl
  have p2 := K1.at_ 2 _ rfl
  have p3 := K1.at_ 3 _ rfl
  have p4 := K1.at_ 4 _ rfl
  have p5 := K1.at_ 5 _ rfl
  have p6 := K1.at_ 6 _ rfl
  have p7 := K1.at_ 7 _ rfl
  have p8 := K1.at_ 8 _ rfl
  have pf := K1.fr
  have pl := K1.lt
  go_wp2_with fail
  refine (HS.out _).mono ?_
  rintro _ w2 ⟨rfl, b2⟩
  have K2 := K1.below b2
  have B2 := Go.Lib.hid (upB B1.out b2)
  clear b2
  clear K1 B1
  clear p0 p1 p2 p3 p4 p5 p6 p7 p8 pf pl
  have p0 := K2.at_ 0 _ rfl
  have p1 := K2.at_ 1 _ rfl
  have p2 := K2.at_ 2 _ rfl
  have p3 := K2.at_ 3 _ rfl
  have p4 := K2.at_ 4 _ rfl
  have p5 := K2.at_ 5 _ rfl
  have p6 := K2.at_ 6 _ rfl
  have p7 := K2.at_ 7 _ rfl
  have p8 := K2.at_ 8 _ rfl
  have pf := K2.fr
  have pl := K2.lt
  go_wp2_with fail
  refine (HT.out _).mono ?_
  rintro _ w3 ⟨rfl, b3⟩
  have K3 := K2.below b3
  have B3 := Go.Lib.hid (upB B2.out b3)
  clear b3
  clear K2 B2
  clear p0 p1 p2 p3 p4 p5 p6 p7 p8 pf pl
  have p0 := K3.at_ 0 _ rfl
  have p1 := K3.at_ 1 _ rfl
  have p2 := K3.at_ 2 _ rfl
  have p3 := K3.at_ 3 _ rfl
  have p4 := K3.at_ 4 _ rfl
  have p5 := K3.at_ 5 _ rfl
  have p6 := K3.at_ 6 _ rfl
  have p7 := K3.at_ 7 _ rfl
  have p8 := K3.at_ 8 _ rfl
  have pf := K3.fr
  have pl := K3.lt
  go_wp2_with fail
  refine (HI.out _).mono ?_
  rintro _ w4 ⟨rfl, b4⟩
  have K4 := K3.below b4
  have B4 := Go.Lib.hid (upB B3.out b4)
  clear b4
  clear K3 B3
  clear p0 p1 p2 p3 p4 p5 p6 p7 p8 pf pl
  have p0 := K4.at_ 0 _ rfl
  have p1 := K4.at_ 1 _ rfl
  have p2 := K4.at_ 2 _ rfl
  have p3 := K4.at_ 3 _ rfl
  have p4 := K4.at_ 4 _ rfl
  have p5 := K4.at_ 5 _ rfl
  have p6 := K4.at_ 6 _ rfl
  have p7 := K4.at_ 7 _ rfl
  have p8 := K4.at_ 8 _ rfl
  have pf := K4.fr
  have pl := K4.lt
  go_wp2_with fail
  go_ret
  exact ⟨rfl, B4.out⟩

set_option maxRecDepth 100000 in
theorem lifted (os : Os) (started : os.Started) (H : Type) (enc : TypeId × Value → H) :
    ReturnsInHanded {} Try.checked os 8 .any (Rows.fnExactDishOfSpec.pre6 enc Try.prog Try.f8 Rows.fnExactDishOfRow.domain false) (Rows.fnExactDishOfSpec.post enc Try.prog Try.f8 false true false false) := by
  refine returnsInHanded_of_change_sized (C := Try.checked) own started (by kernel_rfl) Try.func8
    (ChangeSpec.witness6 (enc := enc) (C := Try.checked) false ⟨#[], #[.agg #[.int .i64 0, .int .i64 0, .int .i64 0, .int .i64 0, .int .i64 0, .int .i64 0, .int .i64 0, .int .i64 0, .int .i64 0]], []⟩ 8 (by kernel_rfl) (by kernel_rfl) (by kernel_rfl) (by kernel_rfl)) ?_
  intro W base args ds gs before hval0 hW hcnd hsz0 _
  have hsz : (DataW.weightsEach Try.prog (Try.f8.params.toList ++ Rows.fnExactDishOfSpec.plain.varTypes Try.prog) (ds ++ gs)).all (· ≤ reachBytes) = true := hsz0
  clear hsz0
  have hval : ∀ (j : Nat) t v, Try.f8.params[j]? = some t → args[j]? = some v → Value.okWide Try.prog W .any base t v := hval0
  clear hval0
  have hW' := hW
  obtain ⟨p, q, hA0, hV, rfl, hfz, hnd⟩ := hW
  have hA : DataW.TrodAll enc Try.prog W 0 (fun _ => true) true Try.f8.params.toList args.toList ds p := hA0
  rw [Try.params8] at hA hval hsz
  obtain ⟨v0, vs0, d0, ds0, p0, q0, hargs, rfl, rfl, h0, r0⟩ := trodAll_cons hA
  obtain ⟨rfl, rfl, rfl⟩ := trodAll_nil r0
  obtain rfl : args = #[v0] := by cases args; simp_all
  obtain ⟨rfl, rfl⟩ := trodVars_none hV
  obtain ⟨a0, rfl, rfl, rfl, w0⟩ := open_wheel (hval 0 51 v0 rfl rfl) h0
  clear hA0
  refine (walk a0 W w0).mono fun e W' ⟨he, bel⟩ => ?_
  subst he
  exact ⟨_, rfl, _, _, _, [], _, [], hW', trodAll_mk1 (shut_bool Try.underlying4 _), (trodAll_cons_mk (shut_wheel w0) trodAll_mk0), rfl, bel.frame _, fun h => by cases h⟩

theorem over : Rows.fnExactDishOfRow.holds Try.pinned (OpenSpec.ofChange Rows.fnExactDishOfSpec) :=
  OpenClaim.holds_of_wide 8 Try.f8 rfl rfl rfl rfl rfl rfl rfl ⟨rfl, rfl, rfl, rfl, rfl⟩ rfl rfl rfl rfl rfl (by kernel_rfl) Try.func8 (by kernel_rfl)
    (of_decide_eq_true (by kernel_rfl)) (by unfold Func.isWrapper; first | (rw [if_pos (by decide +kernel)]; kernel_rfl) | (rw [if_neg (by decide +kernel)]; exact ⟨rfl, rfl⟩))
    (fun os started H enc _ => lifted os started H enc)

theorem proved : Rows.FnExactDishOfSaid := over
end Go.Proofs.Ytcphhcnomaociab.fnExactDishOf
