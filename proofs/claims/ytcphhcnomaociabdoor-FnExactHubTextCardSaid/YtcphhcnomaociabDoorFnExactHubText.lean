/- laws.FnExactHubText answers true for every hub: HubText answers as its model. Condition: the listed package-level variables hold what the text of the program lays in them. -/
import Derived.Test.YtcphhcnomaociabDoorCards
import Derived.Test.YtcphhcnomaociabDoorTie
import Derived.Test.YtcphhcnomaociabDoorHubTImpl
import Derived.Test.YtcphhcnomaociabDoorLawHub
import Derived.Test.YtcphhcnomaociabDoorBox
import Derived.WalkKit
import Derived.ProofKit
import Derived.OpenShut
import Derived.ShutString
import Derived.SizedLaws
import Derived.Lay
import Derived.Deep.DeepHandedRow
import Derived.Deep.DeepWitnessRowRef
import Derived.SevenTiedAt
import Derived.MakeChecks
namespace Go.Proofs.YtcphhcnomaociabDoor.fnExactHubText
open Go.ChangeShapes Go.WideShapes Go.ChangeAt Go.RowKit
open Go.ChangeMaps (open_string shut_string)
set_option linter.unusedVariables false

theorem ht_is {w : World} {h : Hb} {e : Ending} {w' : World} {t : ByteArray} {c : Int} (hv : (if hubB h then #[Value.string ⟨(hubT h).toArray⟩, .int .i64 0] else #[.string ⟨#[]⟩, .int .i64 1]) = #[.string t, .int .i64 c]) (h1 : HubTEnd w h e w') : IsV w (.tuple #[.string t, .int .i64 c]) e w' := by
  obtain ⟨hb, he⟩ := h1
  exact ⟨by rw [he, hv], hb⟩
set_option maxRecDepth 100000 in
set_option maxHeartbeats 4000000 in
theorem walk (a : Hb) (w : World) (_h : hubW a) (hL : laidMetH Tryd.prog Rows.fnExactHubTextRow.laid w) (hsh : w.ShapedOpen Tryd.prog) :
    Calls Tryd.prog 4 #[hubV a] w fun e w' => e = .returned (.bool true) ∧ Below w.heap.size w w' := by
  have ht : Tab w := tab_of_laid (by kernel_rfl) (by kernel_rfl) hL
  clear hL hsh _h
  obtain ⟨t, c, hv⟩ : ∃ t c, (if hubB a then #[Value.string ⟨(hubT a).toArray⟩, .int .i64 0] else #[.string ⟨#[]⟩, .int .i64 1]) = #[Value.string t, .int .i64 c] := by
    cases hubB a
    · exact ⟨_, _, rfl⟩
    · exact ⟨_, _, rfl⟩
  have HT := Go.Lib.hid (fun w0 => law_toHub a w0)
  have HS := Go.Lib.hid (fun w0 => (specHubText a w0).mono fun _ _ q => ht_is hv q)
  have HI := Go.Lib.hid (fun w0 (hb : Below w.heap.size w w0) => (implHubText a w0 (ht.below hb)).mono fun _ _ q => ht_is hv q)
  clear hv ht
  go_enter Tryd.func4, Tryd.ntmps4
  go_wp2_with fail
  refine calls_gen (R := fun w' => Box w' w.heap.size [.int .i64 a.n, .int .i64 a.l, .int .i64 a.r, .int .i64 a.a, .int .i64 a.b] ∧ Below w.heap.size w w') ⟨Box.new rfl rfl, by go_grown⟩ ?_
  rintro W1 ⟨K1_0, B1⟩
  refine (HT.out _).mono ?_
  rintro _ W2 ⟨rfl, b2⟩
  have K2_0 := K1_0.below b2
  have B2 := upB B1 b2
  clear b2 K1_0 B1
  have k2_0_0 := K2_0.at_ 0 _ rfl
  have k2_0_1 := K2_0.at_ 1 _ rfl
  have k2_0_2 := K2_0.at_ 2 _ rfl
  have k2_0_3 := K2_0.at_ 3 _ rfl
  have k2_0_4 := K2_0.at_ 4 _ rfl
  have k2_0_f := K2_0.fr
  have k2_0_l := K2_0.lt
  go_wp2_with fail
  refine (HS.out _).mono ?_
  rintro _ W3 ⟨rfl, b3⟩
  have K3_0 := K2_0.below b3
  clear k2_0_0 k2_0_1 k2_0_2 k2_0_3 k2_0_4 k2_0_f k2_0_l
  have B3 := upB B2 b3
  clear b3 K2_0 B2
  have k3_0_0 := K3_0.at_ 0 _ rfl
  have k3_0_1 := K3_0.at_ 1 _ rfl
  have k3_0_2 := K3_0.at_ 2 _ rfl
  have k3_0_3 := K3_0.at_ 3 _ rfl
  have k3_0_4 := K3_0.at_ 4 _ rfl
  have k3_0_f := K3_0.fr
  have k3_0_l := K3_0.lt
  go_wp2_with fail
  refine (HT.out _).mono ?_
  rintro _ W4 ⟨rfl, b4⟩
  have K4_0 := K3_0.below b4
  clear k3_0_0 k3_0_1 k3_0_2 k3_0_3 k3_0_4 k3_0_f k3_0_l
  have B4 := upB B3 b4
  clear b4 K3_0 B3
  have k4_0_0 := K4_0.at_ 0 _ rfl
  have k4_0_1 := K4_0.at_ 1 _ rfl
  have k4_0_2 := K4_0.at_ 2 _ rfl
  have k4_0_3 := K4_0.at_ 3 _ rfl
  have k4_0_4 := K4_0.at_ 4 _ rfl
  have k4_0_f := K4_0.fr
  have k4_0_l := K4_0.lt
  go_wp2_with fail
  refine (HI.out _ B4).mono ?_
  rintro _ W5 ⟨rfl, b5⟩
  have K5_0 := K4_0.below b5
  clear k4_0_0 k4_0_1 k4_0_2 k4_0_3 k4_0_4 k4_0_f k4_0_l
  have B5 := upB B4 b5
  clear b5 K4_0 B4
  go_wp2_with fail
  go_ret
  exact ⟨rfl, B5⟩

set_option maxRecDepth 100000 in
theorem contract (H : Type) (enc : TypeId × Value → H) (W : World) (base : Nat) (args : Array Value) (ds gs : List (DataW H)) (before : List MemPlace)
    (hval : ∀ (j : Nat) t v, Tryd.f4.params[j]? = some t → args[j]? = some v → Value.okWide Tryd.prog W .any base t v)
    (hW : DataW.Whole enc Tryd.prog Tryd.f4.params.toList Rows.fnExactHubTextSpec.vars false W args.toList ds gs before) (hsz : (DataW.weightsEach Tryd.prog (Tryd.f4.params.toList ++ Rows.fnExactHubTextSpec.plain.varTypes Tryd.prog) (ds ++ gs)).all (· ≤ reachBytes) = true) (hL : laidMetH Tryd.prog Rows.fnExactHubTextRow.laid W) (hsh : W.ShapedOpen Tryd.prog) :
    Calls Tryd.prog 4 args W fun e W' => ∃ v, e = .returned v ∧ Rows.fnExactHubTextSpec.post enc Tryd.prog Tryd.f4 false true false false W args v W' := by
  have hW' := hW
  obtain ⟨p, q, hA0, hV, rfl, hfz, hnd⟩ := hW
  have hA : DataW.TrodAll enc Tryd.prog W 0 (fun _ => true) true Tryd.f4.params.toList args.toList ds p := hA0
  rw [Tryd.params4] at hA hval hsz
  obtain ⟨v0, vs0, d0, ds0, p0, q0, hargs, rfl, rfl, h0, r0⟩ := trodAll_cons hA
  obtain ⟨rfl, rfl, rfl⟩ := trodAll_nil r0
  obtain rfl : args = #[v0] := by cases args; simp_all
  obtain ⟨rfl, rfl⟩ := trodVars_none hV
  obtain ⟨a0, rfl, rfl, rfl, w0⟩ := open_hub (hval 0 33 v0 rfl rfl) h0
  clear hA0
  refine (walk a0 W w0 hL hsh).mono fun e W' ⟨he, bel⟩ => ?_
  subst he
  exact ⟨_, rfl, _, _, _, [], _, [], hW', trodAll_mk1 (shut_bool Tryd.underlying4 _), (trodAll_cons_mk (shut_hub w0) trodAll_mk0), rfl, bel.frame _, fun h => by cases h⟩

theorem laid_met (os : Os) (args : Array Value) : laidMetH Tryd.prog Rows.fnExactHubTextRow.laid ((World.laidAll Tryd.prog os Rows.fnExactHubTextRow.laid).forCall (fun _ _ => 0) ⟨#[], args, []⟩).memory := by
  rw [MakeChecks.laidMetH_plain _ _ _ (by kernel_rfl)]
  exact laidMet_laidAll _ (by kernel_rfl) (by kernel_rfl)
theorem reads (os : Os) {H : Type} (enc : TypeId × Value → H) : ∃ places, DataW.whole enc Tryd.prog ((World.laidAll Tryd.prog os Rows.fnExactHubTextRow.laid).forCall (fun _ _ => 0) ⟨#[], #[.agg #[.int .i64 0, .int .i64 0, .int .i64 0, .int .i64 0, .int .i64 0]], []⟩).memory Tryd.f4.params.toList Rows.fnExactHubTextSpec.vars false #[Value.agg #[.int .i64 0, .int .i64 0, .int .i64 0, .int .i64 0, .int .i64 0]].toList 8 = some ([.agg [.lit (.int .i64 0), .lit (.int .i64 0), .lit (.int .i64 0), .lit (.int .i64 0), .lit (.int .i64 0)]], [], places) :=
  ⟨[], by kernel_rfl⟩

set_option maxRecDepth 100000 in
theorem lifted (os : Os) (started : os.Started) (H : Type) (enc : TypeId × Value → H) (F : Stop.Interp) :
    ReturnsInHanded {} Tryd.checked os 4 .any ((OpenSpec.ofChange Rows.fnExactHubTextSpec).preRow enc Tryd.prog Tryd.f4 Rows.fnExactHubTextRow.domain false Rows.fnExactHubTextRow.laid) (((OpenSpec.ofChange Rows.fnExactHubTextSpec).at F).post enc Tryd.prog Tryd.f4 false true false false) := by
  obtain ⟨places, hx⟩ := reads os enc
  refine returnsInHanded_of_row (C := Tryd.checked) (s := OpenSpec.ofChange Rows.fnExactHubTextSpec) own started (by kernel_rfl) Tryd.func4
    (witness_row_atRef (enc := enc) (C := Tryd.checked) false (World.laidAll Tryd.prog os Rows.fnExactHubTextRow.laid) #[.agg #[.int .i64 0, .int .i64 0, .int .i64 0, .int .i64 0, .int .i64 0]] rfl (by kernel_rfl) (by kernel_rfl) (by kernel_rfl)
      (OpenSpec.preRow_of_cond 8 hx (by kernel_rfl) (fun k hk => by cases hk) (by kernel_rfl) (laid_met os _))) ?_
  intro W base args ds gs before hval hW _ _ hsz hL hsh _
  exact contract H enc W base args ds gs before hval hW hsz hL hsh

theorem said : Rows.FnExactHubTextSaid :=
  OpenClaim.holds_of_cond 4 Tryd.f4 rfl rfl rfl rfl rfl rfl rfl ⟨rfl, rfl, rfl, rfl, rfl⟩ rfl rfl rfl rfl rfl (by kernel_rfl) Tryd.func4 (by kernel_rfl)
    (of_decide_eq_true (by kernel_rfl)) (by unfold Func.isWrapper; first | (rw [if_pos (by decide +kernel)]; kernel_rfl) | (rw [if_neg (by decide +kernel)]; exact ⟨rfl, rfl⟩))
    (fun os started H enc _ F => by rw [OpenClaim.pre_eq_preRow]; exact lifted os started H enc F)

theorem plain (f : FuncId) (fn : Func) (hf : Tryd.pinned.checked.prog.funcNamed "loop.example/g01050/laws.FnExactHubText" = some f) (hfn : Tryd.pinned.checked.prog.funcs[f]? = some fn) :
    true = Tryd.pinned.checked.prog.looks [] ∧ ∀ (j : Nat) t, fn.params[j]? = some t → Tryd.pinned.checked.prog.wantsStandIn t = false := by
  obtain rfl : f = 4 := Option.some.inj ((show Tryd.prog.funcNamed "loop.example/g01050/laws.FnExactHubText" = some 4 by kernel_rfl).symm.trans hf) |>.symm
  obtain rfl : fn = Tryd.f4 := (Option.some.inj (Tryd.func4.symm.trans hfn)).symm
  refine ⟨by kernel_rfl, fun j t ht => ?_⟩
  rw [Tryd.params4] at ht
  have hm : t ∈ [33] := by simpa using Array.mem_of_getElem? ht
  have hall : ([33].all fun u => !Tryd.prog.wantsStandIn u) = true := by kernel_rfl
  exact (show Tryd.prog.wantsStandIn t = false by simpa using List.all_eq_true.1 hall t hm)

theorem proved : Rows.FnExactHubTextCardSaid :=
  Claim7.holds_tied_plain_at .later [] _ _ _ _ said (fun _ h => by cases h) (by kernel_rfl) (fun _ h => by cases h) fnExactHubText_row_tie rfl ⟨rfl, rfl⟩ (by kernel_rfl) rfl plain (by kernel_rfl)
end Go.Proofs.YtcphhcnomaociabDoor.fnExactHubText
