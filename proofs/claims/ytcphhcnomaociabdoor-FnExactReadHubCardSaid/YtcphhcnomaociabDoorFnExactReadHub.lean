/- laws.FnExactReadHub answers true for every text: ReadHub answers as its model. Condition: the listed package-level variables hold what the text of the program lays in them. -/
import Derived.Test.YtcphhcnomaociabDoorCards
import Derived.Test.YtcphhcnomaociabDoorTie
import Derived.Test.YtcphhcnomaociabDoorHubTImpl
import Derived.Test.YtcphhcnomaociabDoorLawHub
import Derived.Test.YtcphhcnomaociabDoorBox
import Derived.Test.YtcphhcnomaociabDoorOpen
import Derived.WalkKit
import Derived.ProofKit
import Derived.OpenShut
import Derived.ShutString
import Derived.SizedLaws
import Derived.Lay
import Derived.Deep.DeepHandedRow
import Derived.Deep.DeepWitnessRowRef
import Derived.SevenTiedAt
import Derived.MakeChecks
namespace Go.Proofs.YtcphhcnomaociabDoor.fnExactReadHub
open Go.ChangeShapes Go.WideShapes Go.ChangeAt Go.RowKit
open Go.ChangeMaps (open_string shut_string)
set_option linter.unusedVariables false

theorem isErr_S : (Rows.fnExactReadHubRow.laid.filter isErrS) = [("strconv.ErrSyntax", Rows.laid_strconv_ErrSyntax)] := by kernel_rfl
theorem isErr_R : (Rows.fnExactReadHubRow.laid.filter isErrR) = [("strconv.ErrRange", Rows.laid_strconv_ErrRange)] := by kernel_rfl
theorem errs {w : World} (hL : laidMetH Tryd.prog Rows.fnExactReadHubRow.laid w) : HasErrs w := by
  rw [MakeChecks.laidMetH_plain _ _ _ (by kernel_rfl)] at hL
  refine ⟨err_cell (List.mem_filter.1 (by rw [isErr_S]; exact List.mem_cons_self)).1 rfl (by kernel_rfl) (by kernel_rfl) Tryd.underlying67 hL, err_cell (List.mem_filter.1 (by rw [isErr_R]; exact List.mem_cons_self)).1 rfl (by kernel_rfl) (by kernel_rfl) Tryd.underlying67 hL⟩
set_option maxRecDepth 100000 in
set_option maxHeartbeats 4000000 in
theorem walk (s : ByteArray) (w : World) (hs0 : s.size ≤ maxLen) (hs9 : s.size ≤ 140737488351232) (hL : laidMetH Tryd.prog Rows.fnExactReadHubRow.laid w) (hsh : w.ShapedOpen Tryd.prog) :
    Calls Tryd.prog 5 #[.string s] w fun e w' => e = .returned (.bool true) ∧ Below w.heap.size w w' := by
  clear hs0 hs9
  have hm := HasMax.of_shape hsh
  have ht : Tab w := tab_of_laid (by kernel_rfl) (by kernel_rfl) hL
  have he := errs hL
  clear hL hsh
  by_cases hbig : (1048576 : Int) < s.size
  · go_enter Tryd.func5, Tryd.ntmps5
    go_wp2_with fail
    go_ret
    exact ⟨rfl, Below.refl _ _⟩
  · have hs : s.size ≤ 1048576 := by omega
    have HS := Go.Lib.hid (fun w0 => specReadHub s w0 hs)
    have HI := Go.Lib.hid (fun w0 (hb : Below w.heap.size w w0) => implReadHub s w0 hs (hm.below hb hm.lt) (ht.below hb) (he.below hb))
    generalize readA s.data.toList = p at HS HI
    obtain ⟨m, c⟩ := p
    have HE := Go.Lib.hid (fun w0 => law_eqHub m w0)
    clear hm ht he
    have B0 : Below w.heap.size w w := Below.refl _ _
    go_enter Tryd.func5, Tryd.ntmps5
    go_wp2_with fail
    refine (HS.out _).mono ?_
    rintro _ W1 ⟨rfl, b1⟩
    have B1 := upB B0 b1
    clear b1  B0
    go_upto_region 4 with fail
    refine wp_gen (R := fun w' => Box w' W1.heap.size [.int .i64 m.n, .int .i64 m.l, .int .i64 m.r, .int .i64 m.a, .int .i64 m.b] ∧ Below w.heap.size w w') ⟨Box.new rfl rfl, B1.alloc B1.size _⟩ ?_
    rintro W2 ⟨K2_0, B2⟩
    clear B1
    go_wp2_with fail
    refine (HI.out _ B2).mono ?_
    rintro _ W3 ⟨rfl, b3⟩
    have K3_0 := K2_0.below b3
    have B3 := upB B2 b3
    clear b3 K2_0 B2
    go_upto_region 5 with fail
    refine wp_gen (R := fun w' => Box w' W1.heap.size [.int .i64 m.n, .int .i64 m.l, .int .i64 m.r, .int .i64 m.a, .int .i64 m.b] ∧ Box w' W3.heap.size [.int .i64 m.n, .int .i64 m.l, .int .i64 m.r, .int .i64 m.a, .int .i64 m.b] ∧ Below w.heap.size w w') ⟨K3_0.alloc _, Box.new rfl rfl, B3.alloc B3.size _⟩ ?_
    rintro W4 ⟨K4_0, K4_1, B4⟩
    clear K3_0 B3
    have k4_0_0 := K4_0.at_ 0 _ rfl
    have k4_0_1 := K4_0.at_ 1 _ rfl
    have k4_0_2 := K4_0.at_ 2 _ rfl
    have k4_0_3 := K4_0.at_ 3 _ rfl
    have k4_0_4 := K4_0.at_ 4 _ rfl
    have k4_0_f := K4_0.fr
    have k4_0_l := K4_0.lt
    have k4_1_0 := K4_1.at_ 0 _ rfl
    have k4_1_1 := K4_1.at_ 1 _ rfl
    have k4_1_2 := K4_1.at_ 2 _ rfl
    have k4_1_3 := K4_1.at_ 3 _ rfl
    have k4_1_4 := K4_1.at_ 4 _ rfl
    have k4_1_f := K4_1.fr
    have k4_1_l := K4_1.lt
    go_wp2_with fail
    refine (HE.out _).mono ?_
    rintro _ W5 ⟨rfl, b5⟩
    have K5_0 := K4_0.below b5
    have K5_1 := K4_1.below b5
    clear k4_0_0 k4_0_1 k4_0_2 k4_0_3 k4_0_4 k4_0_f k4_0_l k4_1_0 k4_1_1 k4_1_2 k4_1_3 k4_1_4 k4_1_f k4_1_l
    have B5 := upB B4 b5
    clear b5 K4_0 K4_1 B4
    go_wp2_with fail
    go_ret
    exact ⟨rfl, B5⟩

set_option maxRecDepth 100000 in
theorem contract (H : Type) (enc : TypeId × Value → H) (W : World) (base : Nat) (args : Array Value) (ds gs : List (DataW H)) (before : List MemPlace)
    (hval : ∀ (j : Nat) t v, Tryd.f5.params[j]? = some t → args[j]? = some v → Value.okWide Tryd.prog W .any base t v)
    (hW : DataW.Whole enc Tryd.prog Tryd.f5.params.toList Rows.fnExactReadHubSpec.vars false W args.toList ds gs before) (hsz : (DataW.weightsEach Tryd.prog (Tryd.f5.params.toList ++ Rows.fnExactReadHubSpec.plain.varTypes Tryd.prog) (ds ++ gs)).all (· ≤ reachBytes) = true) (hL : laidMetH Tryd.prog Rows.fnExactReadHubRow.laid W) (hsh : W.ShapedOpen Tryd.prog) :
    Calls Tryd.prog 5 args W fun e W' => ∃ v, e = .returned v ∧ Rows.fnExactReadHubSpec.post enc Tryd.prog Tryd.f5 false true false false W args v W' := by
  have hW' := hW
  obtain ⟨p, q, hA0, hV, rfl, hfz, hnd⟩ := hW
  have hA : DataW.TrodAll enc Tryd.prog W 0 (fun _ => true) true Tryd.f5.params.toList args.toList ds p := hA0
  rw [Tryd.params5] at hA hval hsz
  obtain ⟨v0, vs0, d0, ds0, p0, q0, hargs, rfl, rfl, h0, r0⟩ := trodAll_cons hA
  obtain ⟨rfl, rfl, rfl⟩ := trodAll_nil r0
  obtain rfl : args = #[v0] := by cases args; simp_all
  obtain ⟨rfl, rfl⟩ := trodVars_none hV
  obtain ⟨a0, rfl, rfl, rfl, w0⟩ := open_string Tryd.underlying9 (hval 0 9 v0 rfl rfl) h0
  have e0 : a0.size ≤ 140737488351232 := by
    have := sized_string hsz (j := 0) (t := 9) (bytes := a0.data.toList) rfl rfl
    simpa [reachBytes] using this
  clear hA0
  refine (walk a0 W w0 e0 hL hsh).mono fun e W' ⟨he, bel⟩ => ?_
  subst he
  exact ⟨_, rfl, _, _, _, [], _, [], hW', trodAll_mk1 (shut_bool Tryd.underlying4 _), (trodAll_cons_mk (shut_string Tryd.underlying9 w0) trodAll_mk0), rfl, bel.frame _, fun h => by cases h⟩

theorem laid_met (os : Os) (args : Array Value) : laidMetH Tryd.prog Rows.fnExactReadHubRow.laid ((World.laidAll Tryd.prog os Rows.fnExactReadHubRow.laid).forCall (fun _ _ => 0) ⟨#[], args, []⟩).memory := by
  rw [MakeChecks.laidMetH_plain _ _ _ (by kernel_rfl)]
  exact laidMet_laidAll _ (by kernel_rfl) (by kernel_rfl)
theorem reads (os : Os) {H : Type} (enc : TypeId × Value → H) : ∃ places, DataW.whole enc Tryd.prog ((World.laidAll Tryd.prog os Rows.fnExactReadHubRow.laid).forCall (fun _ _ => 0) ⟨#[], #[.string ByteArray.empty], []⟩).memory Tryd.f5.params.toList Rows.fnExactReadHubSpec.vars false #[Value.string ByteArray.empty].toList 8 = some ([.lit (.string [])], [], places) :=
  ⟨[], by kernel_rfl⟩

set_option maxRecDepth 100000 in
theorem lifted (os : Os) (started : os.Started) (H : Type) (enc : TypeId × Value → H) (F : Stop.Interp) :
    ReturnsInHanded {} Tryd.checked os 5 .any ((OpenSpec.ofChange Rows.fnExactReadHubSpec).preRow enc Tryd.prog Tryd.f5 Rows.fnExactReadHubRow.domain false Rows.fnExactReadHubRow.laid) (((OpenSpec.ofChange Rows.fnExactReadHubSpec).at F).post enc Tryd.prog Tryd.f5 false true false false) := by
  obtain ⟨places, hx⟩ := reads os enc
  refine returnsInHanded_of_row (C := Tryd.checked) (s := OpenSpec.ofChange Rows.fnExactReadHubSpec) own started (by kernel_rfl) Tryd.func5
    (witness_row_atRef (enc := enc) (C := Tryd.checked) false (World.laidAll Tryd.prog os Rows.fnExactReadHubRow.laid) #[.string ByteArray.empty] rfl (by kernel_rfl) (by kernel_rfl) (by kernel_rfl)
      (OpenSpec.preRow_of_cond 8 hx (by kernel_rfl) (fun k hk => by cases hk) (by kernel_rfl) (laid_met os _))) ?_
  intro W base args ds gs before hval hW _ _ hsz hL hsh _
  exact contract H enc W base args ds gs before hval hW hsz hL hsh

theorem said : Rows.FnExactReadHubSaid :=
  OpenClaim.holds_of_cond 5 Tryd.f5 rfl rfl rfl rfl rfl rfl rfl ⟨rfl, rfl, rfl, rfl, rfl⟩ rfl rfl rfl rfl rfl (by kernel_rfl) Tryd.func5 (by kernel_rfl)
    (of_decide_eq_true (by kernel_rfl)) (by unfold Func.isWrapper; first | (rw [if_pos (by decide +kernel)]; kernel_rfl) | (rw [if_neg (by decide +kernel)]; exact ⟨rfl, rfl⟩))
    (fun os started H enc _ F => by rw [OpenClaim.pre_eq_preRow]; exact lifted os started H enc F)

theorem plain (f : FuncId) (fn : Func) (hf : Tryd.pinned.checked.prog.funcNamed "loop.example/g01050/laws.FnExactReadHub" = some f) (hfn : Tryd.pinned.checked.prog.funcs[f]? = some fn) :
    true = Tryd.pinned.checked.prog.looks [] ∧ ∀ (j : Nat) t, fn.params[j]? = some t → Tryd.pinned.checked.prog.wantsStandIn t = false := by
  obtain rfl : f = 5 := Option.some.inj ((show Tryd.prog.funcNamed "loop.example/g01050/laws.FnExactReadHub" = some 5 by kernel_rfl).symm.trans hf) |>.symm
  obtain rfl : fn = Tryd.f5 := (Option.some.inj (Tryd.func5.symm.trans hfn)).symm
  refine ⟨by kernel_rfl, fun j t ht => ?_⟩
  rw [Tryd.params5] at ht
  have hm : t ∈ [9] := by simpa using Array.mem_of_getElem? ht
  have hall : ([9].all fun u => !Tryd.prog.wantsStandIn u) = true := by kernel_rfl
  exact (show Tryd.prog.wantsStandIn t = false by simpa using List.all_eq_true.1 hall t hm)

theorem proved : Rows.FnExactReadHubCardSaid :=
  Claim7.holds_tied_plain_at .later [] _ _ _ _ said (fun _ h => by cases h) (by kernel_rfl) (fun _ h => by cases h) fnExactReadHub_row_tie rfl ⟨rfl, rfl⟩ (by kernel_rfl) rfl plain (by kernel_rfl)
end Go.Proofs.YtcphhcnomaociabDoor.fnExactReadHub
