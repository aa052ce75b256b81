/- FnExactReadInterval holds: at every text, impl.ReadInterval answers as spec.ReadInterval. -/
import Derived.Test.YtcknknicknolaabDoorCards
import Derived.Test.YtcknknicknolaabDoorTie
import Derived.Test.YtcknknicknolaabDoorOpenS
import Derived.Test.YtcknknicknolaabDoorReadIv2
import Derived.Test.YtcknknicknolaabDoorLawIv
import Derived.WalkKit
import Derived.ProofKit
import Derived.OpenShut
import Derived.ShutString
import Derived.SizedLaws
import Derived.Lay
import Derived.Deep.DeepHandedRow
import Derived.Deep.DeepWitnessRowRef
import Derived.SevenTiedAt
import Derived.MakeChecks
namespace Go.Proofs.YtcknknicknolaabDoor.fnExactReadInterval
open Go.ChangeShapes Go.WideShapes Go.ChangeAt Go.RowKit
open Go.ChangeMaps (open_string shut_string)
set_option linter.unusedVariables false

theorem isErr_S : (Rows.fnExactReadIntervalRow.laid.filter isErrS) = [("strconv.ErrSyntax", Rows.laid_strconv_ErrSyntax)] := by kernel_rfl
theorem isErr_R : (Rows.fnExactReadIntervalRow.laid.filter isErrR) = [("strconv.ErrRange", Rows.laid_strconv_ErrRange)] := by kernel_rfl
theorem errs {w : World} (hL : laidMetH Tryd.prog Rows.fnExactReadIntervalRow.laid w) : HasErrs w := by
  rw [MakeChecks.laidMetH_plain _ _ _ (by kernel_rfl)] at hL
  refine ⟨err_cell (List.mem_filter.1 (by rw [isErr_S]; exact List.mem_cons_self)).1 rfl (by kernel_rfl) (by kernel_rfl) Tryd.underlying66 hL, err_cell (List.mem_filter.1 (by rw [isErr_R]; exact List.mem_cons_self)).1 rfl (by kernel_rfl) (by kernel_rfl) Tryd.underlying66 hL⟩

set_option maxRecDepth 100000 in
theorem walk (s : ByteArray) (w : World) (hs0 : s.size ≤ maxLen) (hs1 : s.size ≤ 140737488351232) (hL : laidMetH Tryd.prog Rows.fnExactReadIntervalRow.laid w) (hsh : w.ShapedOpen Tryd.prog) :
    Calls Tryd.prog 8 #[.string s] w fun e w' => e = .returned (.bool true) ∧ Below w.heap.size w w' := by
  have hm := HasMax.of_shape hsh
  have ht : Tab w := tab_of_laid (by kernel_rfl) (by kernel_rfl) hL
  have he := errs hL
  clear hL hsh hs0
  by_cases hbig : (1048576 : Int) < s.size
  · go_enter Tryd.func8, Tryd.ntmps8
    go_wp2_with fail
    go_ret
    exact ⟨rfl, Below.refl _ _⟩
  · have hs : s.size ≤ 1048576 := by omega
    obtain ⟨x, y, z, hr⟩ : ∃ x y z : Int, ∀ w0 e w', ReadIEnd w0 (readsI s.data.toList) e w' → e = .returned (.tuple #[ivV x y, .int .i64 z]) ∧ Below w0.heap.size w0 w' := by
      cases readsI s.data.toList with
      | none => exact ⟨0, 0, 6, fun _ _ _ h => ⟨h.2, h.1⟩⟩
      | some p => exact ⟨p.1, p.2, 0, fun _ _ _ h => ⟨h.2, h.1⟩⟩
    have HSP := Go.Lib.hid ((specReadInterval s w hs).mono fun e w' h => hr _ _ _ h)
    have HIM := Go.Lib.hid (fun w0 (h : Below w.heap.size w w0) => (implReadInterval s w0 hs (hm.below h hm.lt) (ht.below h) (he.below h)).mono fun e w' h => hr _ _ _ h)
    clear hr hm ht he
    go_enter Tryd.func8, Tryd.ntmps8
    go_wp2_with fail
    refine HSP.out.mono ?_
    rintro e w1 ⟨rfl, b1⟩
    have U1 := Go.Lib.hid ((⟨b1, fun v hv => by cases hv⟩ : VCtx w [] w1).var (x := x) (y := y) 31)
    clear b1
    go_wp2_with fail
    obtain ⟨q3, hq⟩ : ∃ q, q = w1.heap.size := ⟨_, rfl⟩
    rw [← hq] at U1 ⊢
    generalize w1.alloc (.cells #[.int .i64 x, .int .i64 y] 31) = w2 at U1 ⊢
    clear hq
    refine (HIM.out w2 U1.out.below).mono ?_
    rintro e w3 ⟨rfl, b3⟩
    have U3 := Go.Lib.hid (U1.out.step b3)
    have U4 := Go.Lib.hid (U3.out.var (x := x) (y := y) 31)
    have fa := U3.out.c0 (r := q3) (x := x) (y := y) (by simp)
    have fb := U3.out.c1 (r := q3) (x := x) (y := y) (by simp)
    have fl := U3.out.lt (r := q3) (x := x) (y := y) (by simp)
    clear b3 U1
    go_wp2_with fail
    refine (eqIv x y _).mono ?_
    rintro e w5 ⟨rfl, b5⟩
    have U5 := Go.Lib.hid (U4.out.step b5)
    clear fa fb fl b5 U3 U4
    go_wp2_with fail
    go_ret
    exact ⟨rfl, U5.out.below⟩

set_option maxRecDepth 100000 in
theorem contract (H : Type) (enc : TypeId × Value → H) (W : World) (base : Nat) (args : Array Value) (ds gs : List (DataW H)) (before : List MemPlace)
    (hval : ∀ (j : Nat) t v, Tryd.f8.params[j]? = some t → args[j]? = some v → Value.okWide Tryd.prog W .any base t v)
    (hW : DataW.Whole enc Tryd.prog Tryd.f8.params.toList Rows.fnExactReadIntervalSpec.vars false W args.toList ds gs before) (hsz : (DataW.weightsEach Tryd.prog (Tryd.f8.params.toList ++ Rows.fnExactReadIntervalSpec.plain.varTypes Tryd.prog) (ds ++ gs)).all (· ≤ reachBytes) = true) (hL : laidMetH Tryd.prog Rows.fnExactReadIntervalRow.laid W) (hsh : W.ShapedOpen Tryd.prog) :
    Calls Tryd.prog 8 args W fun e W' => ∃ v, e = .returned v ∧ Rows.fnExactReadIntervalSpec.post enc Tryd.prog Tryd.f8 false true false false W args v W' := by
  have hW' := hW
  obtain ⟨p, q, hA0, hV, rfl, hfz, hnd⟩ := hW
  have hA : DataW.TrodAll enc Tryd.prog W 0 (fun _ => true) true Tryd.f8.params.toList args.toList ds p := hA0
  rw [Tryd.params8] at hA hval hsz
  obtain ⟨v0, vs0, d0, ds0, p0, q0, hargs, rfl, rfl, h0, r0⟩ := trodAll_cons hA
  obtain ⟨rfl, rfl, rfl⟩ := trodAll_nil r0
  obtain rfl : args = #[v0] := by cases args; simp_all
  obtain ⟨rfl, rfl⟩ := trodVars_none hV
  obtain ⟨a0, rfl, rfl, rfl, w0⟩ := open_string Tryd.underlying9 (hval 0 9 v0 rfl rfl) h0
  have e0 : a0.size ≤ 140737488351232 := by
    have := sized_string hsz (j := 0) (t := 9) (bytes := a0.data.toList) rfl rfl
    simpa [reachBytes] using this
  clear hA0
  refine (walk a0 W w0 e0 hL hsh).mono fun e W' ⟨he, bel⟩ => ?_
  subst he
  exact ⟨_, rfl, _, _, _, [], _, [], hW', trodAll_mk1 (shut_bool Tryd.underlying4 _), (trodAll_cons_mk (shut_string Tryd.underlying9 w0) trodAll_mk0), rfl, bel.frame _, fun h => by cases h⟩

theorem laid_met (os : Os) (args : Array Value) : laidMetH Tryd.prog Rows.fnExactReadIntervalRow.laid ((World.laidAll Tryd.prog os Rows.fnExactReadIntervalRow.laid).forCall (fun _ _ => 0) ⟨#[], args, []⟩).memory := by
  rw [MakeChecks.laidMetH_plain _ _ _ (by kernel_rfl)]
  exact laidMet_laidAll _ (by kernel_rfl) (by kernel_rfl)
theorem reads (os : Os) {H : Type} (enc : TypeId × Value → H) : ∃ places, DataW.whole enc Tryd.prog ((World.laidAll Tryd.prog os Rows.fnExactReadIntervalRow.laid).forCall (fun _ _ => 0) ⟨#[], #[.string ByteArray.empty], []⟩).memory Tryd.f8.params.toList Rows.fnExactReadIntervalSpec.vars false #[Value.string ByteArray.empty].toList 8 = some ([.lit (.string [])], [], places) :=
  ⟨[], by kernel_rfl⟩

set_option maxRecDepth 100000 in
theorem lifted (os : Os) (started : os.Started) (H : Type) (enc : TypeId × Value → H) (F : Stop.Interp) :
    ReturnsInHanded {} Tryd.checked os 8 .any ((OpenSpec.ofChange Rows.fnExactReadIntervalSpec).preRow enc Tryd.prog Tryd.f8 Rows.fnExactReadIntervalRow.domain false Rows.fnExactReadIntervalRow.laid) (((OpenSpec.ofChange Rows.fnExactReadIntervalSpec).at F).post enc Tryd.prog Tryd.f8 false true false false) := by
  obtain ⟨places, hx⟩ := reads os enc
  refine returnsInHanded_of_row (C := Tryd.checked) (s := OpenSpec.ofChange Rows.fnExactReadIntervalSpec) own started (by kernel_rfl) Tryd.func8
    (witness_row_atRef (enc := enc) (C := Tryd.checked) false (World.laidAll Tryd.prog os Rows.fnExactReadIntervalRow.laid) #[.string ByteArray.empty] rfl (by kernel_rfl) (by kernel_rfl) (by kernel_rfl)
      (OpenSpec.preRow_of_cond 8 hx (by kernel_rfl) (fun k hk => by cases hk) (by kernel_rfl) (laid_met os _))) ?_
  intro W base args ds gs before hval hW _ _ hsz hL hsh _
  exact contract H enc W base args ds gs before hval hW hsz hL hsh

theorem said : Rows.FnExactReadIntervalSaid :=
  OpenClaim.holds_of_cond 8 Tryd.f8 rfl rfl rfl rfl rfl rfl rfl ⟨rfl, rfl, rfl, rfl, rfl⟩ rfl rfl rfl rfl rfl (by kernel_rfl) Tryd.func8 (by kernel_rfl)
    (of_decide_eq_true (by kernel_rfl)) (by unfold Func.isWrapper; first | (rw [if_pos (by decide +kernel)]; kernel_rfl) | (rw [if_neg (by decide +kernel)]; exact ⟨rfl, rfl⟩))
    (fun os started H enc _ F => by rw [OpenClaim.pre_eq_preRow]; exact lifted os started H enc F)

theorem plain (f : FuncId) (fn : Func) (hf : Tryd.pinned.checked.prog.funcNamed "loop.example/g01050/laws.FnExactReadInterval" = some f) (hfn : Tryd.pinned.checked.prog.funcs[f]? = some fn) :
    true = Tryd.pinned.checked.prog.looks [] ∧ ∀ (j : Nat) t, fn.params[j]? = some t → Tryd.pinned.checked.prog.wantsStandIn t = false := by
  obtain rfl : f = 8 := Option.some.inj ((show Tryd.prog.funcNamed "loop.example/g01050/laws.FnExactReadInterval" = some 8 by kernel_rfl).symm.trans hf) |>.symm
  obtain rfl : fn = Tryd.f8 := (Option.some.inj (Tryd.func8.symm.trans hfn)).symm
  refine ⟨by kernel_rfl, fun j t ht => ?_⟩
  rw [Tryd.params8] at ht
  have hm : t ∈ [9] := by simpa using Array.mem_of_getElem? ht
  have hall : ([9].all fun u => !Tryd.prog.wantsStandIn u) = true := by kernel_rfl
  exact (show Tryd.prog.wantsStandIn t = false by simpa using List.all_eq_true.1 hall t hm)

theorem proved : Rows.FnExactReadIntervalCardSaid :=
  Claim7.holds_tied_plain_at .later [] _ _ _ _ said (fun _ h => by cases h) (by kernel_rfl) (fun _ h => by cases h) fnExactReadInterval_row_tie rfl ⟨rfl, rfl⟩ (by kernel_rfl) rfl plain (by kernel_rfl)
end Go.Proofs.YtcknknicknolaabDoor.fnExactReadInterval
