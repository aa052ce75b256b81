/- FnExactReadWords holds: for every text, impl.ReadWords answers as spec.ReadWords, and its answer owns its memory. Condition: the package-level tables that the row lists hold what the text of the program lays in them (the tie of the card). -/
import Derived.Test.YtgdibahflhlakaaDoorCards
import Derived.Test.YtgdibahflhlakaaDoorTie
import Derived.Test.YtgdibahflhlakaaDoorOpen
import Derived.Test.YtgdibahflhlakaaDoorReadWords
import Derived.Test.YtgdibahflhlakaaDoorEqS
import Derived.Test.YtgdibahflhlakaaDoorMarks
import Derived.WalkKit
import Derived.ProofKit
import Derived.OpenShut
import Derived.ShutString
import Derived.SizedLaws
import Derived.Lay
import Derived.Deep.DeepHandedRow
import Derived.Deep.DeepWitnessRowRef
import Derived.SevenTiedAt
import Derived.MakeChecks
namespace Go.Proofs.YtgdibahflhlakaaDoor.fnExactReadWords
open Go.ChangeShapes Go.WideShapes Go.ChangeAt Go.RowKit
open Go.ChangeMaps (open_string shut_string)
set_option linter.unusedVariables false

theorem walk (s : ByteArray) (w : World) (hs0 : s.size ≤ maxLen) (hs1 : s.size ≤ 140737488351232) (hL : laidMetH Tryd.prog Rows.fnExactReadWordsRow.laid w) (hsh : w.ShapedOpen Tryd.prog) :
    Calls Tryd.prog 6 #[.string s] w fun e w' => e = .returned (.bool true) ∧ Below w.heap.size w w' := by
  have hm := HasMax.of_shape hsh
  clear hL hsh hs0
  by_cases hbig : (1048576 : Int) < s.size
  · go_enter Tryd.func6, Tryd.ntmps6
    go_wp2_with fail
    go_ret
    exact ⟨rfl, Below.refl _ _⟩
  · have hs : s.size ≤ 1048576 := by omega
    have h60 := readsW_len s
    have HSP := Go.Lib.hid (fun w0 => specReadWords s w0 hs)
    have HIM := Go.Lib.hid (fun w0 (h : HasMax w0) => implReadWords s w0 hs h)
    obtain ⟨r, hr⟩ : ∃ r, r = readsW s := ⟨_, rfl⟩
    rw [← hr] at h60 HSP HIM
    clear hr
    obtain ⟨zs, hzs⟩ : ∃ zs, zs = zsOf r := ⟨_, rfl⟩
    rw [← hzs] at h60
    have HZ := Go.Lib.hid hzs
    clear hzs
    have hmb := hm.lt
    go_enter Tryd.func6, Tryd.ntmps6
    go_wp2_with fail
    refine (HSP.out w).mono ?_
    intro e w1 hE1
    obtain ⟨A1, c1, rfl, o1, b1⟩ := hE1.one
    rw [← HZ.out] at o1 ⊢
    have s1 := b1.size
    go_wp2_with fail
    refine (HIM.out w1 (hm.below b1 hmb)).mono ?_
    intro e w2 hE2
    obtain ⟨A2, c2, rfl, o2, b2⟩ := hE2.one
    rw [← HZ.out] at o2 ⊢
    have s2 := b2.size
    have b02 := b1.trans (b2.mono s1)
    have o12 := o1.below b2 (Nat.le_refl _)
    clear hE1 hE2
    have HE := Go.Lib.hid (eqStrs_same A2 A1 zs.length c2 c1 zs _ _ _ _ w2 o2.rd o12.rd (by omega))
    go_wp2_with fail
    refine HE.out.mono ?_
    rintro e w3 ⟨rfl, m1, rfl⟩
    have HM := Go.Lib.hid (markStrs A2 zs.length c2 1 _ w1.heap.size w2.heap.size (w2.drewN m1) (o2.drewN m1) (by omega) (by omega) (by omega) (Nat.le_refl _))
    go_wp2_with fail
    refine HM.out.mono ?_
    rintro e w3 ⟨rfl, o3, k3⟩
    have s3 : w2.heap.size ≤ w3.heap.size := k3.size
    have o13 : Ow w3 w.heap.size w1.heap.size 9 A1 zs.length c1 (bas zs) := (o12.drewN m1).keep k3 s2 (.inl (Nat.le_refl _))
    have b03 : Below w.heap.size w w3 := (below_drewN b02 m1).trans (k3.below s1 (by show w.heap.size ≤ w2.heap.size; omega))
    have HH := Go.Lib.hid (heldStrs A2 zs.length c2 1 w1.heap.size w2.heap.size w3 o3.rd s3 (by omega) (by omega) (by omega))
    go_wp2_with fail
    refine HH.out.mono ?_
    rintro e w4 ⟨rfl, b4⟩
    have s4 := b4.size
    have b04 : Below w.heap.size w w4 := b03.trans (b4.mono (by omega))
    have o14 := o13.below b4 (by omega)
    have o34 := o3.below b4 s3
    go_wp2_with fail
    refine (HIM.out w4 (hm.below b04 hmb)).mono ?_
    intro e w5 hE5
    obtain ⟨A5, c5, rfl, o5, b5⟩ := hE5.one
    rw [← HZ.out] at o5 ⊢
    clear hE5
    have s5 := b5.size
    have b05 : Below w.heap.size w w5 := b04.trans (b5.mono (by omega))
    have o15 := o14.below b5 (by omega)
    have o35 := o34.below b5 (by omega)
    have HE5 := Go.Lib.hid (eqStrs_same A5 A1 zs.length c5 c1 zs _ _ _ _ w5 o5.rd o15.rd (by omega))
    go_wp2_with fail
    refine HE5.out.mono ?_
    rintro e w6 ⟨rfl, m2, rfl⟩
    have HH6 := Go.Lib.hid (heldStrs A2 zs.length c2 1 w1.heap.size w2.heap.size (w5.drewN m2) (o35.drewN m2).rd (by show w2.heap.size ≤ w5.heap.size; omega) (by omega) (by omega) (by omega))
    go_wp2_with fail
    refine HH6.out.mono ?_
    rintro e w7 ⟨rfl, b7⟩
    go_wp2_with fail
    go_ret
    exact ⟨rfl, (below_drewN b05 m2).trans (b7.mono (by show w.heap.size ≤ w5.heap.size; omega))⟩

set_option maxRecDepth 100000 in
theorem contract (H : Type) (enc : TypeId × Value → H) (W : World) (base : Nat) (args : Array Value) (ds gs : List (DataW H)) (before : List MemPlace)
    (hval : ∀ (j : Nat) t v, Tryd.f6.params[j]? = some t → args[j]? = some v → Value.okWide Tryd.prog W .any base t v)
    (hW : DataW.Whole enc Tryd.prog Tryd.f6.params.toList Rows.fnExactReadWordsSpec.vars false W args.toList ds gs before) (hsz : (DataW.weightsEach Tryd.prog (Tryd.f6.params.toList ++ Rows.fnExactReadWordsSpec.plain.varTypes Tryd.prog) (ds ++ gs)).all (· ≤ reachBytes) = true) (hL : laidMetH Tryd.prog Rows.fnExactReadWordsRow.laid W) (hsh : W.ShapedOpen Tryd.prog) :
    Calls Tryd.prog 6 args W fun e W' => ∃ v, e = .returned v ∧ Rows.fnExactReadWordsSpec.post enc Tryd.prog Tryd.f6 false true false false W args v W' := by
  have hW' := hW
  obtain ⟨p, q, hA0, hV, rfl, hfz, hnd⟩ := hW
  have hA : DataW.TrodAll enc Tryd.prog W 0 (fun _ => true) true Tryd.f6.params.toList args.toList ds p := hA0
  rw [Tryd.params6] at hA hval hsz
  obtain ⟨v0, vs0, d0, ds0, p0, q0, hargs, rfl, rfl, h0, r0⟩ := trodAll_cons hA
  obtain ⟨rfl, rfl, rfl⟩ := trodAll_nil r0
  obtain rfl : args = #[v0] := by cases args; simp_all
  obtain ⟨rfl, rfl⟩ := trodVars_none hV
  obtain ⟨a0, rfl, rfl, rfl, w0⟩ := open_string Tryd.underlying9 (hval 0 9 v0 rfl rfl) h0
  have e0 : a0.size ≤ 140737488351232 := by
    have := sized_string hsz (j := 0) (t := 9) (bytes := a0.data.toList) rfl rfl
    simpa [reachBytes] using this
  clear hA0
  refine (walk a0 W w0 e0 hL hsh).mono fun e W' ⟨he, bel⟩ => ?_
  subst he
  exact ⟨_, rfl, _, _, _, [], _, [], hW', trodAll_mk1 (shut_bool Tryd.underlying4 _), (trodAll_cons_mk (shut_string Tryd.underlying9 w0) trodAll_mk0), rfl, bel.frame _, fun h => by cases h⟩

theorem laid_met (os : Os) (args : Array Value) : laidMetH Tryd.prog Rows.fnExactReadWordsRow.laid ((World.laidAll Tryd.prog os Rows.fnExactReadWordsRow.laid).forCall (fun _ _ => 0) ⟨#[], args, []⟩).memory := by
  rw [MakeChecks.laidMetH_plain _ _ _ (by kernel_rfl)]
  exact laidMet_laidAll _ (by kernel_rfl) (by kernel_rfl)
theorem reads (os : Os) {H : Type} (enc : TypeId × Value → H) : ∃ places, DataW.whole enc Tryd.prog ((World.laidAll Tryd.prog os Rows.fnExactReadWordsRow.laid).forCall (fun _ _ => 0) ⟨#[], #[.string ByteArray.empty], []⟩).memory Tryd.f6.params.toList Rows.fnExactReadWordsSpec.vars false #[Value.string ByteArray.empty].toList 8 = some ([.lit (.string [])], [], places) :=
  ⟨[], by kernel_rfl⟩

set_option maxRecDepth 100000 in
theorem lifted (os : Os) (started : os.Started) (H : Type) (enc : TypeId × Value → H) (F : Stop.Interp) :
    ReturnsInHanded {} Tryd.checked os 6 .any ((OpenSpec.ofChange Rows.fnExactReadWordsSpec).preRow enc Tryd.prog Tryd.f6 Rows.fnExactReadWordsRow.domain false Rows.fnExactReadWordsRow.laid) (((OpenSpec.ofChange Rows.fnExactReadWordsSpec).at F).post enc Tryd.prog Tryd.f6 false true false false) := by
  obtain ⟨places, hx⟩ := reads os enc
  refine returnsInHanded_of_row (C := Tryd.checked) (s := OpenSpec.ofChange Rows.fnExactReadWordsSpec) own started (by kernel_rfl) Tryd.func6
    (witness_row_atRef (enc := enc) (C := Tryd.checked) false (World.laidAll Tryd.prog os Rows.fnExactReadWordsRow.laid) #[.string ByteArray.empty] rfl (by kernel_rfl) (by kernel_rfl) (by kernel_rfl)
      (OpenSpec.preRow_of_cond 8 hx (by kernel_rfl) (fun k hk => by cases hk) (by kernel_rfl) (laid_met os _))) ?_
  intro W base args ds gs before hval hW _ _ hsz hL hsh _
  exact contract H enc W base args ds gs before hval hW hsz hL hsh

theorem said : Rows.FnExactReadWordsSaid :=
  OpenClaim.holds_of_cond 6 Tryd.f6 rfl rfl rfl rfl rfl rfl rfl ⟨rfl, rfl, rfl, rfl, rfl⟩ rfl rfl rfl rfl rfl (by kernel_rfl) Tryd.func6 (by kernel_rfl)
    (of_decide_eq_true (by kernel_rfl)) (by unfold Func.isWrapper; first | (rw [if_pos (by decide +kernel)]; kernel_rfl) | (rw [if_neg (by decide +kernel)]; exact ⟨rfl, rfl⟩))
    (fun os started H enc _ F => by rw [OpenClaim.pre_eq_preRow]; exact lifted os started H enc F)

theorem plain (f : FuncId) (fn : Func) (hf : Tryd.pinned.checked.prog.funcNamed "loop.example/g01050/laws.FnExactReadWords" = some f) (hfn : Tryd.pinned.checked.prog.funcs[f]? = some fn) :
    true = Tryd.pinned.checked.prog.looks [] ∧ ∀ (j : Nat) t, fn.params[j]? = some t → Tryd.pinned.checked.prog.wantsStandIn t = false := by
  obtain rfl : f = 6 := Option.some.inj ((show Tryd.prog.funcNamed "loop.example/g01050/laws.FnExactReadWords" = some 6 by kernel_rfl).symm.trans hf) |>.symm
  obtain rfl : fn = Tryd.f6 := (Option.some.inj (Tryd.func6.symm.trans hfn)).symm
  refine ⟨by kernel_rfl, fun j t ht => ?_⟩
  rw [Tryd.params6] at ht
  have hm : t ∈ [9] := by simpa using Array.mem_of_getElem? ht
  have hall : ([9].all fun u => !Tryd.prog.wantsStandIn u) = true := by kernel_rfl
  exact (show Tryd.prog.wantsStandIn t = false by simpa using List.all_eq_true.1 hall t hm)

theorem proved : Rows.FnExactReadWordsCardSaid :=
  Claim7.holds_tied_plain_at .later [] _ _ _ _ said (fun _ h => by cases h) (by kernel_rfl) (fun _ h => by cases h) fnExactReadWords_row_tie rfl ⟨rfl, rfl⟩ (by kernel_rfl) rfl plain (by kernel_rfl)
end Go.Proofs.YtgdibahflhlakaaDoor.fnExactReadWords
