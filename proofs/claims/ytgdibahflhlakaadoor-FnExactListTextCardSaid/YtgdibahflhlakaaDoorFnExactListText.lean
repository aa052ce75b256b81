/- FnExactListText holds: for every list of numbers, impl.ListText answers as spec.ListText and leaves its argument as it is. Condition: the package-level tables that the row lists hold what the text of the program lays in them (the tie of the card). -/
import Derived.Test.YtgdibahflhlakaaDoorCards
import Derived.Test.YtgdibahflhlakaaDoorTie
import Derived.Test.YtgdibahflhlakaaDoorTab
import Derived.Test.YtgdibahflhlakaaDoorListText
import Derived.Test.YtgdibahflhlakaaDoorInts
import Derived.Test.YtgdibahflhlakaaDoorOpenI
import Derived.WalkKit
import Derived.ProofKit
import Derived.OpenShut
import Derived.ShutString
import Derived.SizedLaws
import Derived.LaidMore
import Derived.Deep.DeepHandedRow
import Derived.Deep.DeepWitnessRowRef
import Derived.SevenTiedAt
import Derived.MakeChecks
namespace Go.Proofs.YtgdibahflhlakaaDoor.fnExactListText
open Go.ChangeShapes Go.WideShapes Go.ChangeAt Go.RowKit
open Go.ChangeMaps (open_string shut_string)
set_option linter.unusedVariables false

theorem walk (A : Option Addr) (n cap : Nat) (zs : List Int) (w : World) (h : Rd w 0 w.heap.size A n (ints zs)) (hn : n * 8 ≤ 140737488351232) (hL : laidMetH Tryd.prog Rows.fnExactListTextRow.laid w) (hsh : w.ShapedOpen Tryd.prog) :
    Calls Tryd.prog 7 #[.slice A n cap] w fun e w' => e = .returned (.bool true) ∧ Below w.heap.size w w' := by
  have hz : zs.length = n := by have := h.len; rwa [ints_len] at this
  subst hz
  have ht : Tab w := tab_of_laid (by kernel_rfl) (by kernel_rfl) hL
  clear hL hsh
  have hn' : zs.length ≤ 140737488351232 := by omega
  by_cases hbig : (1048576 : Int) < zs.length
  · go_enter Tryd.func7, Tryd.ntmps7
    go_wp2_with fail
    go_ret
    exact ⟨rfl, Below.refl _ _⟩
  · go_enter Tryd.func7, Tryd.ntmps7
    go_wp2_with fail
    refine (toInts A zs.length cap zs 0 w h (by omega)).mono ?_
    rintro e w1 ⟨A1, c1, rfl, o1, b1⟩
    go_wp2_with fail
    refine (specListText A1 zs.length c1 zs w.heap.size w1 o1.rd (by omega)).mono ?_
    rintro e w2 ⟨b2, rfl⟩
    have s1 := b1.size
    have s2 := b2.size
    have s2' : w.heap.size ≤ w2.heap.size := by omega
    have b12 := b1.trans (b2.mono s1)
    have h2 : Rd w2 0 w2.heap.size A zs.length (ints zs) := (h.below b12 (Nat.le_refl _)).mono (Nat.le_refl _) (by omega)
    cases hc : decide (codeB zs = 0)
    · have hc' : ¬ codeB zs = 0 := by simpa using hc
      rw [if_neg hc']
      have HC := Go.Lib.hid hc'
      clear hc hc'
      go_wp2_with fail
      refine (toInts A zs.length cap zs 0 w2 h2 (by omega)).mono ?_
      rintro e w3 ⟨A3, c3, rfl, o3, b3⟩
      have b23 := b12.trans (b3.mono s2')
      go_wp2_with fail
      refine (implListText A3 zs.length c3 zs w2.heap.size w3 (ht.below b23) o3.rd (by omega)).mono ?_
      rintro e w4 ⟨b4, rfl⟩
      rw [if_neg HC.out]
      have s3 := b3.size
      have s4 := b4.size
      have b34 := b3.trans (b4.mono s3)
      have h4 : Rd w4 0 w4.heap.size A zs.length (ints zs) := (h2.below b34 (Nat.le_refl _)).mono (Nat.le_refl _) (by omega)
      go_wp2_with fail
      refine (toInts A zs.length cap zs 0 w4 h4 (by omega)).mono ?_
      rintro e w5 ⟨A5, c5, rfl, o5, b5⟩
      have o35 := (o3.below b4 (Nat.le_refl _)).below b5 s4
      have HE := Go.Lib.hid (eqInts_same A3 A5 zs.length c3 c5 zs _ _ _ _ w5 o35.rd o5.rd (by omega))
      go_wp2_with fail
      refine HE.out.mono ?_
      rintro e w6 ⟨rfl, m, rfl⟩
      go_wp2_with fail
      go_ret
      exact ⟨rfl, below_drewN (b12.trans ((b34.trans (b5.mono (by omega))).mono (by omega))) m⟩
    · have hc' : codeB zs = 0 := by simpa using hc
      rw [if_pos hc']
      have HC := Go.Lib.hid hc'
      clear hc hc'
      go_wp2_with fail
      refine (toInts A zs.length cap zs 0 w2 h2 (by omega)).mono ?_
      rintro e w3 ⟨A3, c3, rfl, o3, b3⟩
      have b23 := b12.trans (b3.mono s2')
      go_wp2_with fail
      refine (implListText A3 zs.length c3 zs w2.heap.size w3 (ht.below b23) o3.rd (by omega)).mono ?_
      rintro e w4 ⟨b4, rfl⟩
      rw [if_pos HC.out]
      have s3 := b3.size
      have s4 := b4.size
      have b34 := b3.trans (b4.mono s3)
      have h4 : Rd w4 0 w4.heap.size A zs.length (ints zs) := (h2.below b34 (Nat.le_refl _)).mono (Nat.le_refl _) (by omega)
      go_wp2_with fail
      refine (toInts A zs.length cap zs 0 w4 h4 (by omega)).mono ?_
      rintro e w5 ⟨A5, c5, rfl, o5, b5⟩
      have o35 := (o3.below b4 (Nat.le_refl _)).below b5 s4
      have HE := Go.Lib.hid (eqInts_same A3 A5 zs.length c3 c5 zs _ _ _ _ w5 o35.rd o5.rd (by omega))
      go_wp2_with fail
      refine HE.out.mono ?_
      rintro e w6 ⟨rfl, m, rfl⟩
      go_wp2_with fail
      go_ret
      exact ⟨rfl, below_drewN (b12.trans ((b34.trans (b5.mono (by omega))).mono (by omega))) m⟩

set_option maxRecDepth 100000 in
theorem contract (H : Type) (enc : TypeId × Value → H) (W : World) (base : Nat) (args : Array Value) (ds gs : List (DataW H)) (before : List MemPlace)
    (hval : ∀ (j : Nat) t v, Tryd.f7.params[j]? = some t → args[j]? = some v → Value.okWide Tryd.prog W .any base t v)
    (hW : DataW.Whole enc Tryd.prog Tryd.f7.params.toList Rows.fnExactListTextSpec.vars false W args.toList ds gs before) (hsz : (DataW.weightsEach Tryd.prog (Tryd.f7.params.toList ++ Rows.fnExactListTextSpec.plain.varTypes Tryd.prog) (ds ++ gs)).all (· ≤ reachBytes) = true) (hL : laidMetH Tryd.prog Rows.fnExactListTextRow.laid W) (hsh : W.ShapedOpen Tryd.prog) :
    Calls Tryd.prog 7 args W fun e W' => ∃ v, e = .returned v ∧ Rows.fnExactListTextSpec.post enc Tryd.prog Tryd.f7 false true false false W args v W' := by
  have hW' := hW
  obtain ⟨p, q, hA0, hV, rfl, hfz, hnd⟩ := hW
  have hA : DataW.TrodAll enc Tryd.prog W 0 (fun _ => true) true Tryd.f7.params.toList args.toList ds p := hA0
  rw [Tryd.params7] at hA hval hsz
  obtain ⟨v0, vs0, d0, ds0, p0, q0, hargs, rfl, rfl, h0, r0⟩ := trodAll_cons hA
  obtain ⟨rfl, rfl, rfl⟩ := trodAll_nil r0
  obtain rfl : args = #[v0] := by cases args; simp_all
  obtain ⟨rfl, rfl⟩ := trodVars_none hV
  obtain ⟨a0, len0, cap0, rfl⟩ := okWide_slice Tryd.underlying32 (hval 0 32 v0 rfl rfl)
  have k0 := h0
  have lt0 : ∀ x ∈ p0, x.block < W.heap.size := by obtain ⟨m, hm⟩ := k0; exact DataW.trod_lt m _ _ _ hm
  obtain ⟨⟨z0, rd0⟩, hlc0, hp0⟩ := open_list_ints h0
  have reach0 : len0 * 8 ≤ 140737488351232 := by
    rcases hp0 with hp0 | ⟨E0, S0, rfl, hl0⟩
    · omega
    · have := sized_slice hsz (j := 0) (t := 32) (e := 2) rfl rfl Tryd.underlying32
      rw [show Tryd.prog.bytesOf 2 = 8 by kernel_rfl] at this
      simp only [reachBytes] at this
      omega
  clear hA0
  refine (walk a0 len0 cap0 z0 W rd0 reach0 hL hsh).mono fun e W' ⟨he, bel⟩ => ?_
  subst he
  exact ⟨_, rfl, _, _, _, [], _, [], hW', trodAll_mk1 (shut_bool Tryd.underlying4 _), (trodAll_cons_mk (Below.trod laidOut (by kernel_rfl) (of_decide_eq_true (by kernel_rfl)) k0 bel lt0) trodAll_mk0), rfl, bel.frame _, fun h => by cases h⟩

theorem laid_met (os : Os) (args : Array Value) : laidMetH Tryd.prog Rows.fnExactListTextRow.laid ((World.doorLaid Tryd.prog 400 os).forCall (fun _ _ => 0) ⟨#[], args, []⟩).memory := by
  rw [MakeChecks.laidMetH_plain _ _ _ (by kernel_rfl)]
  exact laidMet_of_run' 16 (by kernel_rfl) (by kernel_rfl)
theorem reads (os : Os) {H : Type} (enc : TypeId × Value → H) : ∃ places, DataW.whole enc Tryd.prog ((World.doorLaid Tryd.prog 400 os).forCall (fun _ _ => 0) ⟨#[], #[.slice none 0 0], []⟩).memory Tryd.f7.params.toList Rows.fnExactListTextSpec.vars false #[Value.slice none 0 0].toList 8 = some ([.nil], [], places) :=
  ⟨[], by kernel_rfl⟩

set_option maxRecDepth 100000 in
theorem lifted (os : Os) (started : os.Started) (H : Type) (enc : TypeId × Value → H) (F : Stop.Interp) :
    ReturnsInHanded {} Tryd.checked os 7 .any ((OpenSpec.ofChange Rows.fnExactListTextSpec).preRow enc Tryd.prog Tryd.f7 Rows.fnExactListTextRow.domain false Rows.fnExactListTextRow.laid) (((OpenSpec.ofChange Rows.fnExactListTextSpec).at F).post enc Tryd.prog Tryd.f7 false true false false) := by
  obtain ⟨places, hx⟩ := reads os enc
  refine returnsInHanded_of_row (C := Tryd.checked) (s := OpenSpec.ofChange Rows.fnExactListTextSpec) own started (by kernel_rfl) Tryd.func7
    (witness_row_atRef (enc := enc) (C := Tryd.checked) false (World.doorLaid Tryd.prog 400 os) #[.slice none 0 0] rfl (by kernel_rfl) (by kernel_rfl) (by kernel_rfl)
      (OpenSpec.preRow_of_cond 8 hx (by kernel_rfl) (fun k hk => by cases hk) (by kernel_rfl) (laid_met os _))) ?_
  intro W base args ds gs before hval hW _ _ hsz hL hsh _
  exact contract H enc W base args ds gs before hval hW hsz hL hsh

theorem said : Rows.FnExactListTextSaid :=
  OpenClaim.holds_of_cond 7 Tryd.f7 rfl rfl rfl rfl rfl rfl rfl ⟨rfl, rfl, rfl, rfl, rfl⟩ rfl rfl rfl rfl rfl (by kernel_rfl) Tryd.func7 (by kernel_rfl)
    (of_decide_eq_true (by kernel_rfl)) (by unfold Func.isWrapper; first | (rw [if_pos (by decide +kernel)]; kernel_rfl) | (rw [if_neg (by decide +kernel)]; exact ⟨rfl, rfl⟩))
    (fun os started H enc _ F => by rw [OpenClaim.pre_eq_preRow]; exact lifted os started H enc F)

theorem plain (f : FuncId) (fn : Func) (hf : Tryd.pinned.checked.prog.funcNamed "loop.example/g01050/laws.FnExactListText" = some f) (hfn : Tryd.pinned.checked.prog.funcs[f]? = some fn) :
    true = Tryd.pinned.checked.prog.looks [] ∧ ∀ (j : Nat) t, fn.params[j]? = some t → Tryd.pinned.checked.prog.wantsStandIn t = false := by
  obtain rfl : f = 7 := Option.some.inj ((show Tryd.prog.funcNamed "loop.example/g01050/laws.FnExactListText" = some 7 by kernel_rfl).symm.trans hf) |>.symm
  obtain rfl : fn = Tryd.f7 := (Option.some.inj (Tryd.func7.symm.trans hfn)).symm
  refine ⟨by kernel_rfl, fun j t ht => ?_⟩
  rw [Tryd.params7] at ht
  have hm : t ∈ [32] := by simpa using Array.mem_of_getElem? ht
  have hall : ([32].all fun u => !Tryd.prog.wantsStandIn u) = true := by kernel_rfl
  exact (show Tryd.prog.wantsStandIn t = false by simpa using List.all_eq_true.1 hall t hm)

theorem proved : Rows.FnExactListTextCardSaid :=
  Claim7.holds_tied_plain_at .later [] _ _ _ _ said (fun _ h => by cases h) (by kernel_rfl) (fun _ h => by cases h) fnExactListText_row_tie rfl ⟨rfl, rfl⟩ (by kernel_rfl) rfl plain (by kernel_rfl)
end Go.Proofs.YtgdibahflhlakaaDoor.fnExactListText
