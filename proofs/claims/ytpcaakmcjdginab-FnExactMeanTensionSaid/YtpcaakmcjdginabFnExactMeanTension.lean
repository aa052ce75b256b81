/- MeanTension of the program answers as the model does, at every argument. -/
import Derived.Test.YtpcaakmcjdginabRows
import Derived.Test.YtpcaakmcjdginabTenX
import Derived.Test.YtpcaakmcjdginabInts
import Derived.Test.YtpcaakmcjdginabOpen
import Derived.Test.YtpcaakmcjdginabOpenI
import Derived.WalkKit
import Derived.ProofKit
import Derived.OpenShut
import Derived.ShutString
import Derived.SizedLaws
namespace Go.Proofs.Ytpcaakmcjdginab.fnExactMeanTension
open Go.ChangeShapes Go.WideShapes Go.ChangeAt Go.RowKit
open Go.ChangeMaps (open_string shut_string)
set_option linter.unusedVariables false

set_option maxRecDepth 100000 in
set_option maxHeartbeats 16000000 in
theorem walk (AaList : Option Addr) (naList caList : Nat) (zList : List Int) (w : World) (haList : Rd w 0 w.heap.size AaList naList (ints zList)) (_hnaList : naList * 8 ≤ 140737488351232) :
    Calls Try.prog 7 #[.slice AaList naList caList] w fun e w' => e = .returned (.bool true) ∧ Below w.heap.size w w' := by
  obtain rfl : zList.length = naList := by have := haList.len; rwa [ints_len] at this
  by_cases hbaList : (1048576 : Int) < zList.length
  · go_enter Try.func7, Try.ntmps7
    go_wp2_with fail
    go_ret
    exact ⟨rfl, Below.refl _ _⟩
  · skip
    have hzzList : zList.length ≤ 1048576 := by omega
    obtain ⟨V0, V1, hv⟩ : ∃ V0 V1, meanR zList = (V0, V1) := ⟨_, _, rfl⟩
    have Hspec := Go.Lib.hid (fun (BaList : Option Addr) (daList : Nat) (w0 : World) (loaList hiaList : Nat) (h0aList : Rd w0 loaList hiaList BaList zList.length (ints zList)) (hcaList : zList.length ≤ daList) => xsMeanTension BaList daList zList w0 loaList hiaList h0aList hzzList hcaList)
    have Himpl := Go.Lib.hid (fun (BaList : Option Addr) (daList : Nat) (w0 : World) (loaList hiaList : Nat) (h0aList : Rd w0 loaList hiaList BaList zList.length (ints zList)) (hcaList : zList.length ≤ daList) => xiMeanTension BaList daList zList w0 loaList hiaList h0aList hzzList hcaList)
    rw [hv] at Hspec Himpl
    try dsimp only [pairI] at Hspec Himpl
    clear hv
    have hne0 : (V0 != V0) = false := by simp
    have hne1 : (V1 != V1) = false := by simp
    have C := Go.Lib.hid (Ctx.start w)
    go_enter Try.func7, Try.ntmps7
    go_wp2_with fail
    refine (toInts AaList zList.length caList zList 0 _ (C.out.rd haList) (by omega)).mono ?_
    rintro _ w1 ⟨E1, f1, rfl, q1, b1⟩
    have C := Go.Lib.hid (C.out.push (OwnL.loc _ _ _ _ _) q1 b1)
    clear q1 b1
    obtain ⟨l2, t2, -, -, -, p2, u2⟩ := C.out.pick 0 rfl
    go_wp2_with fail
    refine (Hspec.out E1 f1 _ _ _ p2.rd p2.le).mono ?_
    rintro _ w3 ⟨rfl, b3⟩
    have C := Go.Lib.hid (C.out.below b3)
    clear b3
    clear p2 u2
    go_wp2_with fail
    refine (toInts AaList zList.length caList zList 0 _ (C.out.rd haList) (by omega)).mono ?_
    rintro _ w4 ⟨E4, f4, rfl, q4, b4⟩
    have C := Go.Lib.hid (C.out.push (OwnL.loc _ _ _ _ _) q4 b4)
    clear q4 b4
    obtain ⟨l5, t5, -, -, -, p5, u5⟩ := C.out.pick 0 rfl
    go_wp2_with fail
    refine (Himpl.out E4 f4 _ _ _ p5.rd p5.le).mono ?_
    rintro _ w6 ⟨rfl, b6⟩
    have C := Go.Lib.hid (C.out.below b6)
    clear b6
    clear p5 u5
    go_wp2_with fail
    refine (toInts AaList zList.length caList zList 0 _ (C.out.rd haList) (by omega)).mono ?_
    rintro _ w7 ⟨E7, f7, rfl, q7, b7⟩
    have C := Go.Lib.hid (C.out.push (OwnL.loc _ _ _ _ _) q7 b7)
    clear q7 b7
    obtain ⟨l8, t8, -, -, -, p8, u8⟩ := C.out.pick 1 rfl
    obtain ⟨l9, t9, -, -, -, p9, u9⟩ := C.out.pick 0 rfl
    have HE := Go.Lib.hid (eqInts_same E4 E7 zList.length f4 f7 zList _ _ _ _ _ p8.rd p9.rd (by omega))
    clear p8 u8 p9 u9
    go_wp2_with fail
    refine HE.out.mono ?_
    rintro _ _ ⟨rfl, x10, rfl⟩
    have C := Go.Lib.hid (C.out.drewN x10)
    clear HE
    generalize World.drewN _ x10 = w10 at C ⊢
    go_wp2_with fail
    go_ret
    exact ⟨rfl, C.out.b⟩

set_option maxRecDepth 100000 in
theorem lifted (os : Os) (started : os.Started) (H : Type) (enc : TypeId × Value → H) :
    ReturnsInHanded {} Try.checked os 7 .any (Rows.fnExactMeanTensionSpec.pre6 enc Try.prog Try.f7 Rows.fnExactMeanTensionRow.domain false) (Rows.fnExactMeanTensionSpec.post enc Try.prog Try.f7 false true false false) := by
  refine returnsInHanded_of_change_sized (C := Try.checked) own started (by kernel_rfl) Try.func7
    (ChangeSpec.witness6 (enc := enc) (C := Try.checked) false ⟨#[], #[.slice none 0 0], []⟩ 8 (by kernel_rfl) (by kernel_rfl) (by kernel_rfl) (by kernel_rfl)) ?_
  intro W base args ds gs before hval0 hW hcnd hsz0 _
  have hsz : (DataW.weightsEach Try.prog (Try.f7.params.toList ++ Rows.fnExactMeanTensionSpec.plain.varTypes Try.prog) (ds ++ gs)).all (· ≤ reachBytes) = true := hsz0
  clear hsz0
  have hval : ∀ (j : Nat) t v, Try.f7.params[j]? = some t → args[j]? = some v → Value.okWide Try.prog W .any base t v := hval0
  clear hval0
  have hW' := hW
  obtain ⟨p, q, hA0, hV, rfl, hfz, hnd⟩ := hW
  have hA : DataW.TrodAll enc Try.prog W 0 (fun _ => true) true Try.f7.params.toList args.toList ds p := hA0
  rw [Try.params7] at hA hval hsz
  obtain ⟨v0, vs0, d0, ds0, p0, q0, hargs, rfl, rfl, h0, r0⟩ := trodAll_cons hA
  obtain ⟨rfl, rfl, rfl⟩ := trodAll_nil r0
  obtain rfl : args = #[v0] := by cases args; simp_all
  obtain ⟨rfl, rfl⟩ := trodVars_none hV
  obtain ⟨a0, len0, cap0, rfl⟩ := okWide_slice Try.underlying24 (hval 0 24 v0 rfl rfl)
  have k0 := h0
  have lt0 : ∀ x ∈ p0, x.block < W.heap.size := by obtain ⟨m, hm⟩ := k0; exact DataW.trod_lt m _ _ _ hm
  obtain ⟨⟨z0, rd0⟩, hlc0, hp0⟩ := open_list_ints h0
  have reach0 : len0 * 8 ≤ 140737488351232 := by
    rcases hp0 with hp0 | ⟨E0, S0, rfl, hl0⟩
    · omega
    · have := sized_slice hsz (j := 0) (t := 24) (e := 2) rfl rfl Try.underlying24
      rw [show Try.prog.bytesOf 2 = 8 by kernel_rfl] at this
      simp only [reachBytes] at this
      omega
  clear hA0
  refine (walk a0 len0 cap0 z0 W rd0 reach0).mono fun e W' ⟨he, bel⟩ => ?_
  subst he
  exact ⟨_, rfl, _, _, _, [], _, [], hW', trodAll_mk1 (shut_bool Try.underlying4 _), (trodAll_cons_mk (Below.trod laidOut (by kernel_rfl) (of_decide_eq_true (by kernel_rfl)) k0 bel lt0) trodAll_mk0), rfl, bel.frame _, fun h => by cases h⟩

theorem over : Rows.fnExactMeanTensionRow.holds Try.pinned (OpenSpec.ofChange Rows.fnExactMeanTensionSpec) :=
  OpenClaim.holds_of_wide 7 Try.f7 rfl rfl rfl rfl rfl rfl rfl ⟨rfl, rfl, rfl, rfl, rfl⟩ rfl rfl rfl rfl rfl (by kernel_rfl) Try.func7 (by kernel_rfl)
    (of_decide_eq_true (by kernel_rfl)) (by unfold Func.isWrapper; first | (rw [if_pos (by decide +kernel)]; kernel_rfl) | (rw [if_neg (by decide +kernel)]; exact ⟨rfl, rfl⟩))
    (fun os started H enc _ => lifted os started H enc)

theorem proved : Rows.FnExactMeanTensionSaid := over
end Go.Proofs.Ytpcaakmcjdginab.fnExactMeanTension
