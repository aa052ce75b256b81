/- Whatever the rides: the program's AreRides answers as the model's. -/
import Derived.Test.YtbjoekbgejfebaaRows
import Derived.Test.YtbjoekbgejfebaaWearX0
import Derived.Test.YtbjoekbgejfebaaInts
import Derived.Test.YtbjoekbgejfebaaOpen
import Derived.Test.YtbjoekbgejfebaaOpenI
import Derived.Test.YtbjoekbgejfebaaOpenRi
import Derived.WalkKit
import Derived.ProofKit
import Derived.OpenShut
import Derived.ShutString
import Derived.SizedLaws
namespace Go.Proofs.Ytbjoekbgejfebaa.fnExactAreRides
open Go.ChangeShapes Go.WideShapes Go.ChangeAt Go.RowKit
open Go.ChangeMaps (open_string shut_string)
set_option linter.unusedVariables false

set_option maxRecDepth 100000 in
set_option maxHeartbeats 16000000 in
theorem walk (zList : List Rid) (AaList : Option Addr) (caList : Nat) (w : World) (haList : RdR w 0 w.heap.size AaList zList) (hnaList : zList.length * 24 ≤ 140737488351232) (_hlaList : zList.length ≤ caList) (_hwaList : ∀ r ∈ zList, (Lit.int .i64 r.day).wf = true ∧ (Lit.int .i64 r.tens).wf = true) :
    Calls Try.prog 5 #[.slice AaList zList.length caList] w fun e w' => e = .returned (.bool true) ∧ Below w.heap.size w w' := by
  clear _hlaList _hwaList
  have HSZ := Go.Lib.hid (fun w0 => law_szRides AaList zList.length caList 1048576 w0 (by omega) (by omega) (by unfold maxLen; omega))
  by_cases hb : (1048576 : Int) - zList.length < 0
  · rw [if_pos hb] at HSZ
    clear hb
    go_enter Try.func5, Try.ntmps5
    go_wp2_with fail
    refine (HSZ.out _).mono ?_
    rintro _ w1 ⟨rfl, b1⟩
    go_wp2_with fail
    go_ret
    exact ⟨rfl, b1⟩
  · skip
    rw [if_neg hb] at HSZ
    have hb2 : ¬ (1048576 : Int) - zList.length < 0 := hb
    have hzzList : zList.length ≤ 1048576 := by omega
    clear hb hnaList
    obtain ⟨V0, hv⟩ : ∃ V0, ridesB zList = V0 := ⟨_, rfl⟩
    have Hspec := Go.Lib.hid (fun (BaList : Option Addr) (daList : Nat) (w0 : World) (loaList hiaList : Nat) (h0aList : RdR w0 loaList hiaList BaList zList) (hcaList : zList.length ≤ daList) => xsAreRides zList BaList daList w0 loaList hiaList h0aList hzzList hcaList)
    have Himpl := Go.Lib.hid (fun (BaList : Option Addr) (daList : Nat) (w0 : World) (loaList hiaList : Nat) (h0aList : RdR w0 loaList hiaList BaList zList) (hcaList : zList.length ≤ daList) => xiAreRides zList BaList daList w0 loaList hiaList h0aList hzzList hcaList)
    rw [hv] at Hspec Himpl
    try dsimp only [Gives2, GivesLN] at Hspec Himpl
    clear hv
    have hne0 : (V0 != V0) = false := by simp
    have C := Go.Lib.hid (Ctx.start w)
    go_enter Try.func5, Try.ntmps5
    go_wp2_with fail
    refine (HSZ.out _).mono ?_
    rintro _ w1 ⟨rfl, b1⟩
    have C := Go.Lib.hid (C.out.below b1)
    clear b1
    go_wp2_with fail
    refine (toRides zList AaList caList _ (C.out.rdR haList) (by omega)).mono ?_
    rintro _ w2 ⟨E2, f2, rfl, q2, b2⟩
    have C := Go.Lib.hid (C.out.push (OwnRi.loc _ _ _) q2 b2)
    clear q2 b2
    obtain ⟨l3, t3, -, -, -, p3, u3⟩ := C.out.pick 0 rfl
    go_wp2_with fail
    refine (Hspec.out E2 f2 _ _ _ p3.rd p3.le).mono ?_
    rintro _ w4 ⟨rfl, b4⟩
    have C := Go.Lib.hid (C.out.below b4)
    clear b4
    clear p3 u3
    go_wp2_with fail
    refine (toRides zList AaList caList _ (C.out.rdR haList) (by omega)).mono ?_
    rintro _ w5 ⟨E5, f5, rfl, q5, b5⟩
    have C := Go.Lib.hid (C.out.push (OwnRi.loc _ _ _) q5 b5)
    clear q5 b5
    obtain ⟨l6, t6, -, -, -, p6, u6⟩ := C.out.pick 0 rfl
    go_wp2_with fail
    refine (Himpl.out E5 f5 _ _ _ p6.rd p6.le).mono ?_
    rintro _ w7 ⟨rfl, b7⟩
    have C := Go.Lib.hid (C.out.below b7)
    clear b7
    clear p6 u6
    go_wp2_with fail
    refine (toRides zList AaList caList _ (C.out.rdR haList) (by omega)).mono ?_
    rintro _ w8 ⟨E8, f8, rfl, q8, b8⟩
    have C := Go.Lib.hid (C.out.push (OwnRi.loc _ _ _) q8 b8)
    clear q8 b8
    obtain ⟨l9, t9, -, -, -, p9, u9⟩ := C.out.pick 1 rfl
    obtain ⟨l10, t10, -, -, -, p10, u10⟩ := C.out.pick 0 rfl
    have HE := Go.Lib.hid (eqRides zList E5 E8 f5 f8 _ _ _ _ _ p9.rd p10.rd (by omega))
    clear p9 u9 p10 u10
    go_wp2_with fail
    refine HE.out.mono ?_
    rintro _ w11 ⟨rfl, b11⟩
    have C := Go.Lib.hid (C.out.below b11)
    clear HE b11
    go_wp2_with fail
    go_ret
    exact ⟨rfl, C.out.b⟩

set_option maxRecDepth 100000 in
theorem lifted (os : Os) (started : os.Started) (H : Type) (enc : TypeId × Value → H) :
    ReturnsInHanded {} Try.checked os 5 .any (Rows.fnExactAreRidesSpec.pre6 enc Try.prog Try.f5 Rows.fnExactAreRidesRow.domain false) (Rows.fnExactAreRidesSpec.post enc Try.prog Try.f5 false true false false) := by
  refine returnsInHanded_of_change_sized (C := Try.checked) own started (by kernel_rfl) Try.func5
    (ChangeSpec.witness6 (enc := enc) (C := Try.checked) false ⟨#[], #[.slice none 0 0], []⟩ 8 (by kernel_rfl) (by kernel_rfl) (by kernel_rfl) (by kernel_rfl)) ?_
  intro W base args ds gs before hval0 hW hcnd hsz0 _
  have hsz : (DataW.weightsEach Try.prog (Try.f5.params.toList ++ Rows.fnExactAreRidesSpec.plain.varTypes Try.prog) (ds ++ gs)).all (· ≤ reachBytes) = true := hsz0
  clear hsz0
  have hval : ∀ (j : Nat) t v, Try.f5.params[j]? = some t → args[j]? = some v → Value.okWide Try.prog W .any base t v := hval0
  clear hval0
  have hW' := hW
  obtain ⟨p, q, hA0, hV, rfl, hfz, hnd⟩ := hW
  have hA : DataW.TrodAll enc Try.prog W 0 (fun _ => true) true Try.f5.params.toList args.toList ds p := hA0
  rw [Try.params5] at hA hval hsz
  obtain ⟨v0, vs0, d0, ds0, p0, q0, hargs, rfl, rfl, h0, r0⟩ := trodAll_cons hA
  obtain ⟨rfl, rfl, rfl⟩ := trodAll_nil r0
  obtain rfl : args = #[v0] := by cases args; simp_all
  obtain ⟨rfl, rfl⟩ := trodVars_none hV
  obtain ⟨a0, len0, cap0, rfl⟩ := okWide_slice Try.underlying41 (hval 0 41 v0 rfl rfl)
  have k0 := h0
  have lt0 : ∀ x ∈ p0, x.block < W.heap.size := by obtain ⟨m, hm⟩ := k0; exact DataW.trod_lt m _ _ _ hm
  obtain ⟨⟨z0, zl0, rd0, wz0⟩, hlc0, hp0⟩ := open_rides h0
  have reach0 : len0 * 24 ≤ 140737488351232 := by
    rcases hp0 with hp0 | ⟨E0, S0, rfl, hl0⟩
    · omega
    · have := sized_slice hsz (j := 0) (t := 41) (e := 45) rfl rfl Try.underlying41
      rw [show Try.prog.bytesOf 45 = 24 by kernel_rfl] at this
      simp only [reachBytes] at this
      omega
  subst zl0
  clear hA0
  refine (walk z0 a0 cap0 W rd0 reach0 hlc0 wz0).mono fun e W' ⟨he, bel⟩ => ?_
  subst he
  exact ⟨_, rfl, _, _, _, [], _, [], hW', trodAll_mk1 (shut_bool Try.underlying4 _), (trodAll_cons_mk (Below.trod laidOut (by kernel_rfl) (of_decide_eq_true (by kernel_rfl)) k0 bel lt0) trodAll_mk0), rfl, bel.frame _, fun h => by cases h⟩

theorem over : Rows.fnExactAreRidesRow.holds Try.pinned (OpenSpec.ofChange Rows.fnExactAreRidesSpec) :=
  OpenClaim.holds_of_wide 5 Try.f5 rfl rfl rfl rfl rfl rfl rfl ⟨rfl, rfl, rfl, rfl, rfl⟩ rfl rfl rfl rfl rfl (by kernel_rfl) Try.func5 (by kernel_rfl)
    (of_decide_eq_true (by kernel_rfl)) (by unfold Func.isWrapper; first | (rw [if_pos (by decide +kernel)]; kernel_rfl) | (rw [if_neg (by decide +kernel)]; exact ⟨rfl, rfl⟩))
    (fun os started H enc _ => lifted os started H enc)

theorem proved : Rows.FnExactAreRidesSaid := over
end Go.Proofs.Ytbjoekbgejfebaa.fnExactAreRides
