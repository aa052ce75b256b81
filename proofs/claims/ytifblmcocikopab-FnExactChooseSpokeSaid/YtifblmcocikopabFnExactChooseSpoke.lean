/- FnExactChooseSpoke holds: at every list and length impl.ChooseSpoke answers as spec.ChooseSpoke and writes nothing into its argument. -/
import Derived.Test.YtifblmcocikopabRows
import Derived.Test.YtifblmcocikopabSpokeImpl
import Derived.Test.YtifblmcocikopabInts
import Derived.Test.YtifblmcocikopabLawHub
import Derived.Test.YtifblmcocikopabBox
import Derived.Test.YtifblmcocikopabOpenI
import Derived.WalkKit
import Derived.ProofKit
import Derived.OpenShut
import Derived.ShutString
import Derived.SizedLaws
namespace Go.Proofs.Ytifblmcocikopab.fnExactChooseSpoke
open Go.ChangeShapes Go.WideShapes Go.ChangeAt Go.RowKit
open Go.ChangeMaps (open_string shut_string)
set_option linter.unusedVariables false

set_option maxRecDepth 100000 in
set_option maxHeartbeats 8000000 in
theorem walk (A : Option Addr) (n cap : Nat) (zs : List Int) (m : Int) (w : World) (h : Rd w 0 w.heap.size A n (ints zs)) (hn : n * 8 ≤ 140737488351232) (_hm : (Lit.int .i64 m).wf = true) :
    Calls Try.prog 4 #[.slice A n cap, .int .i64 m] w fun e w' => e = .returned (.bool true) ∧ Below w.heap.size w w' := by
  clear _hm
  obtain rfl : zs.length = n := by have := h.len; rwa [ints_len] at this
  by_cases hbig : (1048576 : Int) < zs.length
  · go_enter Try.func4, Try.ntmps4
    go_wp2_with fail
    go_ret
    exact ⟨rfl, Below.refl _ _⟩
  · have hn2 : zs.length ≤ 1048576 := by omega
    obtain ⟨x, y, hv⟩ : ∃ x y : Int, pairI (choA zs m) = .tuple #[.int .i64 x, .int .i64 y] := ⟨_, _, rfl⟩
    have HV := Go.Lib.hid hv
    clear hv
    go_enter Try.func4, Try.ntmps4
    go_wp2_with fail
    refine (toInts A zs.length cap zs 0 w h (by omega)).mono ?_
    rintro e w1 ⟨A1, c1, rfl, o1, b1⟩
    go_wp2_with fail
    have HS := specChooseSpoke A1 zs.length c1 zs m w.heap.size w1.heap.size w1 o1.rd hn2
    rw [HV.out] at HS
    refine HS.mono ?_
    rintro e w2 ⟨rfl, d, rfl⟩
    have B2 := below_drewN b1 d
    have h2 : Rd (w1.drewN d) 0 (w1.drewN d).heap.size A zs.length (ints zs) := (h.below B2 (Nat.le_refl _)).mono (Nat.le_refl _) B2.size
    clear HS o1 b1
    generalize w1.drewN d = W2 at *
    go_wp2_with fail
    refine (toInts A zs.length cap zs 0 W2 h2 (by omega)).mono ?_
    rintro e w3 ⟨A3, c3, rfl, o3, b3⟩
    have B3 := upB B2 b3
    go_wp2_with fail
    have HI := implChooseSpoke A3 zs.length c3 zs m W2.heap.size w3 o3.rd hn2
    rw [HV.out] at HI
    refine HI.mono ?_
    rintro e w4 ⟨rfl, b4⟩
    have B4 := upB B3 b4
    have h4 : Rd w4 0 w4.heap.size A zs.length (ints zs) := (h.below B4 (Nat.le_refl _)).mono (Nat.le_refl _) B4.size
    have o4 := o3.below b4 (Nat.le_refl _)
    clear HI
    go_wp2_with fail
    refine (toInts A zs.length cap zs 0 w4 h4 (by omega)).mono ?_
    rintro e w5 ⟨A5, c5, rfl, o5, b5⟩
    have B5 := upB B4 b5
    have HE := Go.Lib.hid (eqInts_same A3 A5 zs.length c3 c5 zs _ _ _ _ w5 (o4.below b5 b4.size).rd o5.rd (by omega))
    go_wp2_with fail
    refine HE.out.mono ?_
    rintro e w6 ⟨rfl, k, rfl⟩
    go_wp2_with fail
    go_ret
    exact ⟨rfl, below_drewN B5 k⟩

set_option maxRecDepth 100000 in
theorem lifted (os : Os) (started : os.Started) (H : Type) (enc : TypeId × Value → H) :
    ReturnsInHanded {} Try.checked os 4 .any (Rows.fnExactChooseSpokeSpec.pre6 enc Try.prog Try.f4 Rows.fnExactChooseSpokeRow.domain false) (Rows.fnExactChooseSpokeSpec.post enc Try.prog Try.f4 false true false false) := by
  refine returnsInHanded_of_change_sized (C := Try.checked) own started (by kernel_rfl) Try.func4
    (ChangeSpec.witness6 (enc := enc) (C := Try.checked) false ⟨#[], #[.slice none 0 0, .int .i64 0], []⟩ 8 (by kernel_rfl) (by kernel_rfl) (by kernel_rfl) (by kernel_rfl)) ?_
  intro W base args ds gs before hval0 hW hcnd hsz0 _
  have hsz : (DataW.weightsEach Try.prog (Try.f4.params.toList ++ Rows.fnExactChooseSpokeSpec.plain.varTypes Try.prog) (ds ++ gs)).all (· ≤ reachBytes) = true := hsz0
  clear hsz0
  have hval : ∀ (j : Nat) t v, Try.f4.params[j]? = some t → args[j]? = some v → Value.okWide Try.prog W .any base t v := hval0
  clear hval0
  have hW' := hW
  obtain ⟨p, q, hA0, hV, rfl, hfz, hnd⟩ := hW
  have hA : DataW.TrodAll enc Try.prog W 0 (fun _ => true) true Try.f4.params.toList args.toList ds p := hA0
  rw [Try.params4] at hA hval hsz
  obtain ⟨v0, vs0, d0, ds0, p0, q0, hargs, rfl, rfl, h0, r0⟩ := trodAll_cons hA
  obtain ⟨v1, vs1, d1, ds1, p1, q1, rfl, rfl, rfl, h1, r1⟩ := trodAll_cons r0
  obtain ⟨rfl, rfl, rfl⟩ := trodAll_nil r1
  obtain rfl : args = #[v0, v1] := by cases args; simp_all
  obtain ⟨rfl, rfl⟩ := trodVars_none hV
  obtain ⟨a0, len0, cap0, rfl⟩ := okWide_slice Try.underlying24 (hval 0 24 v0 rfl rfl)
  have k0 := h0
  have lt0 : ∀ x ∈ p0, x.block < W.heap.size := by obtain ⟨m, hm⟩ := k0; exact DataW.trod_lt m _ _ _ hm
  obtain ⟨⟨z0, rd0⟩, hlc0, hp0⟩ := open_list_ints h0
  have reach0 : len0 * 8 ≤ 140737488351232 := by
    rcases hp0 with hp0 | ⟨E0, S0, rfl, hl0⟩
    · omega
    · have := sized_slice hsz (j := 0) (t := 24) (e := 2) rfl rfl Try.underlying24
      rw [show Try.prog.bytesOf 2 = 8 by kernel_rfl] at this
      simp only [reachBytes] at this
      omega
  obtain ⟨a1, rfl, rfl, rfl, w1⟩ := open_int Try.underlying2 (hval 1 2 v1 rfl rfl) h1
  clear hA0
  refine (walk a0 len0 cap0 z0 a1 W rd0 reach0 w1).mono fun e W' ⟨he, bel⟩ => ?_
  subst he
  exact ⟨_, rfl, _, _, _, [], _, [], hW', trodAll_mk1 (shut_bool Try.underlying4 _), (trodAll_cons_mk (Below.trod laidOut (by kernel_rfl) (of_decide_eq_true (by kernel_rfl)) k0 bel lt0) (trodAll_cons_mk (shut_int Try.underlying2 w1) trodAll_mk0)), rfl, bel.frame _, fun h => by cases h⟩

theorem over : Rows.fnExactChooseSpokeRow.holds Try.pinned (OpenSpec.ofChange Rows.fnExactChooseSpokeSpec) :=
  OpenClaim.holds_of_wide 4 Try.f4 rfl rfl rfl rfl rfl rfl rfl ⟨rfl, rfl, rfl, rfl, rfl⟩ rfl rfl rfl rfl rfl (by kernel_rfl) Try.func4 (by kernel_rfl)
    (of_decide_eq_true (by kernel_rfl)) (by unfold Func.isWrapper; first | (rw [if_pos (by decide +kernel)]; kernel_rfl) | (rw [if_neg (by decide +kernel)]; exact ⟨rfl, rfl⟩))
    (fun os started H enc _ => lifted os started H enc)

theorem proved : Rows.FnExactChooseSpokeSaid := over
end Go.Proofs.Ytifblmcocikopab.fnExactChooseSpoke
