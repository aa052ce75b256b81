/- MovesText of the program answers as the model does, at every argument. -/
import Derived.Test.YthedanpldebjcaaRows
import Derived.Test.YthedanpldebjcaaMvP
import Derived.Test.YthedanpldebjcaaMvS
import Derived.Test.YthedanpldebjcaaInts
import Derived.Test.YthedanpldebjcaaOpen
import Derived.Test.YthedanpldebjcaaOpenI
import Derived.WalkKit
import Derived.ProofKit
import Derived.OpenShut
import Derived.ShutString
import Derived.SizedLaws
namespace Go.Proofs.Ythedanpldebjcaa.fnExactMovesText
open Go.ChangeShapes Go.WideShapes Go.ChangeAt Go.RowKit
open Go.ChangeMaps (open_string shut_string)
set_option linter.unusedVariables false

set_option maxRecDepth 100000 in
set_option maxHeartbeats 16000000 in
theorem walk (A : Option Addr) (n cap : Nat) (zs : List Int) (w : World) (h : Rd w 0 w.heap.size A n (ints zs)) (hn : n * 8 ≤ 140737488351232) :
    Calls Try.prog 12 #[.slice A n cap] w fun e w' => e = .returned (.bool true) ∧ Below w.heap.size w w' := by
  have hz : zs.length = n := by have := h.len; rwa [ints_len] at this
  subst hz
  by_cases hbig : (1048576 : Int) < zs.length
  · go_enter Try.func12, Try.ntmps12
    go_wp2_with fail
    go_ret
    exact ⟨rfl, Below.refl _ _⟩
  · have hsm : zs.length ≤ 1048576 := by omega
    obtain ⟨tx, z, hR⟩ : ∃ tx z, mTextR zs = (tx, z) := ⟨_, _, rfl⟩
    have HS := Go.Lib.hid (fun D d w0 L0 => specMovesText D d zs w0 L0)
    have HI := Go.Lib.hid (fun D d w0 L0 => implMovesText D d zs w0 L0)
    rw [hR] at HS HI
    clear hR
    have hne : (z != z) = false := by simp
    go_enter Try.func12, Try.ntmps12
    go_wp2_with fail
    refine (toInts A zs.length cap zs 0 w h (by omega)).mono ?_
    rintro e w1 ⟨A1, c1, rfl, o1, b1⟩
    have L1 := Ls.of o1.rd o1.le hsm
    go_wp2_with fail
    refine (HS.out A1 c1 w1 L1).mono ?_
    rintro e w2 ⟨rfl, b2⟩
    have s1 := b1.size
    have b12 := b1.trans (b2.mono s1)
    have s2' : w.heap.size ≤ w2.heap.size := b12.size
    have h2 : Rd w2 0 w2.heap.size A zs.length (ints zs) := (h.below b12 (Nat.le_refl _)).mono (Nat.le_refl _) (by omega)
    clear L1
    go_wp2_with fail
    refine (toInts A zs.length cap zs 0 w2 h2 (by omega)).mono ?_
    rintro e w3 ⟨A3, c3, rfl, o3, b3⟩
    have L3 := Ls.of o3.rd o3.le hsm
    go_wp2_with fail
    refine (HI.out A3 c3 w3 L3).mono ?_
    rintro e w4 ⟨rfl, b4⟩
    have s3 := b3.size
    have s4 := b4.size
    have b34 := b3.trans (b4.mono s3)
    have h4 : Rd w4 0 w4.heap.size A zs.length (ints zs) := (h2.below b34 (Nat.le_refl _)).mono (Nat.le_refl _) (by omega)
    clear L3
    go_wp2_with fail
    refine (toInts A zs.length cap zs 0 w4 h4 (by omega)).mono ?_
    rintro e w5 ⟨A5, c5, rfl, o5, b5⟩
    have o35 := (o3.below b4 (Nat.le_refl _)).below b5 s4
    have HE := Go.Lib.hid (eqInts_same A3 A5 zs.length c3 c5 zs _ _ _ _ w5 o35.rd o5.rd (by omega))
    go_wp2_with fail
    refine HE.out.mono ?_
    rintro e w6 ⟨rfl, m, rfl⟩
    go_wp2_with fail
    go_ret
    exact ⟨rfl, below_drewN (b12.trans ((b34.trans (b5.mono (by omega))).mono (by omega))) m⟩

set_option maxRecDepth 100000 in
theorem lifted (os : Os) (started : os.Started) (H : Type) (enc : TypeId × Value → H) :
    ReturnsInHanded {} Try.checked os 12 .any (Rows.fnExactMovesTextSpec.pre6 enc Try.prog Try.f12 Rows.fnExactMovesTextRow.domain false) (Rows.fnExactMovesTextSpec.post enc Try.prog Try.f12 false true false false) := by
  refine returnsInHanded_of_change_sized (C := Try.checked) own started (by kernel_rfl) Try.func12
    (ChangeSpec.witness6 (enc := enc) (C := Try.checked) false ⟨#[], #[.slice none 0 0], []⟩ 8 (by kernel_rfl) (by kernel_rfl) (by kernel_rfl) (by kernel_rfl)) ?_
  intro W base args ds gs before hval0 hW hcnd hsz0 _
  have hsz : (DataW.weightsEach Try.prog (Try.f12.params.toList ++ Rows.fnExactMovesTextSpec.plain.varTypes Try.prog) (ds ++ gs)).all (· ≤ reachBytes) = true := hsz0
  clear hsz0
  have hval : ∀ (j : Nat) t v, Try.f12.params[j]? = some t → args[j]? = some v → Value.okWide Try.prog W .any base t v := hval0
  clear hval0
  have hW' := hW
  obtain ⟨p, q, hA0, hV, rfl, hfz, hnd⟩ := hW
  have hA : DataW.TrodAll enc Try.prog W 0 (fun _ => true) true Try.f12.params.toList args.toList ds p := hA0
  rw [Try.params12] at hA hval hsz
  obtain ⟨v0, vs0, d0, ds0, p0, q0, hargs, rfl, rfl, h0, r0⟩ := trodAll_cons hA
  obtain ⟨rfl, rfl, rfl⟩ := trodAll_nil r0
  obtain rfl : args = #[v0] := by cases args; simp_all
  obtain ⟨rfl, rfl⟩ := trodVars_none hV
  obtain ⟨a0, len0, cap0, rfl⟩ := okWide_slice Try.underlying24 (hval 0 24 v0 rfl rfl)
  have k0 := h0
  have lt0 : ∀ x ∈ p0, x.block < W.heap.size := by obtain ⟨m, hm⟩ := k0; exact DataW.trod_lt m _ _ _ hm
  obtain ⟨⟨z0, rd0⟩, hlc0, hp0⟩ := open_list_ints h0
  have reach0 : len0 * 8 ≤ 140737488351232 := by
    rcases hp0 with hp0 | ⟨E0, S0, rfl, hl0⟩
    · omega
    · have := sized_slice hsz (j := 0) (t := 24) (e := 2) rfl rfl Try.underlying24
      rw [show Try.prog.bytesOf 2 = 8 by kernel_rfl] at this
      simp only [reachBytes] at this
      omega
  clear hA0
  refine (walk a0 len0 cap0 z0 W rd0 reach0).mono fun e W' ⟨he, bel⟩ => ?_
  subst he
  exact ⟨_, rfl, _, _, _, [], _, [], hW', trodAll_mk1 (shut_bool Try.underlying4 _), (trodAll_cons_mk (Below.trod laidOut (by kernel_rfl) (of_decide_eq_true (by kernel_rfl)) k0 bel lt0) trodAll_mk0), rfl, bel.frame _, fun h => by cases h⟩

theorem over : Rows.fnExactMovesTextRow.holds Try.pinned (OpenSpec.ofChange Rows.fnExactMovesTextSpec) :=
  OpenClaim.holds_of_wide 12 Try.f12 rfl rfl rfl rfl rfl rfl rfl ⟨rfl, rfl, rfl, rfl, rfl⟩ rfl rfl rfl rfl rfl (by kernel_rfl) Try.func12 (by kernel_rfl)
    (of_decide_eq_true (by kernel_rfl)) (by unfold Func.isWrapper; first | (rw [if_pos (by decide +kernel)]; kernel_rfl) | (rw [if_neg (by decide +kernel)]; exact ⟨rfl, rfl⟩))
    (fun os started H enc _ => lifted os started H enc)

theorem proved : Rows.FnExactMovesTextSaid := over
end Go.Proofs.Ythedanpldebjcaa.fnExactMovesText
