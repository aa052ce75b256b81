/- ReadMoves of the program answers as the model does, at every argument. -/
import Derived.Test.YthedanpldebjcaaRows
import Derived.Test.YthedanpldebjcaaMvP
import Derived.Test.YthedanpldebjcaaMvS
import Derived.Test.YthedanpldebjcaaInts
import Derived.Test.YthedanpldebjcaaOpen
import Derived.Test.YthedanpldebjcaaOpenS
import Derived.WalkKit
import Derived.ProofKit
import Derived.OpenShut
import Derived.ShutString
import Derived.SizedLaws
namespace Go.Proofs.Ythedanpldebjcaa.fnExactReadMoves
open Go.ChangeShapes Go.WideShapes Go.ChangeAt Go.RowKit
open Go.ChangeMaps (open_string shut_string)
set_option linter.unusedVariables false

set_option maxRecDepth 100000 in
set_option maxHeartbeats 16000000 in
theorem walk (s : ByteArray) (w : World) (hs0 : s.size ≤ maxLen) (hs1 : s.size ≤ 140737488351232) :
    Calls Try.prog 13 #[.string s] w fun e w' => e = .returned (.bool true) ∧ Below w.heap.size w w' := by
  clear hs0
  by_cases hbig : (1048576 : Int) < s.size
  · go_enter Try.func13, Try.ntmps13
    go_wp2_with fail
    go_ret
    exact ⟨rfl, Below.refl _ _⟩
  · have hs : s.size ≤ 1048576 := by omega
    obtain ⟨l, hl⟩ : ∃ l : List UInt8, s = ⟨l.toArray⟩ := ⟨s.data.toList, by simp⟩
    have hll : l.length ≤ 1048576 := by
      rw [hl] at hs
      simpa [ByteArray.size] using hs
    obtain ⟨zs, z, hR⟩ : ∃ zs z, mReadR l = (zs, z) := ⟨_, _, rfl⟩
    have h60 : zs.length ≤ 1048576 := by
      have h1 := mReadR_few l
      rw [hR] at h1
      exact Nat.le_trans h1 (by omega)
    have HS := Go.Lib.hid (fun w0 => specReadMoves l w0 hll)
    have HI := Go.Lib.hid (fun w0 => implReadMoves l w0 hll)
    rw [hR, ← hl] at HS HI
    clear hR hl hll
    have hne : (z != z) = false := by simp
    go_enter Try.func13, Try.ntmps13
    go_wp2_with fail
    refine (HS.out w).mono ?_
    rintro e w1 ⟨A1, c1, rfl, o1, b1⟩
    dsimp only at o1
    have s1 := b1.size
    go_wp2_with fail
    refine (HI.out w1).mono ?_
    rintro e w2 ⟨A2, c2, rfl, o2, b2⟩
    dsimp only at o2
    have s2 := b2.size
    have b02 := b1.trans (b2.mono s1)
    have o12 := o1.below b2 (Nat.le_refl _)
    have HE := Go.Lib.hid (eqInts_same A2 A1 zs.length c2 c1 zs _ _ _ _ w2 o2.rd o12.rd (by omega))
    go_wp2_with fail
    refine HE.out.mono ?_
    rintro e w3 ⟨rfl, m1, rfl⟩
    have HM := Go.Lib.hid (markInts A2 zs.length c2 1 _ w1.heap.size w2.heap.size (w2.drewN m1) (o2.drewN m1) (by omega) (by omega))
    go_wp2_with fail
    refine HM.out.mono ?_
    rintro e w3 ⟨rfl, o3, k3⟩
    have s3 : w2.heap.size ≤ w3.heap.size := k3.size
    have o13 : Ow w3 w.heap.size w1.heap.size 2 A1 zs.length c1 (ints zs) := (o12.drewN m1).keep k3 s2 (.inl (Nat.le_refl _))
    have b03 : Below w.heap.size w w3 := (below_drewN b02 m1).trans (k3.below s1 (by show w.heap.size ≤ w2.heap.size; omega))
    have HH := Go.Lib.hid (heldInts A2 zs.length c2 1 w1.heap.size w2.heap.size w3 o3.rd (by omega) (by omega))
    go_wp2_with fail
    refine HH.out.mono ?_
    rintro e w4 ⟨rfl, rfl⟩
    go_wp2_with fail
    refine (HI.out w3).mono ?_
    rintro e w5 ⟨A5, c5, rfl, o5, b5⟩
    dsimp only at o5
    have s5 := b5.size
    have b05 : Below w.heap.size w w5 := b03.trans (b5.mono (by omega))
    have o15 := o13.below b5 (by omega)
    have o35 := o3.below b5 (by omega)
    have HE5 := Go.Lib.hid (eqInts_same A5 A1 zs.length c5 c1 zs _ _ _ _ w5 o5.rd o15.rd (by omega))
    go_wp2_with fail
    refine HE5.out.mono ?_
    rintro e w6 ⟨rfl, m2, rfl⟩
    have HH6 := Go.Lib.hid (heldInts A2 zs.length c2 1 w1.heap.size w2.heap.size (w5.drewN m2) (o35.drewN m2).rd (by omega) (by omega))
    go_wp2_with fail
    refine HH6.out.mono ?_
    rintro e w7 ⟨rfl, rfl⟩
    go_wp2_with fail
    go_ret
    exact ⟨rfl, below_drewN b05 m2⟩

set_option maxRecDepth 100000 in
theorem lifted (os : Os) (started : os.Started) (H : Type) (enc : TypeId × Value → H) :
    ReturnsInHanded {} Try.checked os 13 .any (Rows.fnExactReadMovesSpec.pre6 enc Try.prog Try.f13 Rows.fnExactReadMovesRow.domain false) (Rows.fnExactReadMovesSpec.post enc Try.prog Try.f13 false true false false) := by
  refine returnsInHanded_of_change_sized (C := Try.checked) own started (by kernel_rfl) Try.func13
    (ChangeSpec.witness6 (enc := enc) (C := Try.checked) false ⟨#[], #[.string ByteArray.empty], []⟩ 8 (by kernel_rfl) (by kernel_rfl) (by kernel_rfl) (by kernel_rfl)) ?_
  intro W base args ds gs before hval0 hW hcnd hsz0 _
  have hsz : (DataW.weightsEach Try.prog (Try.f13.params.toList ++ Rows.fnExactReadMovesSpec.plain.varTypes Try.prog) (ds ++ gs)).all (· ≤ reachBytes) = true := hsz0
  clear hsz0
  have hval : ∀ (j : Nat) t v, Try.f13.params[j]? = some t → args[j]? = some v → Value.okWide Try.prog W .any base t v := hval0
  clear hval0
  have hW' := hW
  obtain ⟨p, q, hA0, hV, rfl, hfz, hnd⟩ := hW
  have hA : DataW.TrodAll enc Try.prog W 0 (fun _ => true) true Try.f13.params.toList args.toList ds p := hA0
  rw [Try.params13] at hA hval hsz
  obtain ⟨v0, vs0, d0, ds0, p0, q0, hargs, rfl, rfl, h0, r0⟩ := trodAll_cons hA
  obtain ⟨rfl, rfl, rfl⟩ := trodAll_nil r0
  obtain rfl : args = #[v0] := by cases args; simp_all
  obtain ⟨rfl, rfl⟩ := trodVars_none hV
  obtain ⟨a0, rfl, rfl, rfl, w0⟩ := open_string Try.underlying9 (hval 0 9 v0 rfl rfl) h0
  have e0 : a0.size ≤ 140737488351232 := by
    have := sized_string hsz (j := 0) (t := 9) (bytes := a0.data.toList) rfl rfl
    simpa [reachBytes] using this
  clear hA0
  refine (walk a0 W w0 e0).mono fun e W' ⟨he, bel⟩ => ?_
  subst he
  exact ⟨_, rfl, _, _, _, [], _, [], hW', trodAll_mk1 (shut_bool Try.underlying4 _), (trodAll_cons_mk (shut_string Try.underlying9 w0) trodAll_mk0), rfl, bel.frame _, fun h => by cases h⟩

theorem over : Rows.fnExactReadMovesRow.holds Try.pinned (OpenSpec.ofChange Rows.fnExactReadMovesSpec) :=
  OpenClaim.holds_of_wide 13 Try.f13 rfl rfl rfl rfl rfl rfl rfl ⟨rfl, rfl, rfl, rfl, rfl⟩ rfl rfl rfl rfl rfl (by kernel_rfl) Try.func13 (by kernel_rfl)
    (of_decide_eq_true (by kernel_rfl)) (by unfold Func.isWrapper; first | (rw [if_pos (by decide +kernel)]; kernel_rfl) | (rw [if_neg (by decide +kernel)]; exact ⟨rfl, rfl⟩))
    (fun os started H enc _ => lifted os started H enc)

theorem proved : Rows.FnExactReadMovesSaid := over
end Go.Proofs.Ythedanpldebjcaa.fnExactReadMoves
