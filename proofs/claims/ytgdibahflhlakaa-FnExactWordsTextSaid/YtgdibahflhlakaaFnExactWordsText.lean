/- FnExactWordsText holds: for every list of strings, impl.WordsText answers as spec.WordsText, and leaves its argument as it is. No condition. -/
import Derived.Test.YtgdibahflhlakaaRows
import Derived.Test.YtgdibahflhlakaaWordsText
import Derived.Test.YtgdibahflhlakaaOpen
import Derived.WalkKit
import Derived.ProofKit
import Derived.OpenShut
import Derived.SizedLaws
namespace Go.Proofs.Ytgdibahflhlakaa.fnExactWordsText
open Go.ChangeShapes Go.WideShapes Go.ChangeAt Go.RowKit
set_option linter.unusedVariables false

theorem walk (A : Option Addr) (n cap : Nat) (zs : List ByteArray) (w : World) (h : Rd w 0 w.heap.size A n (bas zs)) (hn : n * 16 ≤ 140737488351232) (hs : ∀ z ∈ zs, z.size ≤ maxLen) :
    Calls Try.prog 5 #[.slice A n cap] w fun e w' => e = .returned (.bool true) ∧ Below w.heap.size w w' := by
  have hz : zs.length = n := by have := h.len; rwa [bas_len] at this
  subst hz
  have HS := Go.Lib.hid hs
  clear hs
  go_enter Try.func5, Try.ntmps5
  go_wp2_with fail
  refine (szStrs A zs.length cap zs 0 w.heap.size 1048576 w h (by omega) HS.out (by omega) (by omega)).mono ?_
  rintro e w' ⟨⟨r, rfl, hr⟩, rfl⟩
  by_cases hneg : r < 0
  · go_wp2_with fail
    go_ret
    exact ⟨rfl, Below.refl _ _⟩
  · go_wp2_with fail
    refine (toStrs A zs.length cap zs 0 w h (by omega)).mono ?_
    rintro e w1 ⟨A1, c1, rfl, o1, b1⟩
    go_wp2_with fail
    refine (specWordsText A1 zs.length c1 zs w.heap.size w1 o1.rd (by omega) HS.out).mono ?_
    rintro e w2 ⟨b2, rfl⟩
    have s1 := b1.size
    have s2 := b2.size
    have b12 := b1.trans (b2.mono s1)
    have h2 : Rd w2 0 w2.heap.size A zs.length (bas zs) := (h.below b12 (Nat.le_refl _)).mono (Nat.le_refl _) (by omega)
    cases hc : decide (codeW zs = 0)
    · have hc' : ¬ codeW zs = 0 := by simpa using hc
      rw [if_neg hc']
      have HC := Go.Lib.hid hc'
      clear hc hc'
      go_wp2_with fail
      refine (toStrs A zs.length cap zs 0 w2 h2 (by omega)).mono ?_
      rintro e w3 ⟨A3, c3, rfl, o3, b3⟩
      go_wp2_with fail
      refine (implWordsText A3 zs.length c3 zs w2.heap.size w3 o3.rd (by omega) o3.le HS.out).mono ?_
      rintro e w4 ⟨b4, rfl⟩
      rw [if_neg HC.out]
      have s3 := b3.size
      have s4 := b4.size
      have b34 := b3.trans (b4.mono s3)
      have h4 : Rd w4 0 w4.heap.size A zs.length (bas zs) := (h2.below b34 (Nat.le_refl _)).mono (Nat.le_refl _) (by omega)
      go_wp2_with fail
      refine (toStrs A zs.length cap zs 0 w4 h4 (by omega)).mono ?_
      rintro e w5 ⟨A5, c5, rfl, o5, b5⟩
      have o35 := (o3.below b4 (Nat.le_refl _)).below b5 s4
      go_wp2_with fail
      refine (eqStrs_same A3 A5 zs.length c3 c5 zs _ _ _ _ w5 o35.rd o5.rd (by omega)).mono ?_
      rintro e w6 ⟨rfl, m, rfl⟩
      go_wp2_with fail
      go_ret
      exact ⟨rfl, below_drewN (b12.trans ((b34.trans (b5.mono (by omega))).mono (by omega))) m⟩
    · have hc' : codeW zs = 0 := by simpa using hc
      rw [if_pos hc']
      have HC := Go.Lib.hid hc'
      clear hc hc'
      go_wp2_with fail
      refine (toStrs A zs.length cap zs 0 w2 h2 (by omega)).mono ?_
      rintro e w3 ⟨A3, c3, rfl, o3, b3⟩
      go_wp2_with fail
      refine (implWordsText A3 zs.length c3 zs w2.heap.size w3 o3.rd (by omega) o3.le HS.out).mono ?_
      rintro e w4 ⟨b4, rfl⟩
      rw [if_pos HC.out]
      have s3 := b3.size
      have s4 := b4.size
      have b34 := b3.trans (b4.mono s3)
      have h4 : Rd w4 0 w4.heap.size A zs.length (bas zs) := (h2.below b34 (Nat.le_refl _)).mono (Nat.le_refl _) (by omega)
      go_wp2_with fail
      refine (toStrs A zs.length cap zs 0 w4 h4 (by omega)).mono ?_
      rintro e w5 ⟨A5, c5, rfl, o5, b5⟩
      have o35 := (o3.below b4 (Nat.le_refl _)).below b5 s4
      go_wp2_with fail
      refine (eqStrs_same A3 A5 zs.length c3 c5 zs _ _ _ _ w5 o35.rd o5.rd (by omega)).mono ?_
      rintro e w6 ⟨rfl, m, rfl⟩
      go_wp2_with fail
      go_ret
      exact ⟨rfl, below_drewN (b12.trans ((b34.trans (b5.mono (by omega))).mono (by omega))) m⟩

set_option maxRecDepth 100000 in
theorem lifted (os : Os) (started : os.Started) (H : Type) (enc : TypeId × Value → H) :
    ReturnsInHanded {} Try.checked os 5 .any (fun w args => (Rows.fnExactWordsTextSpec.pre6 enc Try.prog Try.f5 Rows.fnExactWordsTextRow.domain false) w args) (Rows.fnExactWordsTextSpec.post enc Try.prog Try.f5 false true false false) := by
  refine returnsInHanded_of_change_sized (C := Try.checked) own started (by kernel_rfl) Try.func5
    (ChangeSpec.witness6 (enc := enc) (C := Try.checked) false ⟨#[], #[.slice none 0 0], []⟩ 8 (by kernel_rfl) (by kernel_rfl) (by kernel_rfl) (by kernel_rfl)) ?_
  intro W base args ds gs before hval0 hW hcnd hsz0 _
  have hsz : (DataW.weightsEach Try.prog (Try.f5.params.toList ++ Rows.fnExactWordsTextSpec.plain.varTypes Try.prog) (ds ++ gs)).all (· ≤ reachBytes) = true := hsz0
  clear hsz0
  have hval : ∀ (j : Nat) t v, Try.f5.params[j]? = some t → args[j]? = some v → Value.okWide Try.prog W .any base t v := hval0
  have hW' := hW
  obtain ⟨p, q, hA0, hV, rfl, hfz, hnd⟩ := hW
  have hA : DataW.TrodAll enc Try.prog W 0 (fun _ => true) true Try.f5.params.toList args.toList ds p := hA0
  rw [Try.params5] at hA hval hsz
  obtain ⟨v0, vs0, d0, ds0, p0, q0, hargs, rfl, rfl, h0, r0⟩ := trodAll_cons hA
  obtain ⟨rfl, rfl, rfl⟩ := trodAll_nil r0
  obtain rfl : args = #[v0] := by cases args; simp_all
  obtain ⟨rfl, rfl⟩ := trodVars_none hV
  obtain ⟨a0, len0, cap0, rfl⟩ := okWide_slice Try.underlying33 (hval 0 33 v0 rfl rfl)
  have k0 := h0
  have lt0 : ∀ x ∈ p0, x.block < W.heap.size := by obtain ⟨m, hm⟩ := k0; exact DataW.trod_lt m _ _ _ hm
  obtain ⟨⟨zs, hr, hs⟩, hlc, hp⟩ := open_list_strs h0
  have hreach : len0 * 16 ≤ 140737488351232 := by
    rcases hp with h | ⟨E, S, rfl, hl⟩
    · omega
    · have := sized_slice hsz (j := 0) (t := 33) (e := 9) rfl rfl Try.underlying33
      rw [show Try.prog.bytesOf 9 = 16 by kernel_rfl] at this
      simp only [reachBytes] at this
      omega
  clear hA0 hval0
  refine (walk a0 len0 cap0 zs W hr hreach hs).mono fun e W' ⟨he, bel⟩ => ?_
  subst he
  exact ⟨_, rfl, _, _, _, [], _, [], hW', trodAll_mk1 (shut_bool Try.underlying4 _), (trodAll_cons_mk (Below.trod laidOut (by kernel_rfl) (of_decide_eq_true (by kernel_rfl)) k0 bel lt0) trodAll_mk0), rfl, bel.frame _, fun h => by cases h⟩

theorem over : Rows.fnExactWordsTextRow.holds Try.pinned (OpenSpec.ofChange Rows.fnExactWordsTextSpec) :=
  OpenClaim.holds_of_wide 5 Try.f5 rfl rfl rfl rfl rfl rfl rfl ⟨rfl, rfl, rfl, rfl, rfl⟩ rfl rfl rfl rfl rfl (by kernel_rfl) Try.func5 (by kernel_rfl)
    (of_decide_eq_true (by kernel_rfl)) (by unfold Func.isWrapper; first | (rw [if_pos (by decide +kernel)]; kernel_rfl) | (rw [if_neg (by decide +kernel)]; exact ⟨rfl, rfl⟩))
    (fun os started H enc _ => lifted os started H enc)

theorem proved : Rows.FnExactWordsTextSaid := over
end Go.Proofs.Ytgdibahflhlakaa.fnExactWordsText
