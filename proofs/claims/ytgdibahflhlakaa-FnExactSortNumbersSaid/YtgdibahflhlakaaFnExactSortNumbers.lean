/- FnExactSortNumbers holds: for every list, impl.SortNumbers answers as spec.SortNumbers, writes nothing into its argument, and its answer owns its memory. -/
import Derived.Test.YtgdibahflhlakaaRows
import Derived.Test.YtgdibahflhlakaaOpen
import Derived.Test.YtgdibahflhlakaaOpenI
import Derived.Test.YtgdibahflhlakaaSort3
import Derived.WalkKit
import Derived.ProofKit
import Derived.OpenShut
import Derived.ShutString
import Derived.SizedLaws
namespace Go.Proofs.Ytgdibahflhlakaa.fnExactSortNumbers
open Go.ChangeShapes Go.WideShapes Go.ChangeAt Go.RowKit
open Go.ChangeMaps (open_string shut_string)
set_option linter.unusedVariables false

theorem walk (A : Option Addr) (n cap : Nat) (zs : List Int) (w : World) (h : Rd w 0 w.heap.size A n (ints zs)) (hn : n * 8 ≤ 140737488351232) :
    Calls Try.prog 6 #[.slice A n cap] w fun e w' => e = .returned (.bool true) ∧ Below w.heap.size w w' := by
  have hz : zs.length = n := by have := h.len; rwa [ints_len] at this
  subst hz
  have hn' : zs.length ≤ 140737488351232 := by omega
  by_cases hbig : (1048576 : Int) < zs.length
  · go_enter Try.func6, Try.ntmps6
    go_wp2_with fail
    go_ret
    exact ⟨rfl, Below.refl _ _⟩
  · have hll := sortR_len zs
    have hsm : zs.length ≤ 1048576 := by omega
    have HS := Go.Lib.hid (fun g cap w0 lo h0 => specSort g zs.length cap zs w0 lo h0 hsm)
    have HI := Go.Lib.hid (fun g cap w0 lo h0 => implSort g zs.length cap zs w0 lo h0 hsm)
    unfold SortEnd at HS HI
    obtain ⟨L, hL⟩ : ∃ L, L = sortR zs := ⟨_, rfl⟩
    obtain ⟨C, hC⟩ : ∃ C, C = codeB zs := ⟨_, rfl⟩
    rw [← hL] at hll
    simp only [← hL, ← hC] at HS HI
    clear hL hC
    go_enter Try.func6, Try.ntmps6
    go_wp2_with fail
    refine (toIntsS A zs.length cap zs 0 w h (by omega)).mono ?_
    rintro e w1 ⟨A1, c1, rfl, o1, b1⟩
    go_wp2_with fail
    refine (HS.out A1 c1 w1 w.heap.size o1.rd).mono ?_
    rintro e w2 ⟨B2, d2, rfl, o2, b2⟩
    have s1 := b1.size
    have s2 := b2.size
    have s2' : w.heap.size ≤ w2.heap.size := by omega
    have b12 := b1.trans (b2.mono s1)
    have h2 : Rd w2 0 w2.heap.size A zs.length (ints zs) := (h.below b12 (Nat.le_refl _)).mono (Nat.le_refl _) (by omega)
    go_wp2_with fail
    refine (toIntsS A zs.length cap zs 0 w2 h2 (by omega)).mono ?_
    rintro e w3 ⟨A3, c3, rfl, o3, b3⟩
    have s3 := b3.size
    go_wp2_with fail
    refine (HI.out A3 c3 w3 w2.heap.size o3.rd).mono ?_
    rintro e w4 ⟨B4, d4, rfl, o4, b4⟩
    have s4 := b4.size
    have b24 := b3.trans (b4.mono s3)
    have o24 := o2.below b24 (Nat.le_refl _)
    have o34 := o3.below b4 (Nat.le_refl _)
    have HE4 := Go.Lib.hid (eqInts_same B4 B2 L.length d4 d2 L _ _ _ _ w4 o4.rd o24.rd (by omega))
    go_wp2_with fail
    refine HE4.out.mono ?_
    rintro e w5 ⟨rfl, m1, rfl⟩
    have b04 : Below w.heap.size w (w4.drewN m1) := below_drewN (b12.trans (b24.mono s2')) m1
    have q2 : Ow (w4.drewN m1) w1.heap.size w2.heap.size 2 B2 L.length d2 (ints L) := o24.drewN m1
    have q3 : Ow (w4.drewN m1) w2.heap.size w3.heap.size 2 (some ⟨A3, 0, none⟩) zs.length c3 (ints zs) := o34.drewN m1
    have q4 : Ow (w4.drewN m1) w3.heap.size w4.heap.size 2 B4 L.length d4 (ints L) := o4.drewN m1
    have s5 : w4.heap.size ≤ (w4.drewN m1).heap.size := Nat.le_refl _
    clear HE4 o4 o34 o24 b24 b4 o3 b3 h2 b12 b2 o2 b1 o1
    go_wp2_with fail
    generalize w4.drewN m1 = v4 at b04 q2 q3 q4 s5 ⊢
    have h4 : Rd v4 0 v4.heap.size A zs.length (ints zs) := (h.below b04 (Nat.le_refl _)).mono (Nat.le_refl _) b04.size
    refine (toIntsS A zs.length cap zs 0 v4 h4 (by omega)).mono ?_
    rintro e w5 ⟨A5, c5, rfl, o5, b5⟩
    have s6 := b5.size
    have q25 := q2.below b5 (by omega)
    have q35 := q3.below b5 (by omega)
    have q45 := q4.below b5 (by omega)
    have b05 := b04.trans (b5.mono b04.size)
    have HE5 := Go.Lib.hid (eqInts_same (some ⟨A3, 0, none⟩) (some ⟨A5, 0, none⟩) zs.length c3 c5 zs _ _ _ _ w5 q35.rd o5.rd (by omega))
    clear q2 q3 q4 h4 b04
    go_wp2_with fail
    refine HE5.out.mono ?_
    rintro e w6 ⟨rfl, m2, rfl⟩
    have HM3 := Go.Lib.hid (markInts (some ⟨A3, 0, none⟩) zs.length c3 1 _ w2.heap.size w3.heap.size (w5.drewN m2) (q35.drewN m2) (by omega) (by omega))
    go_wp2_with fail
    refine HM3.out.mono ?_
    rintro e w7 ⟨rfl, o7, k7⟩
    have s7 : w5.heap.size ≤ w7.heap.size := k7.size
    have b07 : Below w.heap.size w w7 := (below_drewN b05 m2).trans (k7.below s2' (by show w.heap.size ≤ w5.heap.size; omega))
    have q27 : Ow w7 w1.heap.size w2.heap.size 2 B2 L.length d2 (ints L) := (q25.drewN m2).keep k7 (by show w2.heap.size ≤ w5.heap.size; omega) (.inl (Nat.le_refl _))
    have q47 : Ow w7 w3.heap.size w4.heap.size 2 B4 L.length d4 (ints L) := (q45.drewN m2).keep k7 (by show w4.heap.size ≤ w5.heap.size; omega) (.inr (Nat.le_refl _))
    clear HE5 HM3 q25 q35 q45 o5 b5 b05 k7 o7
    have hk0 : ¬ ((1 + zs.length : Nat) : Int) < 0 := by omega
    have HE7 := Go.Lib.hid (eqInts_same B4 B2 L.length d4 d2 L _ _ _ _ w7 q47.rd q27.rd (by omega))
    go_wp2_with fail
    refine HE7.out.mono ?_
    rintro e w8 ⟨rfl, m3, rfl⟩
    have HM9 := Go.Lib.hid (markInts B4 L.length d4 1 _ w3.heap.size w4.heap.size (w7.drewN m3) (q47.drewN m3) (by omega) (by omega))
    go_wp2_with fail
    refine HM9.out.mono ?_
    rintro e w9 ⟨rfl, o9, k9⟩
    have s9 : w7.heap.size ≤ w9.heap.size := k9.size
    have b09 : Below w.heap.size w w9 := (below_drewN b07 m3).trans (k9.below (by omega) (by show w.heap.size ≤ w7.heap.size; omega))
    have q29 : Ow w9 w1.heap.size w2.heap.size 2 B2 L.length d2 (ints L) := (q27.drewN m3).keep k9 (by show w2.heap.size ≤ w7.heap.size; omega) (.inl s3)
    clear HE7 HM9 q27 q47 k9 b07
    have HH9 := Go.Lib.hid (heldInts B4 L.length d4 1 w3.heap.size w4.heap.size w9 o9.rd (by omega) (by omega))
    go_wp2_with fail
    refine HH9.out.mono ?_
    rintro e w10 ⟨rfl, rfl⟩
    go_wp2_with fail
    have h9 : Rd w9 0 w9.heap.size A zs.length (ints zs) := (h.below b09 (Nat.le_refl _)).mono (Nat.le_refl _) b09.size
    refine (toIntsS A zs.length cap zs 0 w9 h9 (by omega)).mono ?_
    rintro e w10 ⟨A10, c10, rfl, o10, b10⟩
    have s10 := b10.size
    go_wp2_with fail
    refine (HI.out A10 c10 w10 w9.heap.size o10.rd).mono ?_
    rintro e w11 ⟨B11, d11, rfl, o11, b11⟩
    have s11 := b11.size
    have b911 := b10.trans (b11.mono s10)
    have q211 := q29.below b911 (by omega)
    have q411 := o9.below b911 (by omega)
    have b011 := b09.trans (b911.mono b09.size)
    have HE11 := Go.Lib.hid (eqInts_same B11 B2 L.length d11 d2 L _ _ _ _ w11 o11.rd q211.rd (by omega))
    clear HH9 h9 o10 b10 b11 b911 q29 o9 b09
    go_wp2_with fail
    refine HE11.out.mono ?_
    rintro e w12 ⟨rfl, m4, rfl⟩
    have HH12 := Go.Lib.hid (heldInts B4 L.length d4 1 w3.heap.size w4.heap.size (w11.drewN m4) (q411.drewN m4).rd (by omega) (by omega))
    go_wp2_with fail
    refine HH12.out.mono ?_
    rintro e w13 ⟨rfl, rfl⟩
    go_wp2_with fail
    go_ret
    exact ⟨rfl, below_drewN b011 m4⟩

set_option maxRecDepth 100000 in
theorem lifted (os : Os) (started : os.Started) (H : Type) (enc : TypeId × Value → H) :
    ReturnsInHanded {} Try.checked os 6 .any (Rows.fnExactSortNumbersSpec.pre6 enc Try.prog Try.f6 Rows.fnExactSortNumbersRow.domain false) (Rows.fnExactSortNumbersSpec.post enc Try.prog Try.f6 false true false false) := by
  refine returnsInHanded_of_change_sized (C := Try.checked) own started (by kernel_rfl) Try.func6
    (ChangeSpec.witness6 (enc := enc) (C := Try.checked) false ⟨#[], #[.slice none 0 0], []⟩ 8 (by kernel_rfl) (by kernel_rfl) (by kernel_rfl) (by kernel_rfl)) ?_
  intro W base args ds gs before hval0 hW hcnd hsz0 _
  have hsz : (DataW.weightsEach Try.prog (Try.f6.params.toList ++ Rows.fnExactSortNumbersSpec.plain.varTypes Try.prog) (ds ++ gs)).all (· ≤ reachBytes) = true := hsz0
  clear hsz0
  have hval : ∀ (j : Nat) t v, Try.f6.params[j]? = some t → args[j]? = some v → Value.okWide Try.prog W .any base t v := hval0
  clear hval0
  have hW' := hW
  obtain ⟨p, q, hA0, hV, rfl, hfz, hnd⟩ := hW
  have hA : DataW.TrodAll enc Try.prog W 0 (fun _ => true) true Try.f6.params.toList args.toList ds p := hA0
  rw [Try.params6] at hA hval hsz
  obtain ⟨v0, vs0, d0, ds0, p0, q0, hargs, rfl, rfl, h0, r0⟩ := trodAll_cons hA
  obtain ⟨rfl, rfl, rfl⟩ := trodAll_nil r0
  obtain rfl : args = #[v0] := by cases args; simp_all
  obtain ⟨rfl, rfl⟩ := trodVars_none hV
  obtain ⟨a0, len0, cap0, rfl⟩ := okWide_slice Try.underlying24 (hval 0 24 v0 rfl rfl)
  have k0 := h0
  have lt0 : ∀ x ∈ p0, x.block < W.heap.size := by obtain ⟨m, hm⟩ := k0; exact DataW.trod_lt m _ _ _ hm
  obtain ⟨⟨z0, rd0⟩, hlc0, hp0⟩ := open_list_ints h0
  have reach0 : len0 * 8 ≤ 140737488351232 := by
    rcases hp0 with hp0 | ⟨E0, S0, rfl, hl0⟩
    · omega
    · have := sized_slice hsz (j := 0) (t := 24) (e := 2) rfl rfl Try.underlying24
      rw [show Try.prog.bytesOf 2 = 8 by kernel_rfl] at this
      simp only [reachBytes] at this
      omega
  clear hA0
  refine (walk a0 len0 cap0 z0 W rd0 reach0).mono fun e W' ⟨he, bel⟩ => ?_
  subst he
  exact ⟨_, rfl, _, _, _, [], _, [], hW', trodAll_mk1 (shut_bool Try.underlying4 _), (trodAll_cons_mk (Below.trod laidOut (by kernel_rfl) (of_decide_eq_true (by kernel_rfl)) k0 bel lt0) trodAll_mk0), rfl, bel.frame _, fun h => by cases h⟩

theorem over : Rows.fnExactSortNumbersRow.holds Try.pinned (OpenSpec.ofChange Rows.fnExactSortNumbersSpec) :=
  OpenClaim.holds_of_wide 6 Try.f6 rfl rfl rfl rfl rfl rfl rfl ⟨rfl, rfl, rfl, rfl, rfl⟩ rfl rfl rfl rfl rfl (by kernel_rfl) Try.func6 (by kernel_rfl)
    (of_decide_eq_true (by kernel_rfl)) (by unfold Func.isWrapper; first | (rw [if_pos (by decide +kernel)]; kernel_rfl) | (rw [if_neg (by decide +kernel)]; exact ⟨rfl, rfl⟩))
    (fun os started H enc _ => lifted os started H enc)

theorem proved : Rows.FnExactSortNumbersSaid := over
end Go.Proofs.Ytgdibahflhlakaa.fnExactSortNumbers
