/- ReachableGears of the program answers as the model does, at every argument. -/
import Derived.Test.YthedanpldebjcaaRows
import Derived.Test.YthedanpldebjcaaShImplC
import Derived.Test.YthedanpldebjcaaLawTr
import Derived.Test.YthedanpldebjcaaOpenTr
import Derived.WalkKit
import Derived.ProofKit
import Derived.OpenShut
import Derived.ShutString
import Derived.SizedLaws
namespace Go.Proofs.Ythedanpldebjcaa.fnExactReachableGears
open Go.ChangeShapes Go.WideShapes Go.ChangeAt Go.RowKit
open Go.ChangeMaps (open_string shut_string)
set_option linter.unusedVariables false

set_option maxRecDepth 100000 in
set_option maxHeartbeats 16000000 in
theorem walk (x : Trn) (A : Option Addr) (c : Nat) (B : Option Addr) (d : Nat) (aLimit : Int) (aFront : Int) (aRear : Int) (w : World) (T : InTr x A c B d w) (_waLimit : (Lit.int .i64 aLimit).wf = true) (_waFront : (Lit.int .i64 aFront).wf = true) (_waRear : (Lit.int .i64 aRear).wf = true) :
    Calls Try.prog 10 #[trainV x A c B d, .int .i64 aLimit, .int .i64 aFront, .int .i64 aRear] w fun e w' => e = .returned (.bool true) ∧ Below w.heap.size w w' := by
  have HSZ := Go.Lib.hid (fun w0 => law_szTrain (.bool true) A x.f.length c B x.r.length d x.n 1048576 w0 (by omega) (by omega) T.fm T.rm)
  clear _waLimit _waFront _waRear
  by_cases hb : szT x.f.length x.r.length 1048576 < 0
  case pos =>
    rw [szT_neg hb] at HSZ
    clear hb T
    unfold trainV
    go_enter Try.func10, Try.ntmps10
    go_upto_region 1 with fail
    refine wp_gen (R := fun W => Box W w.heap.size [.slice A x.f.length c, .slice B x.r.length d, .int .i64 x.n] ∧ Below w.heap.size w W) ⟨Box.new rfl rfl, by go_grown⟩ ?_
    rintro W1 ⟨K0, B1⟩
    have k0_0 := K0.at_ 0 _ rfl
    have k0_1 := K0.at_ 1 _ rfl
    have k0_2 := K0.at_ 2 _ rfl
    have k0_f := K0.fr
    have k0_l := K0.lt
    go_wp2_with fail
    refine (HSZ.out _).mono ?_
    rintro _ w2 ⟨rfl, b2⟩
    have B2 := upB B1 b2
    go_wp2_with fail
    go_ret
    exact ⟨rfl, B2⟩
  case neg =>
    have HFEW := Go.Lib.hid (szT_few hb)
    have HT := Go.Lib.hid (T.trl HFEW.out)
    obtain ⟨V0, V1, hv⟩ : ∃ V0 V1, reachR x aLimit aFront aRear = (V0, V1) := ⟨_, _, rfl⟩
    have HS := Go.Lib.hid (fun A c B d w0 T0 => specReach x A c B d aLimit aFront aRear w0 T0)
    have HI := Go.Lib.hid (fun A c B d w0 T0 => implReach x A c B d aLimit aFront aRear w0 T0)
    rw [hv] at HS HI
    clear hv T
    try dsimp only [Gives2, GivesBI] at HS HI
    have HTO := Go.Lib.hid (fun w0 T0 => law_toTrain x A c B d w0 T0)
    have HEQ := Go.Lib.hid (fun A c B d A2 c2 B2 d2 w0 T0 T1 => law_eqTrain x A c B d A2 c2 B2 d2 w0 T0 T1)
    have hne0 : (V0 != V0) = false := by simp
    have hne1 : (V1 != V1) = false := by simp
    generalize szT x.f.length x.r.length 1048576 = z at HSZ hb
    unfold trainV at *
    go_enter Try.func10, Try.ntmps10
    go_upto_region 1 with fail
    refine wp_gen (R := fun W => Box W w.heap.size [.slice A x.f.length c, .slice B x.r.length d, .int .i64 x.n] ∧ Below w.heap.size w W) ⟨Box.new rfl rfl, by go_grown⟩ ?_
    rintro W1 ⟨K0, B1⟩
    have k0_0 := K0.at_ 0 _ rfl
    have k0_1 := K0.at_ 1 _ rfl
    have k0_2 := K0.at_ 2 _ rfl
    have k0_f := K0.fr
    have k0_l := K0.lt
    go_wp2_with fail
    refine (HSZ.out _).mono ?_
    rintro _ w2 ⟨rfl, b2⟩
    clear k0_0 k0_1 k0_2 k0_f k0_l
    have K0 := K0.below b2
    have B2 := upB B1 b2
    have HT2 := Go.Lib.hid (HT.out.below B2)
    clear b2 B1
    have k0_0 := K0.at_ 0 _ rfl
    have k0_1 := K0.at_ 1 _ rfl
    have k0_2 := K0.at_ 2 _ rfl
    have k0_f := K0.fr
    have k0_l := K0.lt
    go_wp2_with fail
    refine (HTO.out _ HT2.out).mono ?_
    rintro e w3 ⟨A3, c3, B3, d3, he, o3, b3⟩
    unfold trainV at he
    subst he
    have HT3 := Go.Lib.hid (o3.trl (Nat.le_refl _) HFEW.out)
    clear k0_0 k0_1 k0_2 k0_f k0_l
    have K0 := K0.below b3
    have B3' := upB B2 b3
    clear b3 o3 B2
    go_wp2_with fail
    refine (HS.out A3 c3 B3 d3 _ HT3.out).mono ?_
    rintro _ w4 ⟨rfl, b4⟩
    have K0 := K0.below b4
    have B4 := upB B3' b4
    have HT4 := Go.Lib.hid (HT.out.below B4)
    clear b4 B3' HT3 HT2
    have k0_0 := K0.at_ 0 _ rfl
    have k0_1 := K0.at_ 1 _ rfl
    have k0_2 := K0.at_ 2 _ rfl
    have k0_f := K0.fr
    have k0_l := K0.lt
    go_wp2_with fail
    refine (HTO.out _ HT4.out).mono ?_
    rintro e w5 ⟨A5, c5, B5, d5, he, o5, b5⟩
    unfold trainV at he
    subst he
    have HTX := Go.Lib.hid (o5.trl (Nat.le_refl _) HFEW.out)
    clear k0_0 k0_1 k0_2 k0_f k0_l
    have K0 := K0.below b5
    have B5' := upB B4 b5
    have hlt5 := K0.lt
    have hs5 := B5'.size
    clear b5 o5 B4 HT4
    go_upto_region 7 with fail
    refine wp_gen (R := fun W => Box W w.heap.size [.slice A x.f.length c, .slice B x.r.length d, .int .i64 x.n] ∧ Box W w5.heap.size [.slice A5 x.f.length c5, .slice B5 x.r.length d5, .int .i64 x.n] ∧ Below w5.heap.size w5 W) ⟨K0.alloc _, Box.new rfl rfl, by go_grown⟩ ?_
    clear K0
    rintro w6 ⟨K0, KX, b6⟩
    obtain ⟨px, hpx⟩ : ∃ px, w5.heap.size = px := ⟨_, rfl⟩
    have B6' := upB B5' b6
    have HTX6 := Go.Lib.hid (HTX.out.below b6)
    rw [hpx] at KX ⊢
    clear b6 B5' HTX hpx hlt5 hs5
    have kx_0 := KX.at_ 0 _ rfl
    have kx_1 := KX.at_ 1 _ rfl
    have kx_2 := KX.at_ 2 _ rfl
    have kx_f := KX.fr
    have kx_l := KX.lt
    go_wp2_with fail
    refine (HI.out A5 c5 B5 d5 _ HTX6.out).mono ?_
    rintro _ w8 ⟨rfl, b8⟩
    clear kx_0 kx_1 kx_2 kx_f kx_l
    have K0 := K0.below b8
    have KX := KX.below b8
    have HB8 := Go.Lib.hid (upB B6' b8)
    have HTX8 := Go.Lib.hid (HTX6.out.below b8)
    have HTd := Go.Lib.hid (HT.out.below (below_drewN HB8.out 1))
    have HSW := Go.Lib.hid (show Below w8.heap.size w8 (w8.drewN 1) from below_drewN (Below.refl _ _) 1)
    clear b8 B6' HTX6
    have kx_0 := KX.at_ 0 _ rfl
    have kx_1 := KX.at_ 1 _ rfl
    have kx_2 := KX.at_ 2 _ rfl
    have kx_f := KX.fr
    have kx_l := KX.lt
    have k0_0 := K0.at_ 0 _ rfl
    have k0_1 := K0.at_ 1 _ rfl
    have k0_2 := K0.at_ 2 _ rfl
    have k0_f := K0.fr
    have k0_l := K0.lt
    go_upto_region 10 with fail
    refine wp_region_held_drew (S := fun w' => w'.cell? ⟨px, 0, none⟩ = some (.slice A5 x.f.length c5) ∧ w'.cell? ⟨px, 1, none⟩ = some (.slice B5 x.r.length d5) ∧ w'.cell? ⟨px, 2, none⟩ = some (.int .i64 x.n) ∧ w'.cell? ⟨w.heap.size, 0, none⟩ = some (.slice A x.f.length c) ∧ w'.cell? ⟨w.heap.size, 1, none⟩ = some (.slice B x.r.length d) ∧ w'.cell? ⟨w.heap.size, 2, none⟩ = some (.int .i64 x.n)) (by kernel_rfl) (by exact ⟨kx_0, kx_1, kx_2, k0_0, k0_1, k0_2⟩) (fun hHeld => ?_)
    refine wpAnyH_take (i := 0) (v := ?vk1) rfl (by kernel_rfl) (by kernel_rfl) (by kernel_rfl) (fun _ _ _ h => h) (Or.inl ⟨by rfl, ?hyk1⟩) (by assumption) ?restk1
    case hyk1 => (intro w hSw; (try dsimp only at hSw); go_simp; try with_reducible rfl)
    try simp only [List.getElem_toArray, List.getElem_cons_succ, List.getElem_cons_zero, Act.put, List.setIfInBounds_toArray, List.set_cons_zero, List.set_cons_succ]
    refine wpAnyH_take (i := 1) (v := ?vk2) rfl (by kernel_rfl) (by kernel_rfl) (by kernel_rfl) (fun _ _ _ h => h) (Or.inl ⟨by rfl, ?hyk2⟩) (by assumption) ?restk2
    case hyk2 => (intro w hSw; (try dsimp only at hSw); go_simp; try with_reducible rfl)
    try simp only [List.getElem_toArray, List.getElem_cons_succ, List.getElem_cons_zero, Act.put, List.setIfInBounds_toArray, List.set_cons_zero, List.set_cons_succ]
    refine wpAnyH_ready (rs := [2]) (by kernel_rfl) (by simp) ?_
    refine AllReadyH.cons rfl (fun K hK => ?_) AllReadyH.nil
    go_simp
    (go_at_call 40; refine (HTO.out _ HTd.out).mono ?_; rintro e wc1 ⟨A6, c6, B6, d6, he, o6, bc⟩; unfold trainV at he; subst he)
    have HBc := Go.Lib.hid (HSW.out.trans (bc.mono HSW.out.size))
    have HTx := Go.Lib.hid (HTX8.out.below HBc.out)
    have HTy := Go.Lib.hid (o6.trl (Nat.le_refl _) HFEW.out)
    clear o6 bc
    refine hK.out _ _ ?_ (fun hHeld => ?_)
    · exact ⟨(HBc.out.cell (p := ⟨px, 0, none⟩) kx_l).trans kx_0, (HBc.out.cell (p := ⟨px, 1, none⟩) kx_l).trans kx_1, (HBc.out.cell (p := ⟨px, 2, none⟩) kx_l).trans kx_2, (HBc.out.cell (p := ⟨w.heap.size, 0, none⟩) k0_l).trans k0_0, (HBc.out.cell (p := ⟨w.heap.size, 1, none⟩) k0_l).trans k0_1, (HBc.out.cell (p := ⟨w.heap.size, 2, none⟩) k0_l).trans k0_2⟩
    clear hK K
    try simp only [List.getElem_toArray, List.getElem_cons_succ, List.getElem_cons_zero, Act.put, List.setIfInBounds_toArray, List.set_cons_zero, List.set_cons_succ]
    refine wpAnyH_ready (rs := [3]) (by kernel_rfl) (by simp) ?_
    refine AllReadyH.cons rfl (fun K hK => ?_) AllReadyH.nil
    go_simp
    (go_at_call 41; refine (HEQ.out A5 c5 B5 d5 A6 c6 B6 d6 _ HTx.out HTy.out).mono ?_; rintro _ wc2 ⟨rfl, bc⟩)
    have HBc := Go.Lib.hid (HBc.out.trans (bc.mono HBc.out.size))
    clear bc
    refine hK.out _ _ ?_ (fun hHeld => ?_)
    · exact ⟨(HBc.out.cell (p := ⟨px, 0, none⟩) kx_l).trans kx_0, (HBc.out.cell (p := ⟨px, 1, none⟩) kx_l).trans kx_1, (HBc.out.cell (p := ⟨px, 2, none⟩) kx_l).trans kx_2, (HBc.out.cell (p := ⟨w.heap.size, 0, none⟩) k0_l).trans k0_0, (HBc.out.cell (p := ⟨w.heap.size, 1, none⟩) k0_l).trans k0_1, (HBc.out.cell (p := ⟨w.heap.size, 2, none⟩) k0_l).trans k0_2⟩
    clear hK K
    try simp only [List.getElem_toArray, List.getElem_cons_succ, List.getElem_cons_zero, Act.put, List.setIfInBounds_toArray, List.set_cons_zero, List.set_cons_succ]
    refine wpAnyH_take (i := 4) (v := ?vk3) rfl (by kernel_rfl) (by kernel_rfl) (by kernel_rfl) (fun _ _ _ h => h) (Or.inl ⟨by rfl, ?hyk3⟩) (by assumption) ?restk3
    case hyk3 => (intro w hSw; (try dsimp only at hSw); go_simp; try with_reducible rfl)
    try simp only [List.getElem_toArray, List.getElem_cons_succ, List.getElem_cons_zero, Act.put, List.setIfInBounds_toArray, List.set_cons_zero, List.set_cons_succ]
    refine wpAnyH_done (by kernel_rfl) ?_ _
    have HBE := Go.Lib.hid (upB HB8.out HBc.out)
    clear k0_0 k0_1 k0_2 k0_f k0_l kx_0 kx_1 kx_2 kx_f kx_l
    clear HBc HSW
    go_wp2_with fail
    go_ret
    exact ⟨rfl, HBE.out⟩

set_option maxRecDepth 100000 in
theorem lifted (os : Os) (started : os.Started) (H : Type) (enc : TypeId × Value → H) :
    ReturnsInHanded {} Try.checked os 10 .any (Rows.fnExactReachableGearsSpec.pre6 enc Try.prog Try.f10 Rows.fnExactReachableGearsRow.domain false) (Rows.fnExactReachableGearsSpec.post enc Try.prog Try.f10 false true false false) := by
  refine returnsInHanded_of_change_sized (C := Try.checked) own started (by kernel_rfl) Try.func10
    (ChangeSpec.witness6 (enc := enc) (C := Try.checked) false ⟨#[], #[.agg #[.slice none 0 0, .slice none 0 0, .int .i64 0], .int .i64 0, .int .i64 0, .int .i64 0], []⟩ 8 (by kernel_rfl) (by kernel_rfl) (by kernel_rfl) (by kernel_rfl)) ?_
  intro W base args ds gs before hval0 hW hcnd hsz0 _
  have hsz : (DataW.weightsEach Try.prog (Try.f10.params.toList ++ Rows.fnExactReachableGearsSpec.plain.varTypes Try.prog) (ds ++ gs)).all (· ≤ reachBytes) = true := hsz0
  clear hsz0
  have hval : ∀ (j : Nat) t v, Try.f10.params[j]? = some t → args[j]? = some v → Value.okWide Try.prog W .any base t v := hval0
  clear hval0
  have hW' := hW
  obtain ⟨p, q, hA0, hV, rfl, hfz, hnd⟩ := hW
  have hA : DataW.TrodAll enc Try.prog W 0 (fun _ => true) true Try.f10.params.toList args.toList ds p := hA0
  rw [Try.params10] at hA hval hsz
  obtain ⟨v0, vs0, d0, ds0, p0, q0, hargs, rfl, rfl, h0, r0⟩ := trodAll_cons hA
  obtain ⟨v1, vs1, d1, ds1, p1, q1, rfl, rfl, rfl, h1, r1⟩ := trodAll_cons r0
  obtain ⟨v2, vs2, d2, ds2, p2, q2, rfl, rfl, rfl, h2, r2⟩ := trodAll_cons r1
  obtain ⟨v3, vs3, d3, ds3, p3, q3, rfl, rfl, rfl, h3, r3⟩ := trodAll_cons r2
  obtain ⟨rfl, rfl, rfl⟩ := trodAll_nil r3
  obtain rfl : args = #[v0, v1, v2, v3] := by cases args; simp_all
  obtain ⟨rfl, rfl⟩ := trodVars_none hV
  have k0 := h0
  have lt0 : ∀ x ∈ p0, x.block < W.heap.size := by obtain ⟨m, hm⟩ := k0; exact DataW.trod_lt m _ _ _ hm
  obtain ⟨A0, B0, n0, c0, m0, e0, q0, f0, z0, rfl, rf0, lf0, mf0, rr0, lr0, mr0, w0⟩ := open_train (hval 0 53 v0 rfl rfl) h0
  obtain rfl : f0.length = n0 := by have := rf0.len; rwa [ints_len] at this
  obtain rfl : z0.length = m0 := by have := rr0.len; rwa [ints_len] at this
  obtain ⟨a1, rfl, rfl, rfl, w1⟩ := open_int Try.underlying2 (hval 1 2 v1 rfl rfl) h1
  obtain ⟨a2, rfl, rfl, rfl, w2⟩ := open_int Try.underlying2 (hval 2 2 v2 rfl rfl) h2
  obtain ⟨a3, rfl, rfl, rfl, w3⟩ := open_int Try.underlying2 (hval 3 2 v3 rfl rfl) h3
  clear hA0
  refine (walk ⟨f0, z0, q0⟩ A0 c0 B0 e0 a1 a2 a3 W ⟨rf0, lf0, mf0, rr0, lr0, mr0⟩ w1 w2 w3).mono fun e W' ⟨he, bel⟩ => ?_
  subst he
  exact ⟨_, rfl, _, _, _, [], _, [], hW', trodAll_mk1 (shut_bool Try.underlying4 _), (trodAll_cons_mk (Below.trod laidOut (by kernel_rfl) (of_decide_eq_true (by kernel_rfl)) k0 bel lt0) (trodAll_cons_mk (shut_int Try.underlying2 w1) (trodAll_cons_mk (shut_int Try.underlying2 w2) (trodAll_cons_mk (shut_int Try.underlying2 w3) trodAll_mk0)))), rfl, bel.frame _, fun h => by cases h⟩

theorem over : Rows.fnExactReachableGearsRow.holds Try.pinned (OpenSpec.ofChange Rows.fnExactReachableGearsSpec) :=
  OpenClaim.holds_of_wide 10 Try.f10 rfl rfl rfl rfl rfl rfl rfl ⟨rfl, rfl, rfl, rfl, rfl⟩ rfl rfl rfl rfl rfl (by kernel_rfl) Try.func10 (by kernel_rfl)
    (of_decide_eq_true (by kernel_rfl)) (by unfold Func.isWrapper; first | (rw [if_pos (by decide +kernel)]; kernel_rfl) | (rw [if_neg (by decide +kernel)]; exact ⟨rfl, rfl⟩))
    (fun os started H enc _ => lifted os started H enc)

theorem proved : Rows.FnExactReachableGearsSaid := over
end Go.Proofs.Ythedanpldebjcaa.fnExactReachableGears
