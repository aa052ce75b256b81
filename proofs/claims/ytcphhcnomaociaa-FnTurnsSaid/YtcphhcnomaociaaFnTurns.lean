/- laws.FnTurns answers true for every list of bytes: turns and the rest make the steps, and a point is not further than the radius and a little. No condition. -/
import Derived.Test.YtcphhcnomaociaaRows
import Derived.Test.YtcphhcnomaociaaCosI
import Derived.Test.YtcphhcnomaociaaOpen
import Derived.Test.YtcphhcnomaociaaOpenB
import Derived.Test.YtcphhcnomaociaaBig
import Derived.Test.YtcphhcnomaociaaDrawCos
import Derived.WalkKit
import Derived.ProofKit
import Derived.OpenShut
import Derived.ShutString
import Derived.SizedLaws
namespace Go.Proofs.Ytcphhcnomaociaa.fnTurns
open Go.ChangeShapes Go.WideShapes Go.ChangeAt Go.RowKit
open Go.ChangeMaps (open_string shut_string)
set_option linter.unusedVariables false

theorem sq_bd3 {x : Int} (h0 : -20000 ≤ x) (h1 : x ≤ 20000) : 0 ≤ x * x ∧ x * x ≤ 400000000 := by
  have := prod_le (a := x) (b := x) (p := 20000) (q := 20000) ⟨h0, h1⟩ ⟨h0, h1⟩
  have := sq0 x
  omega
set_option maxRecDepth 100000 in
set_option maxHeartbeats 8000000 in
theorem walk (A : Option Addr) (n cap : Nat) (bs : List Int) (w : World) (h : Rd w 0 w.heap.size A n (byts bs)) (hn : n * 1 ≤ 140737488351232) (hs : ∀ z ∈ bs, 0 ≤ z ∧ z ≤ 255) :
    Calls Try.prog 4 #[.slice A n cap] w fun e w' => e = .returned (.bool true) ∧ Below w.heap.size w w' := by
  have HB := Go.Lib.hid (big_ A n cap w)
  by_cases hbig : (4096 : Int) < n
  · go_enter Try.func4, Try.ntmps4
    go_wp2_with fail
    refine HB.out.mono ?_
    rintro e w' ⟨rfl, rfl⟩
    go_wp2_with fail
    go_ret
    exact ⟨rfl, Below.refl _ _⟩
  · have hb2 := big_ A n cap w
    rw [decide_eq_false hbig] at hb2
    have HB2 := Go.Lib.hid hb2
    have HRD := Go.Lib.hid (fun w1 (hb : Below w.heap.size w w1) => (h.below hb (Nat.le_refl _)).mono (Nat.le_refl _) hb.size)
    clear hb2 HB hbig
    go_enter Try.func4, Try.ntmps4
    go_wp2_with fail
    refine HB2.out.mono ?_
    rintro e w' ⟨rfl, rfl⟩
    have B0 := Go.Lib.hid (Below.refl w.heap.size w)
    go_wp2_with fail
    refine (drawTurnsOf A n cap bs w (HRD.out w B0.out) hs (by omega)).mono ?_
    rintro _ w1 ⟨m, rfl, hm, b1⟩
    have B1 := Go.Lib.hid (B0.out.trans (b1.mono B0.out.size))
    clear b1
    clear hm
    have HI := Go.Lib.hid (fun w0 => implTurnsOf m w0)
    have HS := Go.Lib.hid (fun w0 => specTurnsOf m w0)
    cases hb : stepsB m
    · have hv : turnsV m = .tuple #[.int .i64 0, .int .i64 0, .int .i64 2] := by unfold turnsV; rw [hb]; rfl
      rw [hv] at HI HS
      clear hv hb
      go_wp2_with fail
      refine (HI.out _).mono ?_
      rintro _ _ ⟨rfl, rfl⟩
      go_wp2_with fail
      refine (HS.out _).mono ?_
      rintro _ _ ⟨rfl, rfl⟩
      go_wp2_with fail
      refine (drawPointOn A n cap bs w1 (HRD.out w1 B1.out) hs (by omega)).mono ?_
      rintro _ w2 ⟨a, b, rfl, ha, hb, b2⟩
      have B2 := Go.Lib.hid (B1.out.trans (b2.mono B1.out.size))
      clear b2
      have HP := Go.Lib.hid (fun w0 => implPointOn a b w0)
      have HQ := Go.Lib.hid (fun w0 => specPointOn a b w0)
      cases hr : (radB a && stepsB b)
      · skip
        have hv : tripV (pointA a b) = .tuple #[.int .i64 0, .int .i64 0, .int .i64 2] := by unfold pointA; rw [hr]; rfl
        rw [hv] at HP HQ
        clear hv ha hb hr
        go_wp2_with fail
        refine (HP.out _).mono ?_
        rintro _ w3 ⟨rfl, b3⟩
        have B3 := Go.Lib.hid (B2.out.trans (b3.mono B2.out.size))
        clear b3
        go_wp2_with fail
        refine (HQ.out _).mono ?_
        rintro _ w4 ⟨rfl, b4⟩
        have B4 := Go.Lib.hid (B3.out.trans (b4.mono B3.out.size))
        clear b4
        go_wp2_with fail
        go_ret
        exact ⟨rfl, B4.out⟩
      · skip
        simp only [Bool.and_eq_true] at hr
        obtain ⟨hr1, hr2⟩ := hr
        obtain ⟨a0, a1⟩ := radB_iff.1 hr1
        have hv : tripV (pointA a b) = .tuple #[.int .i64 (nrm (a * cosI b)), .int .i64 (nrm (a * cosI (180 - b))), .int .i64 0] := by unfold pointA; rw [hr1, hr2]; rfl
        rw [hv] at HP HQ
        obtain ⟨n1, n2⟩ := point_norm a b a0 a1
        have bx := nrm_mul a0 (cosI_bd b)
        have yb := nrm_mul a0 (cosI_bd (180 - b))
        generalize nrm (a * cosI b) = x at *
        generalize nrm (a * cosI (180 - b)) = y at *
        clear hv ha hb hr1 hr2
        have sx := sq_bd3 (x := x) (by omega) (by omega)
        have sy := sq_bd3 (x := y) (by omega) (by omega)
        have sa := sq_bd3 (x := a + 2) (by omega) (by omega)
        obtain ⟨sx0, sx1⟩ := sx
        obtain ⟨sy0, sy1⟩ := sy
        obtain ⟨sa0, sa1⟩ := sa
        have wx : IntKind.i64.wrap (x * x) = x * x := IntWalk.i64_in _ (by omega)
        have wy : IntKind.i64.wrap (y * y) = y * y := IntWalk.i64_in _ (by omega)
        have wa : IntKind.i64.wrap ((a + 2) * (a + 2)) = (a + 2) * (a + 2) := IntWalk.i64_in _ (by omega)
        have g1 : ¬ (a + 2) * (a + 2) < x * x + y * y := by omega
        by_cases hle : a ≤ 2
        · rw [show max 0 (a - 2) = 0 by omega] at n2
          have g2 : ¬ x * x + y * y < 0 := by omega
          clear n1 n2 bx yb
          go_wp2_with fail
          refine (HP.out _).mono ?_
          rintro _ w3 ⟨rfl, b3⟩
          have B3 := Go.Lib.hid (B2.out.trans (b3.mono B2.out.size))
          clear b3
          go_wp2_with fail
          refine (HQ.out _).mono ?_
          rintro _ w4 ⟨rfl, b4⟩
          have B4 := Go.Lib.hid (B3.out.trans (b4.mono B3.out.size))
          clear b4
          go_wp2_with fail
          all_goals first | (go_ret; exact ⟨rfl, B4.out⟩) | (exfalso; have e0 : wrap64 0 = 0 := (by kernel_rfl); first | omega | (simp only [e0] at * <;> omega))
        · rw [show max 0 (a - 2) = a - 2 by omega] at n2
          have sm := sq_bd3 (x := a - 2) (by omega) (by omega)
          obtain ⟨sm0, sm1⟩ := sm
          have wm : IntKind.i64.wrap ((a - 2) * (a - 2)) = (a - 2) * (a - 2) := IntWalk.i64_in _ (by omega)
          have g2 : ¬ x * x + y * y < (a - 2) * (a - 2) := by omega
          clear n1 n2 bx yb
          go_wp2_with fail
          refine (HP.out _).mono ?_
          rintro _ w3 ⟨rfl, b3⟩
          have B3 := Go.Lib.hid (B2.out.trans (b3.mono B2.out.size))
          clear b3
          go_wp2_with fail
          refine (HQ.out _).mono ?_
          rintro _ w4 ⟨rfl, b4⟩
          have B4 := Go.Lib.hid (B3.out.trans (b4.mono B3.out.size))
          clear b4
          go_wp2_with fail
          all_goals first | (go_ret; exact ⟨rfl, B4.out⟩) | (exfalso; have e0 : wrap64 0 = 0 := (by kernel_rfl); first | omega | (simp only [e0] at * <;> omega))
    · have hv : turnsV m = .tuple #[.int .i64 (m / 720), .int .i64 (m % 720), .int .i64 0] := by unfold turnsV; rw [hb]; rfl
      rw [hv] at HI HS
      obtain ⟨m0, m1⟩ := stepsB_iff.1 hb
      have e1 : m / 720 * 720 + m % 720 = m := by omega
      have e2 : 0 ≤ m % 720 := by omega
      have e3 : m % 720 < 720 := by omega
      have e4 : -1000 ≤ m / 720 := by omega
      have e5 : m / 720 ≤ 1000 := by omega
      generalize m / 720 = t at *
      generalize m % 720 = r at *
      clear hv hb
      go_wp2_with fail
      refine (HI.out _).mono ?_
      rintro _ _ ⟨rfl, rfl⟩
      go_wp2_with fail
      refine (HS.out _).mono ?_
      rintro _ _ ⟨rfl, rfl⟩
      go_wp2_with fail
      refine (drawPointOn A n cap bs w1 (HRD.out w1 B1.out) hs (by omega)).mono ?_
      rintro _ w2 ⟨a, b, rfl, ha, hb, b2⟩
      have B2 := Go.Lib.hid (B1.out.trans (b2.mono B1.out.size))
      clear b2
      have HP := Go.Lib.hid (fun w0 => implPointOn a b w0)
      have HQ := Go.Lib.hid (fun w0 => specPointOn a b w0)
      cases hr : (radB a && stepsB b)
      · skip
        have hv : tripV (pointA a b) = .tuple #[.int .i64 0, .int .i64 0, .int .i64 2] := by unfold pointA; rw [hr]; rfl
        rw [hv] at HP HQ
        clear hv ha hb hr
        go_wp2_with fail
        refine (HP.out _).mono ?_
        rintro _ w3 ⟨rfl, b3⟩
        have B3 := Go.Lib.hid (B2.out.trans (b3.mono B2.out.size))
        clear b3
        go_wp2_with fail
        refine (HQ.out _).mono ?_
        rintro _ w4 ⟨rfl, b4⟩
        have B4 := Go.Lib.hid (B3.out.trans (b4.mono B3.out.size))
        clear b4
        go_wp2_with fail
        go_ret
        exact ⟨rfl, B4.out⟩
      · skip
        simp only [Bool.and_eq_true] at hr
        obtain ⟨hr1, hr2⟩ := hr
        obtain ⟨a0, a1⟩ := radB_iff.1 hr1
        have hv : tripV (pointA a b) = .tuple #[.int .i64 (nrm (a * cosI b)), .int .i64 (nrm (a * cosI (180 - b))), .int .i64 0] := by unfold pointA; rw [hr1, hr2]; rfl
        rw [hv] at HP HQ
        obtain ⟨n1, n2⟩ := point_norm a b a0 a1
        have bx := nrm_mul a0 (cosI_bd b)
        have yb := nrm_mul a0 (cosI_bd (180 - b))
        generalize nrm (a * cosI b) = x at *
        generalize nrm (a * cosI (180 - b)) = y at *
        clear hv ha hb hr1 hr2
        have sx := sq_bd3 (x := x) (by omega) (by omega)
        have sy := sq_bd3 (x := y) (by omega) (by omega)
        have sa := sq_bd3 (x := a + 2) (by omega) (by omega)
        obtain ⟨sx0, sx1⟩ := sx
        obtain ⟨sy0, sy1⟩ := sy
        obtain ⟨sa0, sa1⟩ := sa
        have wx : IntKind.i64.wrap (x * x) = x * x := IntWalk.i64_in _ (by omega)
        have wy : IntKind.i64.wrap (y * y) = y * y := IntWalk.i64_in _ (by omega)
        have wa : IntKind.i64.wrap ((a + 2) * (a + 2)) = (a + 2) * (a + 2) := IntWalk.i64_in _ (by omega)
        have g1 : ¬ (a + 2) * (a + 2) < x * x + y * y := by omega
        by_cases hle : a ≤ 2
        · rw [show max 0 (a - 2) = 0 by omega] at n2
          have g2 : ¬ x * x + y * y < 0 := by omega
          clear n1 n2 bx yb
          go_wp2_with fail
          refine (HP.out _).mono ?_
          rintro _ w3 ⟨rfl, b3⟩
          have B3 := Go.Lib.hid (B2.out.trans (b3.mono B2.out.size))
          clear b3
          go_wp2_with fail
          refine (HQ.out _).mono ?_
          rintro _ w4 ⟨rfl, b4⟩
          have B4 := Go.Lib.hid (B3.out.trans (b4.mono B3.out.size))
          clear b4
          go_wp2_with fail
          all_goals first | (go_ret; exact ⟨rfl, B4.out⟩) | (exfalso; have e0 : wrap64 0 = 0 := (by kernel_rfl); first | omega | (simp only [e0] at * <;> omega))
        · rw [show max 0 (a - 2) = a - 2 by omega] at n2
          have sm := sq_bd3 (x := a - 2) (by omega) (by omega)
          obtain ⟨sm0, sm1⟩ := sm
          have wm : IntKind.i64.wrap ((a - 2) * (a - 2)) = (a - 2) * (a - 2) := IntWalk.i64_in _ (by omega)
          have g2 : ¬ x * x + y * y < (a - 2) * (a - 2) := by omega
          clear n1 n2 bx yb
          go_wp2_with fail
          refine (HP.out _).mono ?_
          rintro _ w3 ⟨rfl, b3⟩
          have B3 := Go.Lib.hid (B2.out.trans (b3.mono B2.out.size))
          clear b3
          go_wp2_with fail
          refine (HQ.out _).mono ?_
          rintro _ w4 ⟨rfl, b4⟩
          have B4 := Go.Lib.hid (B3.out.trans (b4.mono B3.out.size))
          clear b4
          go_wp2_with fail
          all_goals first | (go_ret; exact ⟨rfl, B4.out⟩) | (exfalso; have e0 : wrap64 0 = 0 := (by kernel_rfl); first | omega | (simp only [e0] at * <;> omega))

set_option maxRecDepth 100000 in
theorem lifted (os : Os) (started : os.Started) (H : Type) (enc : TypeId × Value → H) :
    ReturnsInHanded {} Try.checked os 4 .any (Rows.fnTurnsSpec.pre6 enc Try.prog Try.f4 Rows.fnTurnsRow.domain false) (Rows.fnTurnsSpec.post enc Try.prog Try.f4 false true false false) := by
  refine returnsInHanded_of_change_sized (C := Try.checked) own started (by kernel_rfl) Try.func4
    (ChangeSpec.witness6 (enc := enc) (C := Try.checked) false ⟨#[], #[.slice none 0 0], []⟩ 8 (by kernel_rfl) (by kernel_rfl) (by kernel_rfl) (by kernel_rfl)) ?_
  intro W base args ds gs before hval0 hW hcnd hsz0 _
  have hsz : (DataW.weightsEach Try.prog (Try.f4.params.toList ++ Rows.fnTurnsSpec.plain.varTypes Try.prog) (ds ++ gs)).all (· ≤ reachBytes) = true := hsz0
  clear hsz0
  have hval : ∀ (j : Nat) t v, Try.f4.params[j]? = some t → args[j]? = some v → Value.okWide Try.prog W .any base t v := hval0
  clear hval0
  have hW' := hW
  obtain ⟨p, q, hA0, hV, rfl, hfz, hnd⟩ := hW
  have hA : DataW.TrodAll enc Try.prog W 0 (fun _ => true) true Try.f4.params.toList args.toList ds p := hA0
  rw [Try.params4] at hA hval hsz
  obtain ⟨v0, vs0, d0, ds0, p0, q0, hargs, rfl, rfl, h0, r0⟩ := trodAll_cons hA
  obtain ⟨rfl, rfl, rfl⟩ := trodAll_nil r0
  obtain rfl : args = #[v0] := by cases args; simp_all
  obtain ⟨rfl, rfl⟩ := trodVars_none hV
  obtain ⟨a0, len0, cap0, rfl⟩ := okWide_slice Try.underlying22 (hval 0 22 v0 rfl rfl)
  have k0 := h0
  have lt0 : ∀ x ∈ p0, x.block < W.heap.size := by obtain ⟨m, hm⟩ := k0; exact DataW.trod_lt m _ _ _ hm
  obtain ⟨⟨z0, rd0, sz0⟩, hlc0, hp0⟩ := open_list_bytes h0
  have reach0 : len0 * 1 ≤ 140737488351232 := by
    rcases hp0 with hp0 | ⟨E0, S0, rfl, hl0⟩
    · omega
    · have := sized_slice hsz (j := 0) (t := 22) (e := 5) rfl rfl Try.underlying22
      rw [show Try.prog.bytesOf 5 = 1 by kernel_rfl] at this
      simp only [reachBytes] at this
      omega
  clear hA0
  refine (walk a0 len0 cap0 z0 W rd0 reach0 sz0).mono fun e W' ⟨he, bel⟩ => ?_
  subst he
  exact ⟨_, rfl, _, _, _, [], _, [], hW', trodAll_mk1 (shut_bool Try.underlying4 _), (trodAll_cons_mk (Below.trod laidOut (by kernel_rfl) (of_decide_eq_true (by kernel_rfl)) k0 bel lt0) trodAll_mk0), rfl, bel.frame _, fun h => by cases h⟩

theorem over : Rows.fnTurnsRow.holds Try.pinned (OpenSpec.ofChange Rows.fnTurnsSpec) :=
  OpenClaim.holds_of_wide 4 Try.f4 rfl rfl rfl rfl rfl rfl rfl ⟨rfl, rfl, rfl, rfl, rfl⟩ rfl rfl rfl rfl rfl (by kernel_rfl) Try.func4 (by kernel_rfl)
    (of_decide_eq_true (by kernel_rfl)) (by unfold Func.isWrapper; first | (rw [if_pos (by decide +kernel)]; kernel_rfl) | (rw [if_neg (by decide +kernel)]; exact ⟨rfl, rfl⟩))
    (fun os started H enc _ => lifted os started H enc)

theorem proved : Rows.FnTurnsSaid := over
end Go.Proofs.Ytcphhcnomaociaa.fnTurns
