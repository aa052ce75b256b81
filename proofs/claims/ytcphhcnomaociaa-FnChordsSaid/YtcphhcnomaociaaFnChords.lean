/- laws.FnChords answers true for every list of bytes: a distance is between the difference and the sum of the radii, and fewer steps come not as far. No condition. -/
import Derived.Test.YtcphhcnomaociaaRows
import Derived.Test.YtcphhcnomaociaaCosI
import Derived.Test.YtcphhcnomaociaaOpen
import Derived.Test.YtcphhcnomaociaaOpenB
import Derived.Test.YtcphhcnomaociaaBig
import Derived.Test.YtcphhcnomaociaaDrawCos
import Derived.WalkKit
import Derived.ProofKit
import Derived.OpenShut
import Derived.ShutString
import Derived.SizedLaws
namespace Go.Proofs.Ytcphhcnomaociaa.fnChords
open Go.ChangeShapes Go.WideShapes Go.ChangeAt Go.RowKit
open Go.ChangeMaps (open_string shut_string)
set_option linter.unusedVariables false

set_option maxRecDepth 100000 in
set_option maxHeartbeats 16000000 in
theorem walk (A : Option Addr) (n cap : Nat) (bs : List Int) (w : World) (h : Rd w 0 w.heap.size A n (byts bs)) (hn : n * 1 ≤ 140737488351232) (hs : ∀ z ∈ bs, 0 ≤ z ∧ z ≤ 255) :
    Calls Try.prog 3 #[.slice A n cap] w fun e w' => e = .returned (.bool true) ∧ Below w.heap.size w w' := by
  have HB := Go.Lib.hid (big_ A n cap w)
  by_cases hbig : (4096 : Int) < n
  · go_enter Try.func3, Try.ntmps3
    go_wp2_with fail
    refine HB.out.mono ?_
    rintro e w' ⟨rfl, rfl⟩
    go_wp2_with fail
    go_ret
    exact ⟨rfl, Below.refl _ _⟩
  · have hb2 := big_ A n cap w
    rw [decide_eq_false hbig] at hb2
    have HB2 := Go.Lib.hid hb2
    have HRD := Go.Lib.hid (fun w1 (hb : Below w.heap.size w w1) => (h.below hb (Nat.le_refl _)).mono (Nat.le_refl _) hb.size)
    clear hb2 HB hbig
    go_enter Try.func3, Try.ntmps3
    go_wp2_with fail
    refine HB2.out.mono ?_
    rintro e w' ⟨rfl, rfl⟩
    have B0 := Go.Lib.hid (Below.refl w.heap.size w)
    go_wp2_with fail
    refine (drawDistanceBetween A n cap bs w (HRD.out w B0.out) hs (by omega)).mono ?_
    rintro _ w1 ⟨a, b, m, rfl, ha, hb, hm, b1⟩
    have B1 := Go.Lib.hid (B0.out.trans (b1.mono B0.out.size))
    clear b1
    unfold RadD at ha hb
    unfold StepD at hm
    obtain ⟨ha0, ha1⟩ := ha
    obtain ⟨hb0, hb1⟩ := hb
    obtain ⟨hm0, hm1⟩ := hm
    have HD := Go.Lib.hid (fun a b n w0 => implDistanceBetween a b n w0)
    have HDS := Go.Lib.hid (fun a b n w0 => specDistanceBetween a b n w0)
    have HSQ := Go.Lib.hid (fun a b n w0 => implSquareBetween a b n w0)
    have HSS := Go.Lib.hid (fun a b n w0 => specSquareBetween a b n w0)
    have HK := Go.Lib.hid (fun x y z w0 => implStepsFor x y z w0)
    have HKS := Go.Lib.hid (fun x y z w0 => specStepsFor x y z w0)
    cases hok : okB a b m
    · skip
      have D1 := Go.Lib.hid (fun w0 => HD.out a b m w0)
      have D2 := Go.Lib.hid (fun w0 => HDS.out a b m w0)
      have Q1 := Go.Lib.hid (fun w0 => HSQ.out a b m w0)
      have Q2 := Go.Lib.hid (fun w0 => HSS.out a b m w0)
      have v1 : pairV (distA a b m) = .tuple #[.int .i64 0, .int .i64 2] := by unfold distA; rw [hok]; rfl
      have v2 : pairV (sqA a b m) = .tuple #[.int .i64 0, .int .i64 2] := by unfold sqA; rw [hok]; rfl
      rw [v1] at D1 D2
      rw [v2] at Q1 Q2
      clear v1 v2
      clear hok
      go_wp2_with fail
      refine (D1.out _).mono ?_
      rintro _ w2 ⟨rfl, b2⟩
      have B2 := Go.Lib.hid (B1.out.trans (b2.mono B1.out.size))
      clear b2
      go_wp2_with fail
      refine (D2.out _).mono ?_
      rintro _ w3 ⟨rfl, b3⟩
      have B3 := Go.Lib.hid (B2.out.trans (b3.mono B2.out.size))
      clear b3
      go_wp2_with fail
      refine (Q1.out _).mono ?_
      rintro _ w4 ⟨rfl, b4⟩
      have B4 := Go.Lib.hid (B3.out.trans (b4.mono B3.out.size))
      clear b4
      go_wp2_with fail
      refine (Q2.out _).mono ?_
      rintro _ w5 ⟨rfl, b5⟩
      have B5 := Go.Lib.hid (B4.out.trans (b5.mono B4.out.size))
      clear b5
      go_wp2_with fail
      refine (drawStepsFor A n cap bs w5 (HRD.out w5 B5.out) hs (by omega)).mono ?_
      rintro _ w6 ⟨x, y, z, rfl, hx, hy, hz, b6⟩
      have B6 := Go.Lib.hid (B5.out.trans (b6.mono B5.out.size))
      clear b6
      clear hx hy hz
      have S1 := Go.Lib.hid (fun w0 => HK.out x y z w0)
      have S2 := Go.Lib.hid (fun w0 => HKS.out x y z w0)
      cases hr : (radB x && radB y && (decide (0 ≤ z) && decide (z ≤ 20000)))
      · have v3 : pairV (seekA x y z) = .tuple #[.int .i64 0, .int .i64 2] := by unfold seekA; rw [hr]; rfl
        rw [v3] at S1 S2
        clear v3 hr
        go_wp2_with fail
        refine (S1.out _).mono ?_
        rintro _ w7 ⟨rfl, b7⟩
        have B7 := Go.Lib.hid (B6.out.trans (b7.mono B6.out.size))
        clear b7
        go_wp2_with fail
        refine (S2.out _).mono ?_
        rintro _ w8 ⟨rfl, b8⟩
        have B8 := Go.Lib.hid (B7.out.trans (b8.mono B7.out.size))
        clear b8
        go_wp2_with fail
        all_goals (go_ret; exact ⟨rfl, B8.out⟩)
      · skip
        cases hk : seekI x y z with
        | none =>
          have v3 : pairV (seekA x y z) = .tuple #[.int .i64 0, .int .i64 4] := by unfold seekA; rw [hr, hk]; rfl
          rw [v3] at S1 S2
          clear v3 hr hk
          go_wp2_with fail
          refine (S1.out _).mono ?_
          rintro _ w7 ⟨rfl, b7⟩
          have B7 := Go.Lib.hid (B6.out.trans (b7.mono B6.out.size))
          clear b7
          go_wp2_with fail
          refine (S2.out _).mono ?_
          rintro _ w8 ⟨rfl, b8⟩
          have B8 := Go.Lib.hid (B7.out.trans (b8.mono B7.out.size))
          clear b8
          go_wp2_with fail
          all_goals (go_ret; exact ⟨rfl, B8.out⟩)
        | some k =>
          have v3 : pairV (seekA x y z) = .tuple #[.int .i64 k, .int .i64 0] := by unfold seekA; rw [hr, hk]; rfl
          rw [v3] at S1 S2
          obtain ⟨k1, -, k2, k3⟩ := seek_some hk
          have hfar : z ≤ distI x y k := by simpa [farB] using k1
          simp only [Bool.and_eq_true] at hr
          obtain ⟨⟨hr1, hr2⟩, -⟩ := hr
          have v4 : pairV (distA x y k) = .tuple #[.int .i64 (distI x y k), .int .i64 0] := by unfold distA okB; rw [hr1, hr2, stepsB_iff.2 (by omega)]; rfl
          have F1 := Go.Lib.hid (fun w0 => HD.out x y k w0)
          rw [v4] at F1
          by_cases h0 : 0 < k
          · have hnear : distI x y ((k : Int) - 1) < z := by
              have := k3 (k - 1) (by omega) (by omega)
              rw [show (k : Int) - 1 = ((k - 1 : Nat) : Int) by omega]
              simpa [farB] using this
            have v5 : pairV (distA x y ((k : Int) - 1)) = .tuple #[.int .i64 (distI x y ((k : Int) - 1)), .int .i64 0] := by unfold distA okB; rw [hr1, hr2, stepsB_iff.2 (by omega)]; rfl
            have F2 := Go.Lib.hid (fun w0 => HD.out x y ((k : Int) - 1) w0)
            rw [v5] at F2
            generalize distI x y k = f at *
            generalize distI x y ((k : Int) - 1) = e at *
            have h0I : (0 : Int) < (k : Int) := by omega
            have h1I : (k : Int) ≤ 360 := by omega
            clear v3 v4 v5 k1 k3 hk hr1 hr2 h0
            go_wp2_with fail
            refine (S1.out _).mono ?_
            rintro _ w7 ⟨rfl, b7⟩
            have B7 := Go.Lib.hid (B6.out.trans (b7.mono B6.out.size))
            clear b7
            go_wp2_with fail
            refine (S2.out _).mono ?_
            rintro _ w8 ⟨rfl, b8⟩
            have B8 := Go.Lib.hid (B7.out.trans (b8.mono B7.out.size))
            clear b8
            go_wp2_with fail
            refine (F1.out _).mono ?_
            rintro _ w9 ⟨rfl, b9⟩
            have B9 := Go.Lib.hid (B8.out.trans (b9.mono B8.out.size))
            clear b9
            go_wp2_with fail
            refine (F2.out _).mono ?_
            rintro _ w10 ⟨rfl, b10⟩
            have B10 := Go.Lib.hid (B9.out.trans (b10.mono B9.out.size))
            clear b10
            go_wp2_with fail
            all_goals (go_ret; exact ⟨rfl, B10.out⟩)
          · obtain rfl : k = 0 := by omega
            generalize distI x y ((0 : Nat) : Int) = f at *
            clear v3 v4 k1 k3 hk hr1 hr2 h0
            go_wp2_with fail
            refine (S1.out _).mono ?_
            rintro _ w7 ⟨rfl, b7⟩
            have B7 := Go.Lib.hid (B6.out.trans (b7.mono B6.out.size))
            clear b7
            go_wp2_with fail
            refine (S2.out _).mono ?_
            rintro _ w8 ⟨rfl, b8⟩
            have B8 := Go.Lib.hid (B7.out.trans (b8.mono B7.out.size))
            clear b8
            go_wp2_with fail
            refine (F1.out _).mono ?_
            rintro _ w9 ⟨rfl, b9⟩
            have B9 := Go.Lib.hid (B8.out.trans (b9.mono B8.out.size))
            clear b9
            go_wp2_with fail
            all_goals (go_ret; exact ⟨rfl, B9.out⟩)
    · skip
      have hb2 := hok
      unfold okB at hb2
      simp only [Bool.and_eq_true, radB_iff, stepsB_iff] at hb2
      obtain ⟨⟨⟨a0, a1⟩, c0, c1⟩, n0, n1⟩ := hb2
      have D1 := Go.Lib.hid (fun w0 => HD.out a b m w0)
      have D2 := Go.Lib.hid (fun w0 => HDS.out a b m w0)
      have Q1 := Go.Lib.hid (fun w0 => HSQ.out a b m w0)
      have Q2 := Go.Lib.hid (fun w0 => HSS.out a b m w0)
      have v1 : pairV (distA a b m) = .tuple #[.int .i64 (distI a b m), .int .i64 0] := by unfold distA; rw [hok]; rfl
      have v2 : pairV (sqA a b m) = .tuple #[.int .i64 (sqI a b m), .int .i64 0] := by unfold sqA; rw [hok]; rfl
      rw [v1] at D1 D2
      rw [v2] at Q1 Q2
      clear v1 v2
      have v6 : pairV (distA b a (-m)) = .tuple #[.int .i64 (distI a b m), .int .i64 0] := by unfold distA okB; rw [radB_iff.2 ⟨c0, c1⟩, radB_iff.2 ⟨a0, a1⟩, stepsB_iff.2 (by omega), distI_swap]; rfl
      have BK := Go.Lib.hid (fun w0 => HD.out b a (-m) w0)
      rw [v6] at BK
      obtain ⟨d0, d1⟩ := distI_bd m a0 c0
      generalize distI a b m = d at *
      generalize sqI a b m = s at *
      have d2 : a - b - 1 ≤ d := by omega
      have d3 : b - a - 1 ≤ d := by omega
      clear v6 hok d0
      go_wp2_with fail
      refine (D1.out _).mono ?_
      rintro _ w2 ⟨rfl, b2⟩
      have B2 := Go.Lib.hid (B1.out.trans (b2.mono B1.out.size))
      clear b2
      go_wp2_with fail
      refine (D2.out _).mono ?_
      rintro _ w3 ⟨rfl, b3⟩
      have B3 := Go.Lib.hid (B2.out.trans (b3.mono B2.out.size))
      clear b3
      go_wp2_with fail
      refine (Q1.out _).mono ?_
      rintro _ w4 ⟨rfl, b4⟩
      have B4 := Go.Lib.hid (B3.out.trans (b4.mono B3.out.size))
      clear b4
      go_wp2_with fail
      refine (Q2.out _).mono ?_
      rintro _ w5 ⟨rfl, b5⟩
      have B5 := Go.Lib.hid (B4.out.trans (b5.mono B4.out.size))
      clear b5
      go_wp2_with fail
      refine (drawStepsFor A n cap bs w5 (HRD.out w5 B5.out) hs (by omega)).mono ?_
      rintro _ w6 ⟨x, y, z, rfl, hx, hy, hz, b6⟩
      have B6 := Go.Lib.hid (B5.out.trans (b6.mono B5.out.size))
      clear b6
      clear hx hy hz
      have S1 := Go.Lib.hid (fun w0 => HK.out x y z w0)
      have S2 := Go.Lib.hid (fun w0 => HKS.out x y z w0)
      cases hr : (radB x && radB y && (decide (0 ≤ z) && decide (z ≤ 20000)))
      · have v3 : pairV (seekA x y z) = .tuple #[.int .i64 0, .int .i64 2] := by unfold seekA; rw [hr]; rfl
        rw [v3] at S1 S2
        clear v3 hr
        go_wp2_with fail
        refine (S1.out _).mono ?_
        rintro _ w7 ⟨rfl, b7⟩
        have B7 := Go.Lib.hid (B6.out.trans (b7.mono B6.out.size))
        clear b7
        go_wp2_with fail
        refine (S2.out _).mono ?_
        rintro _ w8 ⟨rfl, b8⟩
        have B8 := Go.Lib.hid (B7.out.trans (b8.mono B7.out.size))
        clear b8
        go_wp2_with fail
        refine (BK.out _).mono ?_
        rintro _ w9 ⟨rfl, b9⟩
        have B9 := Go.Lib.hid (B8.out.trans (b9.mono B8.out.size))
        clear b9
        go_wp2_with fail
        all_goals (go_ret; exact ⟨rfl, B9.out⟩)
      · skip
        cases hk : seekI x y z with
        | none =>
          have v3 : pairV (seekA x y z) = .tuple #[.int .i64 0, .int .i64 4] := by unfold seekA; rw [hr, hk]; rfl
          rw [v3] at S1 S2
          clear v3 hr hk
          go_wp2_with fail
          refine (S1.out _).mono ?_
          rintro _ w7 ⟨rfl, b7⟩
          have B7 := Go.Lib.hid (B6.out.trans (b7.mono B6.out.size))
          clear b7
          go_wp2_with fail
          refine (S2.out _).mono ?_
          rintro _ w8 ⟨rfl, b8⟩
          have B8 := Go.Lib.hid (B7.out.trans (b8.mono B7.out.size))
          clear b8
          go_wp2_with fail
          refine (BK.out _).mono ?_
          rintro _ w9 ⟨rfl, b9⟩
          have B9 := Go.Lib.hid (B8.out.trans (b9.mono B8.out.size))
          clear b9
          go_wp2_with fail
          all_goals (go_ret; exact ⟨rfl, B9.out⟩)
        | some k =>
          have v3 : pairV (seekA x y z) = .tuple #[.int .i64 k, .int .i64 0] := by unfold seekA; rw [hr, hk]; rfl
          rw [v3] at S1 S2
          obtain ⟨k1, -, k2, k3⟩ := seek_some hk
          have hfar : z ≤ distI x y k := by simpa [farB] using k1
          simp only [Bool.and_eq_true] at hr
          obtain ⟨⟨hr1, hr2⟩, -⟩ := hr
          have v4 : pairV (distA x y k) = .tuple #[.int .i64 (distI x y k), .int .i64 0] := by unfold distA okB; rw [hr1, hr2, stepsB_iff.2 (by omega)]; rfl
          have F1 := Go.Lib.hid (fun w0 => HD.out x y k w0)
          rw [v4] at F1
          by_cases h0 : 0 < k
          · have hnear : distI x y ((k : Int) - 1) < z := by
              have := k3 (k - 1) (by omega) (by omega)
              rw [show (k : Int) - 1 = ((k - 1 : Nat) : Int) by omega]
              simpa [farB] using this
            have v5 : pairV (distA x y ((k : Int) - 1)) = .tuple #[.int .i64 (distI x y ((k : Int) - 1)), .int .i64 0] := by unfold distA okB; rw [hr1, hr2, stepsB_iff.2 (by omega)]; rfl
            have F2 := Go.Lib.hid (fun w0 => HD.out x y ((k : Int) - 1) w0)
            rw [v5] at F2
            generalize distI x y k = f at *
            generalize distI x y ((k : Int) - 1) = e at *
            have h0I : (0 : Int) < (k : Int) := by omega
            have h1I : (k : Int) ≤ 360 := by omega
            clear v3 v4 v5 k1 k3 hk hr1 hr2 h0
            go_wp2_with fail
            refine (S1.out _).mono ?_
            rintro _ w7 ⟨rfl, b7⟩
            have B7 := Go.Lib.hid (B6.out.trans (b7.mono B6.out.size))
            clear b7
            go_wp2_with fail
            refine (S2.out _).mono ?_
            rintro _ w8 ⟨rfl, b8⟩
            have B8 := Go.Lib.hid (B7.out.trans (b8.mono B7.out.size))
            clear b8
            go_wp2_with fail
            refine (F1.out _).mono ?_
            rintro _ w9 ⟨rfl, b9⟩
            have B9 := Go.Lib.hid (B8.out.trans (b9.mono B8.out.size))
            clear b9
            go_wp2_with fail
            refine (F2.out _).mono ?_
            rintro _ w10 ⟨rfl, b10⟩
            have B10 := Go.Lib.hid (B9.out.trans (b10.mono B9.out.size))
            clear b10
            go_wp2_with fail
            refine (BK.out _).mono ?_
            rintro _ w11 ⟨rfl, b11⟩
            have B11 := Go.Lib.hid (B10.out.trans (b11.mono B10.out.size))
            clear b11
            go_wp2_with fail
            all_goals (go_ret; exact ⟨rfl, B11.out⟩)
          · obtain rfl : k = 0 := by omega
            generalize distI x y ((0 : Nat) : Int) = f at *
            clear v3 v4 k1 k3 hk hr1 hr2 h0
            go_wp2_with fail
            refine (S1.out _).mono ?_
            rintro _ w7 ⟨rfl, b7⟩
            have B7 := Go.Lib.hid (B6.out.trans (b7.mono B6.out.size))
            clear b7
            go_wp2_with fail
            refine (S2.out _).mono ?_
            rintro _ w8 ⟨rfl, b8⟩
            have B8 := Go.Lib.hid (B7.out.trans (b8.mono B7.out.size))
            clear b8
            go_wp2_with fail
            refine (F1.out _).mono ?_
            rintro _ w9 ⟨rfl, b9⟩
            have B9 := Go.Lib.hid (B8.out.trans (b9.mono B8.out.size))
            clear b9
            go_wp2_with fail
            refine (BK.out _).mono ?_
            rintro _ w10 ⟨rfl, b10⟩
            have B10 := Go.Lib.hid (B9.out.trans (b10.mono B9.out.size))
            clear b10
            go_wp2_with fail
            all_goals (go_ret; exact ⟨rfl, B10.out⟩)

set_option maxRecDepth 100000 in
theorem lifted (os : Os) (started : os.Started) (H : Type) (enc : TypeId × Value → H) :
    ReturnsInHanded {} Try.checked os 3 .any (Rows.fnChordsSpec.pre6 enc Try.prog Try.f3 Rows.fnChordsRow.domain false) (Rows.fnChordsSpec.post enc Try.prog Try.f3 false true false false) := by
  refine returnsInHanded_of_change_sized (C := Try.checked) own started (by kernel_rfl) Try.func3
    (ChangeSpec.witness6 (enc := enc) (C := Try.checked) false ⟨#[], #[.slice none 0 0], []⟩ 8 (by kernel_rfl) (by kernel_rfl) (by kernel_rfl) (by kernel_rfl)) ?_
  intro W base args ds gs before hval0 hW hcnd hsz0 _
  have hsz : (DataW.weightsEach Try.prog (Try.f3.params.toList ++ Rows.fnChordsSpec.plain.varTypes Try.prog) (ds ++ gs)).all (· ≤ reachBytes) = true := hsz0
  clear hsz0
  have hval : ∀ (j : Nat) t v, Try.f3.params[j]? = some t → args[j]? = some v → Value.okWide Try.prog W .any base t v := hval0
  clear hval0
  have hW' := hW
  obtain ⟨p, q, hA0, hV, rfl, hfz, hnd⟩ := hW
  have hA : DataW.TrodAll enc Try.prog W 0 (fun _ => true) true Try.f3.params.toList args.toList ds p := hA0
  rw [Try.params3] at hA hval hsz
  obtain ⟨v0, vs0, d0, ds0, p0, q0, hargs, rfl, rfl, h0, r0⟩ := trodAll_cons hA
  obtain ⟨rfl, rfl, rfl⟩ := trodAll_nil r0
  obtain rfl : args = #[v0] := by cases args; simp_all
  obtain ⟨rfl, rfl⟩ := trodVars_none hV
  obtain ⟨a0, len0, cap0, rfl⟩ := okWide_slice Try.underlying22 (hval 0 22 v0 rfl rfl)
  have k0 := h0
  have lt0 : ∀ x ∈ p0, x.block < W.heap.size := by obtain ⟨m, hm⟩ := k0; exact DataW.trod_lt m _ _ _ hm
  obtain ⟨⟨z0, rd0, sz0⟩, hlc0, hp0⟩ := open_list_bytes h0
  have reach0 : len0 * 1 ≤ 140737488351232 := by
    rcases hp0 with hp0 | ⟨E0, S0, rfl, hl0⟩
    · omega
    · have := sized_slice hsz (j := 0) (t := 22) (e := 5) rfl rfl Try.underlying22
      rw [show Try.prog.bytesOf 5 = 1 by kernel_rfl] at this
      simp only [reachBytes] at this
      omega
  clear hA0
  refine (walk a0 len0 cap0 z0 W rd0 reach0 sz0).mono fun e W' ⟨he, bel⟩ => ?_
  subst he
  exact ⟨_, rfl, _, _, _, [], _, [], hW', trodAll_mk1 (shut_bool Try.underlying4 _), (trodAll_cons_mk (Below.trod laidOut (by kernel_rfl) (of_decide_eq_true (by kernel_rfl)) k0 bel lt0) trodAll_mk0), rfl, bel.frame _, fun h => by cases h⟩

theorem over : Rows.fnChordsRow.holds Try.pinned (OpenSpec.ofChange Rows.fnChordsSpec) :=
  OpenClaim.holds_of_wide 3 Try.f3 rfl rfl rfl rfl rfl rfl rfl ⟨rfl, rfl, rfl, rfl, rfl⟩ rfl rfl rfl rfl rfl (by kernel_rfl) Try.func3 (by kernel_rfl)
    (of_decide_eq_true (by kernel_rfl)) (by unfold Func.isWrapper; first | (rw [if_pos (by decide +kernel)]; kernel_rfl) | (rw [if_neg (by decide +kernel)]; exact ⟨rfl, rfl⟩))
    (fun os started H enc _ => lifted os started H enc)

theorem proved : Rows.FnChordsSaid := over
end Go.Proofs.Ytcphhcnomaociaa.fnChords
