/- FnSums holds: for every code, sums and products of numbers of the drawn intervals are in their sums and products. -/
import Derived.Test.YtcknknicknolaaaRows
import Derived.Test.YtcknknicknolaaaOpenB
import Derived.Test.YtcknknicknolaaaIv3
import Derived.Test.YtcknknicknolaaaIv4
import Derived.Test.YtcknknicknolaaaDrawIv3
import Derived.Test.YtcknknicknolaaaLawCode
import Derived.Test.YtcknknicknolaaaPlainIv2
import Derived.WalkKit
import Derived.ProofKit
import Derived.OpenShut
import Derived.ShutString
import Derived.SizedLaws
namespace Go.Proofs.Ytcknknicknolaaa.fnSums
open Go.ChangeShapes Go.WideShapes Go.ChangeAt Go.RowKit
open Go.ChangeMaps (open_string shut_string)
set_option linter.unusedVariables false

set_option maxRecDepth 100000 in
set_option maxHeartbeats 16000000 in
theorem walk (A : Option Addr) (n cap : Nat) (bs : List Int) (w : World) (h : Rd w 0 w.heap.size A n (byts bs)) (hn : n * 1 ≤ 140737488351232) (hs : ∀ z ∈ bs, 0 ≤ z ∧ z ≤ 255) :
    Calls Try.prog 3 #[.slice A n cap] w fun e w' => e = .returned (.bool true) ∧ Below w.heap.size w w' := by
  have HB := Go.Lib.hid (big_ A n cap w)
  by_cases hbig : (4096 : Int) < n
  · go_enter Try.func3, Try.ntmps3
    go_wp2_with fail
    refine HB.out.mono ?_
    rintro e w' ⟨rfl, rfl⟩
    go_wp2_with fail
    go_ret
    exact ⟨rfl, Below.refl _ _⟩
  · have hb2 := big_ A n cap w
    rw [decide_eq_false hbig] at hb2
    have HB2 := Go.Lib.hid hb2
    clear hb2
    go_enter Try.func3, Try.ntmps3
    go_wp2_with fail
    refine HB2.out.mono ?_
    rintro e w' ⟨rfl, rfl⟩
    go_wp2_with fail
    refine (drawAdd A n cap bs w h hs (by omega)).mono ?_
    rintro e w1 ⟨a, b, c, d, rfl, ⟨⟨fa, fb⟩, fc, fd⟩, b1⟩
    unfold Fine at fa fb fc fd
    have U0 : Hid (VCtx w [(w1.heap.size + 1, c, d), (w1.heap.size, a, b)] ((w1.alloc (.cells #[.int .i64 a, .int .i64 b] 25)).alloc (.cells #[.int .i64 c, .int .i64 d] 25))) := by
      have h1 : VCtx w [] w1 := ⟨b1, fun v hv => by cases hv⟩
      have h2 := (h1.var (x := a) (y := b) 25).var (x := c) (y := d) 25
      rw [World.size_alloc] at h2
      exact h2
    clear HB HB2 hbig b1
    go_wp2_with fail
    obtain ⟨q3, hq⟩ : ∃ q, q = w1.heap.size := ⟨_, rfl⟩
    rw [← hq] at U0 ⊢
    generalize (w1.alloc (.cells #[.int .i64 a, .int .i64 b] 25)).alloc (.cells #[.int .i64 c, .int .i64 d] 25) = w2 at U0 ⊢
    clear hq
    obtain ⟨q4, hq⟩ : ∃ q, q = q3 + 1 := ⟨_, rfl⟩
    rw [← hq] at U0 ⊢
    clear hq
    have HAd := fun w => implAdd a b c d w
    have HAdS := fun w => specAdd a b c d w
    obtain ⟨⟨sx, sy, sz⟩, hsq⟩ : ∃ r, r = addIv a b c d := ⟨_, rfl⟩
    rw [← hsq] at HAd HAdS
    have HAd := Go.Lib.hid HAd
    have HAdS := Go.Lib.hid HAdS
    have HEQ := Go.Lib.hid hsq.symm
    clear hsq
    have HII := fun w => implIsInterval a b w
    have HIS := fun w => specIsInterval a b w
    obtain ⟨vb, hvb⟩ : ∃ v, v = vldB a b := ⟨_, rfl⟩
    rw [← hvb] at HII HIS
    have HII := Go.Lib.hid HII
    have HIS := Go.Lib.hid HIS
    clear hvb
    by_cases hbad : sz = 0
    · subst hbad
      obtain ⟨va, vc, xx, yy, hcm⟩ := add_ok HEQ.out
      obtain ⟨z1, z2, z3⟩ := vldB_of va
      obtain ⟨z4, z5, z6⟩ := vldB_of vc
      have HBk := fun w => implAdd c d a b w
      rw [hcm] at HBk
      have HBk := Go.Lib.hid HBk
      have o1 : sx ≤ a + c := by omega
      have o2 : b + d ≤ sy := by omega
      clear HEQ hcm va vc xx yy
      refine (HAd.out _).mono ?_
      rintro e v1 ⟨rfl, b1⟩
      have U1 := Go.Lib.hid (U0.out.step b1)
      clear b1 U0
      have fq4a := U1.out.c0 (r := q4) (x := c) (y := d) (by simp)
      have fq4b := U1.out.c1 (r := q4) (x := c) (y := d) (by simp)
      have fq4l := U1.out.lt (r := q4) (x := c) (y := d) (by simp)
      have fq3a := U1.out.c0 (r := q3) (x := a) (y := b) (by simp)
      have fq3b := U1.out.c1 (r := q3) (x := a) (y := b) (by simp)
      have fq3l := U1.out.lt (r := q3) (x := a) (y := b) (by simp)
      go_wp2_with fail
      have U2 := Go.Lib.hid (U1.out.var (x := sx) (y := sy) 25)
      clear fq4a fq4b fq4l fq3a fq3b fq3l
      clear U1
      obtain ⟨q5, hq⟩ : ∃ q, q = v1.heap.size := ⟨_, rfl⟩
      rw [← hq] at U2 ⊢
      generalize v1.alloc (.cells #[.int .i64 sx, .int .i64 sy] 25) = v2 at U2 ⊢
      clear hq
      refine (HAdS.out _).mono ?_
      rintro e v3 ⟨rfl, b3⟩
      have U3 := Go.Lib.hid (U2.out.step b3)
      clear b3 U2
      have fq4a := U3.out.c0 (r := q4) (x := c) (y := d) (by simp)
      have fq4b := U3.out.c1 (r := q4) (x := c) (y := d) (by simp)
      have fq4l := U3.out.lt (r := q4) (x := c) (y := d) (by simp)
      have fq3a := U3.out.c0 (r := q3) (x := a) (y := b) (by simp)
      have fq3b := U3.out.c1 (r := q3) (x := a) (y := b) (by simp)
      have fq3l := U3.out.lt (r := q3) (x := a) (y := b) (by simp)
      go_wp2_with fail
      have U4 := Go.Lib.hid (U3.out.var (x := sx) (y := sy) 25)
      clear fq4a fq4b fq4l fq3a fq3b fq3l
      clear U3
      obtain ⟨q7, hq⟩ : ∃ q, q = v3.heap.size := ⟨_, rfl⟩
      rw [← hq] at U4 ⊢
      generalize v3.alloc (.cells #[.int .i64 sx, .int .i64 sy] 25) = v4 at U4 ⊢
      clear hq
      refine (drawTimes A n cap bs _ (U4.out.rd h) hs (by omega)).mono ?_
      rintro e v5 ⟨lo1, hi1, m0, rfl, ⟨⟨fe, ff⟩, fm⟩, b5⟩
      unfold Fine at fe ff fm
      have U5 := Go.Lib.hid (U4.out.step b5)
      clear b5 U4
      go_wp2_with fail
      have U6 := Go.Lib.hid (U5.out.var (x := lo1) (y := hi1) 25)
      clear U5
      obtain ⟨q9, hq⟩ : ∃ q, q = v5.heap.size := ⟨_, rfl⟩
      rw [← hq] at U6 ⊢
      generalize v5.alloc (.cells #[.int .i64 lo1, .int .i64 hi1] 25) = v6 at U6 ⊢
      clear hq
      have HTi := fun w => implTimes lo1 hi1 m0 w
      have HTs := fun w => specTimes lo1 hi1 m0 w
      obtain ⟨⟨tx, ty, tz⟩, htq⟩ : ∃ r, r = timesIv lo1 hi1 m0 := ⟨_, rfl⟩
      rw [← htq] at HTi HTs
      have HTi := Go.Lib.hid HTi
      have HTs := Go.Lib.hid HTs
      have HTQ := Go.Lib.hid htq.symm
      clear htq
      by_cases hone : tz = 0
      · subst hone
        have HTK := Go.Lib.hid (times_ok HTQ.out)
        obtain ⟨y1, y2, y3⟩ := vldB_of HTK.out.1
        obtain ⟨y4, y5⟩ := And.intro HTK.out.2.1 HTK.out.2.2.1
        clear HTQ
        refine (HTi.out _).mono ?_
        rintro e v7 ⟨rfl, b7⟩
        have U7 := Go.Lib.hid (U6.out.step b7)
        clear b7 U6
        have fq9a := U7.out.c0 (r := q9) (x := lo1) (y := hi1) (by simp)
        have fq9b := U7.out.c1 (r := q9) (x := lo1) (y := hi1) (by simp)
        have fq9l := U7.out.lt (r := q9) (x := lo1) (y := hi1) (by simp)
        go_wp2_with fail
        have U8 := Go.Lib.hid (U7.out.var (x := tx) (y := ty) 25)
        clear fq9a fq9b fq9l
        clear U7
        obtain ⟨q11, hq⟩ : ∃ q, q = v7.heap.size := ⟨_, rfl⟩
        rw [← hq] at U8 ⊢
        generalize v7.alloc (.cells #[.int .i64 tx, .int .i64 ty] 25) = v8 at U8 ⊢
        clear hq
        refine (HTs.out _).mono ?_
        rintro e v9 ⟨rfl, b9⟩
        have U9 := Go.Lib.hid (U8.out.step b9)
        clear b9 U8
        have fq11a := U9.out.c0 (r := q11) (x := tx) (y := ty) (by simp)
        have fq11b := U9.out.c1 (r := q11) (x := tx) (y := ty) (by simp)
        have fq11l := U9.out.lt (r := q11) (x := tx) (y := ty) (by simp)
        have fq9a := U9.out.c0 (r := q9) (x := lo1) (y := hi1) (by simp)
        have fq9b := U9.out.c1 (r := q9) (x := lo1) (y := hi1) (by simp)
        have fq9l := U9.out.lt (r := q9) (x := lo1) (y := hi1) (by simp)
        have fq7a := U9.out.c0 (r := q7) (x := sx) (y := sy) (by simp)
        have fq7b := U9.out.c1 (r := q7) (x := sx) (y := sy) (by simp)
        have fq7l := U9.out.lt (r := q7) (x := sx) (y := sy) (by simp)
        have fq5a := U9.out.c0 (r := q5) (x := sx) (y := sy) (by simp)
        have fq5b := U9.out.c1 (r := q5) (x := sx) (y := sy) (by simp)
        have fq5l := U9.out.lt (r := q5) (x := sx) (y := sy) (by simp)
        have fq4a := U9.out.c0 (r := q4) (x := c) (y := d) (by simp)
        have fq4b := U9.out.c1 (r := q4) (x := c) (y := d) (by simp)
        have fq4l := U9.out.lt (r := q4) (x := c) (y := d) (by simp)
        have fq3a := U9.out.c0 (r := q3) (x := a) (y := b) (by simp)
        have fq3b := U9.out.c1 (r := q3) (x := a) (y := b) (by simp)
        have fq3l := U9.out.lt (r := q3) (x := a) (y := b) (by simp)
        go_wp2_with fail
        have U10 := Go.Lib.hid (U9.out.var (x := tx) (y := ty) 25)
        clear fq11a fq11b fq11l fq9a fq9b fq9l fq7a fq7b fq7l fq5a fq5b fq5l fq4a fq4b fq4l fq3a fq3b fq3l
        clear U9
        obtain ⟨q13, hq⟩ : ∃ q, q = v9.heap.size := ⟨_, rfl⟩
        rw [← hq] at U10 ⊢
        generalize v9.alloc (.cells #[.int .i64 tx, .int .i64 ty] 25) = v10 at U10 ⊢
        clear hq
        have E0 := Go.Lib.hid (show v10.cell? ⟨q13, 0, none⟩ = some (.int .i64 tx) ∧ v10.cell? ⟨q13, 1, none⟩ = some (.int .i64 ty) ∧ v10.cell? ⟨q11, 0, none⟩ = some (.int .i64 tx) ∧ v10.cell? ⟨q11, 1, none⟩ = some (.int .i64 ty) ∧ v10.cell? ⟨q7, 0, none⟩ = some (.int .i64 sx) ∧ v10.cell? ⟨q7, 1, none⟩ = some (.int .i64 sy) ∧ v10.cell? ⟨q5, 0, none⟩ = some (.int .i64 sx) ∧ v10.cell? ⟨q5, 1, none⟩ = some (.int .i64 sy) ∧ v10.cell? ⟨q3, 0, none⟩ = some (.int .i64 a) ∧ v10.cell? ⟨q3, 1, none⟩ = some (.int .i64 b) by exact ⟨U10.out.c0 (r := q13) (x := tx) (y := ty) (by simp), U10.out.c1 (r := q13) (x := tx) (y := ty) (by simp), U10.out.c0 (r := q11) (x := tx) (y := ty) (by simp), U10.out.c1 (r := q11) (x := tx) (y := ty) (by simp), U10.out.c0 (r := q7) (x := sx) (y := sy) (by simp), U10.out.c1 (r := q7) (x := sx) (y := sy) (by simp), U10.out.c0 (r := q5) (x := sx) (y := sy) (by simp), U10.out.c1 (r := q5) (x := sx) (y := sy) (by simp), U10.out.c0 (r := q3) (x := a) (y := b) (by simp), U10.out.c1 (r := q3) (x := a) (y := b) (by simp)⟩)
        go_region_held3 (fun w' => w'.cell? ⟨q13, 0, none⟩ = some (.int .i64 tx) ∧ w'.cell? ⟨q13, 1, none⟩ = some (.int .i64 ty) ∧ w'.cell? ⟨q11, 0, none⟩ = some (.int .i64 tx) ∧ w'.cell? ⟨q11, 1, none⟩ = some (.int .i64 ty) ∧ w'.cell? ⟨q7, 0, none⟩ = some (.int .i64 sx) ∧ w'.cell? ⟨q7, 1, none⟩ = some (.int .i64 sy) ∧ w'.cell? ⟨q5, 0, none⟩ = some (.int .i64 sx) ∧ w'.cell? ⟨q5, 1, none⟩ = some (.int .i64 sy) ∧ w'.cell? ⟨q3, 0, none⟩ = some (.int .i64 a) ∧ w'.cell? ⟨q3, 1, none⟩ = some (.int .i64 b))
          (first | exact ⟨X0.out.c0 (r := q13) (x := tx) (y := ty) (by simp), X0.out.c1 (r := q13) (x := tx) (y := ty) (by simp), X0.out.c0 (r := q11) (x := tx) (y := ty) (by simp), X0.out.c1 (r := q11) (x := tx) (y := ty) (by simp), X0.out.c0 (r := q7) (x := sx) (y := sy) (by simp), X0.out.c1 (r := q7) (x := sx) (y := sy) (by simp), X0.out.c0 (r := q5) (x := sx) (y := sy) (by simp), X0.out.c1 (r := q5) (x := sx) (y := sy) (by simp), X0.out.c0 (r := q3) (x := a) (y := b) (by simp), X0.out.c1 (r := q3) (x := a) (y := b) (by simp)⟩ | exact E0.out | go_keep)
          (first | (go_at_call 21; refine (HII.out _).mono ?_; rintro e y0 ⟨rfl, d0⟩; (first | have X0 := Go.Lib.hid (X0.out.step d0) | have X0 := Go.Lib.hid (U10.out.step d0) | have X0 := Go.Lib.hid ((U10.out.drewN 1).step d0))) | (go_at_call 22; refine (HIS.out _).mono ?_; rintro e y0 ⟨rfl, d0⟩; (first | have X0 := Go.Lib.hid (X0.out.step d0) | have X0 := Go.Lib.hid (U10.out.step d0) | have X0 := Go.Lib.hid ((U10.out.drewN 1).step d0))))
        clear E0 d0 U10
        go_wp2_with fail
        have HMM := Go.Lib.hid (show 1 ≤ IntKind.i64.wrap (IntKind.i64.wrap (hi1 - lo1) + 1) ∧ IntKind.i64.wrap (IntKind.i64.wrap (hi1 - lo1) + 1) = hi1 - lo1 + 1 by rw [IntWalk.i64_in (hi1 - lo1) (by omega), IntWalk.i64_in (hi1 - lo1 + 1) (by omega)]; omega)
        have HRO := Go.Lib.hid (fun W0 (hW : VCtx w [(q13, tx, ty), (q11, tx, ty), (q9, lo1, hi1), (q7, sx, sy), (q5, sx, sy), (q4, c, d), (q3, a, b)] W0) => roll A n cap bs 201 W0 (hW.rd h) hs (by omega))
        have fq9a := X0.out.c0 (r := q9) (x := lo1) (y := hi1) (by simp)
        have fq9b := X0.out.c1 (r := q9) (x := lo1) (y := hi1) (by simp)
        have fq9l := X0.out.lt (r := q9) (x := lo1) (y := hi1) (by simp)
        have e0 := fq9a
        have e1 := fq9b
        have S0 := Go.Lib.hid fq9l
        clear fq9a fq9b fq9l
        go_region_held3 (fun w' => w'.cell? ⟨q9, 0, none⟩ = some (.int .i64 lo1) ∧ w'.cell? ⟨q9, 1, none⟩ = some (.int .i64 hi1))
          (first | exact ⟨X2.out.c0 (r := q9) (x := lo1) (y := hi1) (by simp), X2.out.c1 (r := q9) (x := lo1) (y := hi1) (by simp)⟩ | exact ⟨X1.out.c0 (r := q9) (x := lo1) (y := hi1) (by simp), X1.out.c1 (r := q9) (x := lo1) (y := hi1) (by simp)⟩ | exact ⟨e0, e1⟩ | go_keep)
          (first | (go_at_call 23; (first | refine (HRO.out _ X0.out).mono ?_ | refine (HRO.out _ (X0.out.drewN 1)).mono ?_); rintro e y1 ⟨gd, rfl, hgd, D1, d1⟩; (first | have X1 := Go.Lib.hid (X0.out.step d1) | have X1 := Go.Lib.hid ((X0.out.drewN 1).step d1)); (first | have L1 := Go.Lib.hid (And.intro X0.out.lts X0.out.below.size) | skip)) | (go_at_call 24; refine (below gd A n cap bs _ _ D1 HMM.out.1).mono ?_; rintro e y2 ⟨r0, rfl, r1, r2, kk⟩; have X2 := Go.Lib.hid (X1.out.keep kk (Nat.le_trans L1.out.2 hgd) (fun v hv => Nat.lt_of_lt_of_le (L1.out.1 v hv) hgd))))
        rw [HMM.out.2] at r2
        have w1e : IntKind.i64.wrap (lo1 + r0) = lo1 + r0 := IntWalk.i64_in _ (by omega)
        rw [w1e]
        clear w1e
        have kn0 : lo1 ≤ lo1 + r0 := by omega
        have kn1 : lo1 + r0 ≤ hi1 := by omega
        generalize lo1 + r0 = kn at kn0 kn1 ⊢
        clear e0 e1 S0 HRO HMM r1 r2 X1 D1 d1 hgd kk L1 X0
        obtain ⟨g1, g2⟩ := HTK.out.2.2.2 kn kn0 kn1
        have mb := mul_bd (a := kn) (n := m0) (p := 1000000000) (q := 1000000) (by omega) (by omega)
        obtain ⟨mb1, mb2⟩ := mb
        have wk : IntKind.i64.wrap (kn * m0) = kn * m0 := IntWalk.i64_in _ (by omega)
        have fq11a := X2.out.c0 (r := q11) (x := tx) (y := ty) (by simp)
        have fq11b := X2.out.c1 (r := q11) (x := tx) (y := ty) (by simp)
        have fq11l := X2.out.lt (r := q11) (x := tx) (y := ty) (by simp)
        go_wp2_with fail
        refine (insideT (kn * m0) tx ty _ g1 g2).mono ?_
        rintro e v12 ⟨rfl, b12⟩
        have U12 := Go.Lib.hid (X2.out.step b12)
        clear fq11a fq11b fq11l
        clear b12 X2
        clear wk mb1 mb2
        go_wp2_with fail
        have HMA := Go.Lib.hid (show 1 ≤ IntKind.i64.wrap (IntKind.i64.wrap (b - a) + 1) ∧ IntKind.i64.wrap (IntKind.i64.wrap (b - a) + 1) = b - a + 1 by rw [IntWalk.i64_in (b - a) (by omega), IntWalk.i64_in (b - a + 1) (by omega)]; omega)
        have HMC := Go.Lib.hid (show 1 ≤ IntKind.i64.wrap (IntKind.i64.wrap (d - c) + 1) ∧ IntKind.i64.wrap (IntKind.i64.wrap (d - c) + 1) = d - c + 1 by rw [IntWalk.i64_in (d - c) (by omega), IntWalk.i64_in (d - c + 1) (by omega)]; omega)
        have HRO := Go.Lib.hid (fun s0 W0 (hW : VCtx w [(q13, tx, ty), (q11, tx, ty), (q9, lo1, hi1), (q7, sx, sy), (q5, sx, sy), (q4, c, d), (q3, a, b)] W0) => roll A n cap bs s0 W0 (hW.rd h) hs (by omega))
        have m1 : True := trivial
        have E0 := Go.Lib.hid (show v12.cell? ⟨q4, 0, none⟩ = some (.int .i64 c) ∧ v12.cell? ⟨q4, 1, none⟩ = some (.int .i64 d) ∧ v12.cell? ⟨q3, 0, none⟩ = some (.int .i64 a) ∧ v12.cell? ⟨q3, 1, none⟩ = some (.int .i64 b) by exact ⟨U12.out.c0 (r := q4) (x := c) (y := d) (by simp), U12.out.c1 (r := q4) (x := c) (y := d) (by simp), U12.out.c0 (r := q3) (x := a) (y := b) (by simp), U12.out.c1 (r := q3) (x := a) (y := b) (by simp)⟩)
        go_region_held3 (fun w' => w'.cell? ⟨q4, 0, none⟩ = some (.int .i64 c) ∧ w'.cell? ⟨q4, 1, none⟩ = some (.int .i64 d) ∧ w'.cell? ⟨q3, 0, none⟩ = some (.int .i64 a) ∧ w'.cell? ⟨q3, 1, none⟩ = some (.int .i64 b))
          (first | exact ⟨X2.out.c0 (r := q4) (x := c) (y := d) (by simp), X2.out.c1 (r := q4) (x := c) (y := d) (by simp), X2.out.c0 (r := q3) (x := a) (y := b) (by simp), X2.out.c1 (r := q3) (x := a) (y := b) (by simp)⟩ | exact ⟨L1.out.1.c0 (r := q4) (x := c) (y := d) (by simp), L1.out.1.c1 (r := q4) (x := c) (y := d) (by simp), L1.out.1.c0 (r := q3) (x := a) (y := b) (by simp), L1.out.1.c1 (r := q3) (x := a) (y := b) (by simp)⟩ | exact ⟨X2.out.c0 (r := q4) (x := c) (y := d) (by simp), X2.out.c1 (r := q4) (x := c) (y := d) (by simp), X2.out.c0 (r := q3) (x := a) (y := b) (by simp), X2.out.c1 (r := q3) (x := a) (y := b) (by simp)⟩ | exact E0.out | go_keep)
          (first | (go_at_call 23; (first | refine (HRO.out _ _ X2.out).mono ?_ | refine (HRO.out _ _ U12.out).mono ?_ | refine (HRO.out _ _ (U12.out.drewN 1)).mono ?_); rintro e y1 ⟨gd, rfl, hgd, D1, d1⟩; (first | have L1 := Go.Lib.hid (And.intro (X2.out.step d1) (And.intro (Nat.le_trans X2.out.below.size hgd) (fun v hv => Nat.lt_of_lt_of_le (X2.out.lts v hv) hgd))) | have L1 := Go.Lib.hid (And.intro (U12.out.step d1) (And.intro (Nat.le_trans U12.out.below.size hgd) (fun v hv => Nat.lt_of_lt_of_le (U12.out.lts v hv) hgd))) | have L1 := Go.Lib.hid (And.intro ((U12.out.drewN 1).step d1) (And.intro (Nat.le_trans U12.out.below.size hgd) (fun v hv => Nat.lt_of_lt_of_le (U12.out.lts v hv) hgd))))) | (go_at_call 24; (first | (clear m1; refine (below gd A n cap bs _ _ D1 HMA.out.1).mono ?_; rintro e y2 ⟨r0, rfl, r1, r2, kk⟩) | (refine (below gd A n cap bs _ _ D1 HMC.out.1).mono ?_; rintro e y2 ⟨t0, rfl, t1, t2, kk⟩)); have X2 := Go.Lib.hid (L1.out.1.keep kk L1.out.2.1 L1.out.2.2)))
        rw [HMA.out.2] at r2
        rw [HMC.out.2] at t2
        have wa : IntKind.i64.wrap (a + r0) = a + r0 := IntWalk.i64_in _ (by omega)
        have wc : IntKind.i64.wrap (c + t0) = c + t0 := IntWalk.i64_in _ (by omega)
        rw [wa, wc]
        clear wa wc
        have pp0 : a ≤ a + r0 := by omega
        have pp1 : a + r0 ≤ b := by omega
        have qq0 : c ≤ c + t0 := by omega
        have qq1 : c + t0 ≤ d := by omega
        generalize a + r0 = pp at pp0 pp1 ⊢
        generalize c + t0 = qq at qq0 qq1 ⊢
        clear E0 HRO HMA HMC r1 r2 t1 t2 kk U12
        have fq4a := X2.out.c0 (r := q4) (x := c) (y := d) (by simp)
        have fq4b := X2.out.c1 (r := q4) (x := c) (y := d) (by simp)
        have fq4l := X2.out.lt (r := q4) (x := c) (y := d) (by simp)
        have fq3a := X2.out.c0 (r := q3) (x := a) (y := b) (by simp)
        have fq3b := X2.out.c1 (r := q3) (x := a) (y := b) (by simp)
        have fq3l := X2.out.lt (r := q3) (x := a) (y := b) (by simp)
        go_wp2_with fail
        refine (HBk.out _).mono ?_
        rintro e v13 ⟨rfl, b13⟩
        have U13 := Go.Lib.hid (X2.out.step b13)
        clear fq4a fq4b fq4l fq3a fq3b fq3l
        clear b13 X2
        have fq5a := U13.out.c0 (r := q5) (x := sx) (y := sy) (by simp)
        have fq5b := U13.out.c1 (r := q5) (x := sx) (y := sy) (by simp)
        have fq5l := U13.out.lt (r := q5) (x := sx) (y := sy) (by simp)
        have wpq : IntKind.i64.wrap (pp + qq) = pp + qq := IntWalk.i64_in _ (by omega)
        go_wp2_with fail
        have U14 := Go.Lib.hid (U13.out.var (x := sx) (y := sy) 25)
        clear fq5a fq5b fq5l
        clear U13
        obtain ⟨q18, hq⟩ : ∃ q, q = v13.heap.size := ⟨_, rfl⟩
        rw [← hq] at U14 ⊢
        generalize v13.alloc (.cells #[.int .i64 sx, .int .i64 sy] 25) = v14 at U14 ⊢
        clear hq
        refine (insideT (pp + qq) sx sy _ (by omega) (by omega)).mono ?_
        rintro e v15 ⟨rfl, b15⟩
        have U15 := Go.Lib.hid (U14.out.step b15)
        clear b15 U14
        clear wpq
        have fq18a := U15.out.c0 (r := q18) (x := sx) (y := sy) (by simp)
        have fq18b := U15.out.c1 (r := q18) (x := sx) (y := sy) (by simp)
        have fq18l := U15.out.lt (r := q18) (x := sx) (y := sy) (by simp)
        have fq5a := U15.out.c0 (r := q5) (x := sx) (y := sy) (by simp)
        have fq5b := U15.out.c1 (r := q5) (x := sx) (y := sy) (by simp)
        have fq5l := U15.out.lt (r := q5) (x := sx) (y := sy) (by simp)
        go_wp2_with fail
        go_ret
        exact ⟨rfl, U15.out.below⟩
      · have honeb : (tz == 0) = false := by simpa using hone
        clear hone HTQ
        refine (HTi.out _).mono ?_
        rintro e v7 ⟨rfl, b7⟩
        have U7 := Go.Lib.hid (U6.out.step b7)
        clear b7 U6
        have fq9a := U7.out.c0 (r := q9) (x := lo1) (y := hi1) (by simp)
        have fq9b := U7.out.c1 (r := q9) (x := lo1) (y := hi1) (by simp)
        have fq9l := U7.out.lt (r := q9) (x := lo1) (y := hi1) (by simp)
        go_wp2_with fail
        have U8 := Go.Lib.hid (U7.out.var (x := tx) (y := ty) 25)
        clear fq9a fq9b fq9l
        clear U7
        obtain ⟨q11, hq⟩ : ∃ q, q = v7.heap.size := ⟨_, rfl⟩
        rw [← hq] at U8 ⊢
        generalize v7.alloc (.cells #[.int .i64 tx, .int .i64 ty] 25) = v8 at U8 ⊢
        clear hq
        refine (HTs.out _).mono ?_
        rintro e v9 ⟨rfl, b9⟩
        have U9 := Go.Lib.hid (U8.out.step b9)
        clear b9 U8
        have fq11a := U9.out.c0 (r := q11) (x := tx) (y := ty) (by simp)
        have fq11b := U9.out.c1 (r := q11) (x := tx) (y := ty) (by simp)
        have fq11l := U9.out.lt (r := q11) (x := tx) (y := ty) (by simp)
        have fq9a := U9.out.c0 (r := q9) (x := lo1) (y := hi1) (by simp)
        have fq9b := U9.out.c1 (r := q9) (x := lo1) (y := hi1) (by simp)
        have fq9l := U9.out.lt (r := q9) (x := lo1) (y := hi1) (by simp)
        have fq7a := U9.out.c0 (r := q7) (x := sx) (y := sy) (by simp)
        have fq7b := U9.out.c1 (r := q7) (x := sx) (y := sy) (by simp)
        have fq7l := U9.out.lt (r := q7) (x := sx) (y := sy) (by simp)
        have fq5a := U9.out.c0 (r := q5) (x := sx) (y := sy) (by simp)
        have fq5b := U9.out.c1 (r := q5) (x := sx) (y := sy) (by simp)
        have fq5l := U9.out.lt (r := q5) (x := sx) (y := sy) (by simp)
        have fq4a := U9.out.c0 (r := q4) (x := c) (y := d) (by simp)
        have fq4b := U9.out.c1 (r := q4) (x := c) (y := d) (by simp)
        have fq4l := U9.out.lt (r := q4) (x := c) (y := d) (by simp)
        have fq3a := U9.out.c0 (r := q3) (x := a) (y := b) (by simp)
        have fq3b := U9.out.c1 (r := q3) (x := a) (y := b) (by simp)
        have fq3l := U9.out.lt (r := q3) (x := a) (y := b) (by simp)
        go_wp2_with fail
        have U10 := Go.Lib.hid (U9.out.var (x := tx) (y := ty) 25)
        clear fq11a fq11b fq11l fq9a fq9b fq9l fq7a fq7b fq7l fq5a fq5b fq5l fq4a fq4b fq4l fq3a fq3b fq3l
        clear U9
        obtain ⟨q13, hq⟩ : ∃ q, q = v9.heap.size := ⟨_, rfl⟩
        rw [← hq] at U10 ⊢
        generalize v9.alloc (.cells #[.int .i64 tx, .int .i64 ty] 25) = v10 at U10 ⊢
        clear hq
        have E0 := Go.Lib.hid (show v10.cell? ⟨q13, 0, none⟩ = some (.int .i64 tx) ∧ v10.cell? ⟨q13, 1, none⟩ = some (.int .i64 ty) ∧ v10.cell? ⟨q11, 0, none⟩ = some (.int .i64 tx) ∧ v10.cell? ⟨q11, 1, none⟩ = some (.int .i64 ty) ∧ v10.cell? ⟨q7, 0, none⟩ = some (.int .i64 sx) ∧ v10.cell? ⟨q7, 1, none⟩ = some (.int .i64 sy) ∧ v10.cell? ⟨q5, 0, none⟩ = some (.int .i64 sx) ∧ v10.cell? ⟨q5, 1, none⟩ = some (.int .i64 sy) ∧ v10.cell? ⟨q3, 0, none⟩ = some (.int .i64 a) ∧ v10.cell? ⟨q3, 1, none⟩ = some (.int .i64 b) by exact ⟨U10.out.c0 (r := q13) (x := tx) (y := ty) (by simp), U10.out.c1 (r := q13) (x := tx) (y := ty) (by simp), U10.out.c0 (r := q11) (x := tx) (y := ty) (by simp), U10.out.c1 (r := q11) (x := tx) (y := ty) (by simp), U10.out.c0 (r := q7) (x := sx) (y := sy) (by simp), U10.out.c1 (r := q7) (x := sx) (y := sy) (by simp), U10.out.c0 (r := q5) (x := sx) (y := sy) (by simp), U10.out.c1 (r := q5) (x := sx) (y := sy) (by simp), U10.out.c0 (r := q3) (x := a) (y := b) (by simp), U10.out.c1 (r := q3) (x := a) (y := b) (by simp)⟩)
        go_region_held3 (fun w' => w'.cell? ⟨q13, 0, none⟩ = some (.int .i64 tx) ∧ w'.cell? ⟨q13, 1, none⟩ = some (.int .i64 ty) ∧ w'.cell? ⟨q11, 0, none⟩ = some (.int .i64 tx) ∧ w'.cell? ⟨q11, 1, none⟩ = some (.int .i64 ty) ∧ w'.cell? ⟨q7, 0, none⟩ = some (.int .i64 sx) ∧ w'.cell? ⟨q7, 1, none⟩ = some (.int .i64 sy) ∧ w'.cell? ⟨q5, 0, none⟩ = some (.int .i64 sx) ∧ w'.cell? ⟨q5, 1, none⟩ = some (.int .i64 sy) ∧ w'.cell? ⟨q3, 0, none⟩ = some (.int .i64 a) ∧ w'.cell? ⟨q3, 1, none⟩ = some (.int .i64 b))
          (first | exact ⟨X0.out.c0 (r := q13) (x := tx) (y := ty) (by simp), X0.out.c1 (r := q13) (x := tx) (y := ty) (by simp), X0.out.c0 (r := q11) (x := tx) (y := ty) (by simp), X0.out.c1 (r := q11) (x := tx) (y := ty) (by simp), X0.out.c0 (r := q7) (x := sx) (y := sy) (by simp), X0.out.c1 (r := q7) (x := sx) (y := sy) (by simp), X0.out.c0 (r := q5) (x := sx) (y := sy) (by simp), X0.out.c1 (r := q5) (x := sx) (y := sy) (by simp), X0.out.c0 (r := q3) (x := a) (y := b) (by simp), X0.out.c1 (r := q3) (x := a) (y := b) (by simp)⟩ | exact E0.out | go_keep)
          (first | (go_at_call 21; refine (HII.out _).mono ?_; rintro e y0 ⟨rfl, d0⟩; (first | have X0 := Go.Lib.hid (X0.out.step d0) | have X0 := Go.Lib.hid (U10.out.step d0) | have X0 := Go.Lib.hid ((U10.out.drewN 1).step d0))) | (go_at_call 22; refine (HIS.out _).mono ?_; rintro e y0 ⟨rfl, d0⟩; (first | have X0 := Go.Lib.hid (X0.out.step d0) | have X0 := Go.Lib.hid (U10.out.step d0) | have X0 := Go.Lib.hid ((U10.out.drewN 1).step d0))))
        clear E0 d0 U10
        go_wp2_with fail
        have HMA := Go.Lib.hid (show 1 ≤ IntKind.i64.wrap (IntKind.i64.wrap (b - a) + 1) ∧ IntKind.i64.wrap (IntKind.i64.wrap (b - a) + 1) = b - a + 1 by rw [IntWalk.i64_in (b - a) (by omega), IntWalk.i64_in (b - a + 1) (by omega)]; omega)
        have HMC := Go.Lib.hid (show 1 ≤ IntKind.i64.wrap (IntKind.i64.wrap (d - c) + 1) ∧ IntKind.i64.wrap (IntKind.i64.wrap (d - c) + 1) = d - c + 1 by rw [IntWalk.i64_in (d - c) (by omega), IntWalk.i64_in (d - c + 1) (by omega)]; omega)
        have HRO := Go.Lib.hid (fun s0 W0 (hW : VCtx w [(q13, tx, ty), (q11, tx, ty), (q9, lo1, hi1), (q7, sx, sy), (q5, sx, sy), (q4, c, d), (q3, a, b)] W0) => roll A n cap bs s0 W0 (hW.rd h) hs (by omega))
        have m1 : True := trivial
        have E0 := Go.Lib.hid (show y0.cell? ⟨q4, 0, none⟩ = some (.int .i64 c) ∧ y0.cell? ⟨q4, 1, none⟩ = some (.int .i64 d) ∧ y0.cell? ⟨q3, 0, none⟩ = some (.int .i64 a) ∧ y0.cell? ⟨q3, 1, none⟩ = some (.int .i64 b) by exact ⟨X0.out.c0 (r := q4) (x := c) (y := d) (by simp), X0.out.c1 (r := q4) (x := c) (y := d) (by simp), X0.out.c0 (r := q3) (x := a) (y := b) (by simp), X0.out.c1 (r := q3) (x := a) (y := b) (by simp)⟩)
        go_region_held3 (fun w' => w'.cell? ⟨q4, 0, none⟩ = some (.int .i64 c) ∧ w'.cell? ⟨q4, 1, none⟩ = some (.int .i64 d) ∧ w'.cell? ⟨q3, 0, none⟩ = some (.int .i64 a) ∧ w'.cell? ⟨q3, 1, none⟩ = some (.int .i64 b))
          (first | exact ⟨X2.out.c0 (r := q4) (x := c) (y := d) (by simp), X2.out.c1 (r := q4) (x := c) (y := d) (by simp), X2.out.c0 (r := q3) (x := a) (y := b) (by simp), X2.out.c1 (r := q3) (x := a) (y := b) (by simp)⟩ | exact ⟨L1.out.1.c0 (r := q4) (x := c) (y := d) (by simp), L1.out.1.c1 (r := q4) (x := c) (y := d) (by simp), L1.out.1.c0 (r := q3) (x := a) (y := b) (by simp), L1.out.1.c1 (r := q3) (x := a) (y := b) (by simp)⟩ | exact ⟨X2.out.c0 (r := q4) (x := c) (y := d) (by simp), X2.out.c1 (r := q4) (x := c) (y := d) (by simp), X2.out.c0 (r := q3) (x := a) (y := b) (by simp), X2.out.c1 (r := q3) (x := a) (y := b) (by simp)⟩ | exact E0.out | go_keep)
          (first | (go_at_call 23; (first | refine (HRO.out _ _ X2.out).mono ?_ | refine (HRO.out _ _ X0.out).mono ?_ | refine (HRO.out _ _ (X0.out.drewN 1)).mono ?_); rintro e y1 ⟨gd, rfl, hgd, D1, d1⟩; (first | have L1 := Go.Lib.hid (And.intro (X2.out.step d1) (And.intro (Nat.le_trans X2.out.below.size hgd) (fun v hv => Nat.lt_of_lt_of_le (X2.out.lts v hv) hgd))) | have L1 := Go.Lib.hid (And.intro (X0.out.step d1) (And.intro (Nat.le_trans X0.out.below.size hgd) (fun v hv => Nat.lt_of_lt_of_le (X0.out.lts v hv) hgd))) | have L1 := Go.Lib.hid (And.intro ((X0.out.drewN 1).step d1) (And.intro (Nat.le_trans X0.out.below.size hgd) (fun v hv => Nat.lt_of_lt_of_le (X0.out.lts v hv) hgd))))) | (go_at_call 24; (first | (clear m1; refine (below gd A n cap bs _ _ D1 HMA.out.1).mono ?_; rintro e y2 ⟨r0, rfl, r1, r2, kk⟩) | (refine (below gd A n cap bs _ _ D1 HMC.out.1).mono ?_; rintro e y2 ⟨t0, rfl, t1, t2, kk⟩)); have X2 := Go.Lib.hid (L1.out.1.keep kk L1.out.2.1 L1.out.2.2)))
        rw [HMA.out.2] at r2
        rw [HMC.out.2] at t2
        have wa : IntKind.i64.wrap (a + r0) = a + r0 := IntWalk.i64_in _ (by omega)
        have wc : IntKind.i64.wrap (c + t0) = c + t0 := IntWalk.i64_in _ (by omega)
        rw [wa, wc]
        clear wa wc
        have pp0 : a ≤ a + r0 := by omega
        have pp1 : a + r0 ≤ b := by omega
        have qq0 : c ≤ c + t0 := by omega
        have qq1 : c + t0 ≤ d := by omega
        generalize a + r0 = pp at pp0 pp1 ⊢
        generalize c + t0 = qq at qq0 qq1 ⊢
        clear E0 HRO HMA HMC r1 r2 t1 t2 kk X0
        have fq4a := X2.out.c0 (r := q4) (x := c) (y := d) (by simp)
        have fq4b := X2.out.c1 (r := q4) (x := c) (y := d) (by simp)
        have fq4l := X2.out.lt (r := q4) (x := c) (y := d) (by simp)
        have fq3a := X2.out.c0 (r := q3) (x := a) (y := b) (by simp)
        have fq3b := X2.out.c1 (r := q3) (x := a) (y := b) (by simp)
        have fq3l := X2.out.lt (r := q3) (x := a) (y := b) (by simp)
        go_wp2_with fail
        refine (HBk.out _).mono ?_
        rintro e v11 ⟨rfl, b11⟩
        have U11 := Go.Lib.hid (X2.out.step b11)
        clear fq4a fq4b fq4l fq3a fq3b fq3l
        clear b11 X2
        have fq5a := U11.out.c0 (r := q5) (x := sx) (y := sy) (by simp)
        have fq5b := U11.out.c1 (r := q5) (x := sx) (y := sy) (by simp)
        have fq5l := U11.out.lt (r := q5) (x := sx) (y := sy) (by simp)
        have wpq : IntKind.i64.wrap (pp + qq) = pp + qq := IntWalk.i64_in _ (by omega)
        go_wp2_with fail
        have U12 := Go.Lib.hid (U11.out.var (x := sx) (y := sy) 25)
        clear fq5a fq5b fq5l
        clear U11
        obtain ⟨q18, hq⟩ : ∃ q, q = v11.heap.size := ⟨_, rfl⟩
        rw [← hq] at U12 ⊢
        generalize v11.alloc (.cells #[.int .i64 sx, .int .i64 sy] 25) = v12 at U12 ⊢
        clear hq
        refine (insideT (pp + qq) sx sy _ (by omega) (by omega)).mono ?_
        rintro e v13 ⟨rfl, b13⟩
        have U13 := Go.Lib.hid (U12.out.step b13)
        clear b13 U12
        clear wpq
        have fq18a := U13.out.c0 (r := q18) (x := sx) (y := sy) (by simp)
        have fq18b := U13.out.c1 (r := q18) (x := sx) (y := sy) (by simp)
        have fq18l := U13.out.lt (r := q18) (x := sx) (y := sy) (by simp)
        have fq5a := U13.out.c0 (r := q5) (x := sx) (y := sy) (by simp)
        have fq5b := U13.out.c1 (r := q5) (x := sx) (y := sy) (by simp)
        have fq5l := U13.out.lt (r := q5) (x := sx) (y := sy) (by simp)
        go_wp2_with fail
        go_ret
        exact ⟨rfl, U13.out.below⟩
    · have hbadb : (sz == 0) = false := by simpa using hbad
      have hbadc : (sz != 0) = true := by simpa using hbad
      clear hbad HEQ
      refine (HAd.out _).mono ?_
      rintro e v1 ⟨rfl, b1⟩
      have U1 := Go.Lib.hid (U0.out.step b1)
      clear b1 U0
      have fq4a := U1.out.c0 (r := q4) (x := c) (y := d) (by simp)
      have fq4b := U1.out.c1 (r := q4) (x := c) (y := d) (by simp)
      have fq4l := U1.out.lt (r := q4) (x := c) (y := d) (by simp)
      have fq3a := U1.out.c0 (r := q3) (x := a) (y := b) (by simp)
      have fq3b := U1.out.c1 (r := q3) (x := a) (y := b) (by simp)
      have fq3l := U1.out.lt (r := q3) (x := a) (y := b) (by simp)
      go_wp2_with fail
      have U2 := Go.Lib.hid (U1.out.var (x := sx) (y := sy) 25)
      clear fq4a fq4b fq4l fq3a fq3b fq3l
      clear U1
      obtain ⟨q5, hq⟩ : ∃ q, q = v1.heap.size := ⟨_, rfl⟩
      rw [← hq] at U2 ⊢
      generalize v1.alloc (.cells #[.int .i64 sx, .int .i64 sy] 25) = v2 at U2 ⊢
      clear hq
      refine (HAdS.out _).mono ?_
      rintro e v3 ⟨rfl, b3⟩
      have U3 := Go.Lib.hid (U2.out.step b3)
      clear b3 U2
      have fq4a := U3.out.c0 (r := q4) (x := c) (y := d) (by simp)
      have fq4b := U3.out.c1 (r := q4) (x := c) (y := d) (by simp)
      have fq4l := U3.out.lt (r := q4) (x := c) (y := d) (by simp)
      have fq3a := U3.out.c0 (r := q3) (x := a) (y := b) (by simp)
      have fq3b := U3.out.c1 (r := q3) (x := a) (y := b) (by simp)
      have fq3l := U3.out.lt (r := q3) (x := a) (y := b) (by simp)
      go_wp2_with fail
      have U4 := Go.Lib.hid (U3.out.var (x := sx) (y := sy) 25)
      clear fq4a fq4b fq4l fq3a fq3b fq3l
      clear U3
      obtain ⟨q7, hq⟩ : ∃ q, q = v3.heap.size := ⟨_, rfl⟩
      rw [← hq] at U4 ⊢
      generalize v3.alloc (.cells #[.int .i64 sx, .int .i64 sy] 25) = v4 at U4 ⊢
      clear hq
      refine (drawTimes A n cap bs _ (U4.out.rd h) hs (by omega)).mono ?_
      rintro e v5 ⟨lo1, hi1, m0, rfl, ⟨⟨fe, ff⟩, fm⟩, b5⟩
      unfold Fine at fe ff fm
      have U5 := Go.Lib.hid (U4.out.step b5)
      clear b5 U4
      go_wp2_with fail
      have U6 := Go.Lib.hid (U5.out.var (x := lo1) (y := hi1) 25)
      clear U5
      obtain ⟨q9, hq⟩ : ∃ q, q = v5.heap.size := ⟨_, rfl⟩
      rw [← hq] at U6 ⊢
      generalize v5.alloc (.cells #[.int .i64 lo1, .int .i64 hi1] 25) = v6 at U6 ⊢
      clear hq
      have HTi := fun w => implTimes lo1 hi1 m0 w
      have HTs := fun w => specTimes lo1 hi1 m0 w
      obtain ⟨⟨tx, ty, tz⟩, htq⟩ : ∃ r, r = timesIv lo1 hi1 m0 := ⟨_, rfl⟩
      rw [← htq] at HTi HTs
      have HTi := Go.Lib.hid HTi
      have HTs := Go.Lib.hid HTs
      have HTQ := Go.Lib.hid htq.symm
      clear htq
      by_cases hone : tz = 0
      · subst hone
        have HTK := Go.Lib.hid (times_ok HTQ.out)
        obtain ⟨y1, y2, y3⟩ := vldB_of HTK.out.1
        obtain ⟨y4, y5⟩ := And.intro HTK.out.2.1 HTK.out.2.2.1
        clear HTQ
        refine (HTi.out _).mono ?_
        rintro e v7 ⟨rfl, b7⟩
        have U7 := Go.Lib.hid (U6.out.step b7)
        clear b7 U6
        have fq9a := U7.out.c0 (r := q9) (x := lo1) (y := hi1) (by simp)
        have fq9b := U7.out.c1 (r := q9) (x := lo1) (y := hi1) (by simp)
        have fq9l := U7.out.lt (r := q9) (x := lo1) (y := hi1) (by simp)
        go_wp2_with fail
        have U8 := Go.Lib.hid (U7.out.var (x := tx) (y := ty) 25)
        clear fq9a fq9b fq9l
        clear U7
        obtain ⟨q11, hq⟩ : ∃ q, q = v7.heap.size := ⟨_, rfl⟩
        rw [← hq] at U8 ⊢
        generalize v7.alloc (.cells #[.int .i64 tx, .int .i64 ty] 25) = v8 at U8 ⊢
        clear hq
        refine (HTs.out _).mono ?_
        rintro e v9 ⟨rfl, b9⟩
        have U9 := Go.Lib.hid (U8.out.step b9)
        clear b9 U8
        have fq11a := U9.out.c0 (r := q11) (x := tx) (y := ty) (by simp)
        have fq11b := U9.out.c1 (r := q11) (x := tx) (y := ty) (by simp)
        have fq11l := U9.out.lt (r := q11) (x := tx) (y := ty) (by simp)
        have fq9a := U9.out.c0 (r := q9) (x := lo1) (y := hi1) (by simp)
        have fq9b := U9.out.c1 (r := q9) (x := lo1) (y := hi1) (by simp)
        have fq9l := U9.out.lt (r := q9) (x := lo1) (y := hi1) (by simp)
        have fq7a := U9.out.c0 (r := q7) (x := sx) (y := sy) (by simp)
        have fq7b := U9.out.c1 (r := q7) (x := sx) (y := sy) (by simp)
        have fq7l := U9.out.lt (r := q7) (x := sx) (y := sy) (by simp)
        have fq5a := U9.out.c0 (r := q5) (x := sx) (y := sy) (by simp)
        have fq5b := U9.out.c1 (r := q5) (x := sx) (y := sy) (by simp)
        have fq5l := U9.out.lt (r := q5) (x := sx) (y := sy) (by simp)
        have fq4a := U9.out.c0 (r := q4) (x := c) (y := d) (by simp)
        have fq4b := U9.out.c1 (r := q4) (x := c) (y := d) (by simp)
        have fq4l := U9.out.lt (r := q4) (x := c) (y := d) (by simp)
        have fq3a := U9.out.c0 (r := q3) (x := a) (y := b) (by simp)
        have fq3b := U9.out.c1 (r := q3) (x := a) (y := b) (by simp)
        have fq3l := U9.out.lt (r := q3) (x := a) (y := b) (by simp)
        go_wp2_with fail
        have U10 := Go.Lib.hid (U9.out.var (x := tx) (y := ty) 25)
        clear fq11a fq11b fq11l fq9a fq9b fq9l fq7a fq7b fq7l fq5a fq5b fq5l fq4a fq4b fq4l fq3a fq3b fq3l
        clear U9
        obtain ⟨q13, hq⟩ : ∃ q, q = v9.heap.size := ⟨_, rfl⟩
        rw [← hq] at U10 ⊢
        generalize v9.alloc (.cells #[.int .i64 tx, .int .i64 ty] 25) = v10 at U10 ⊢
        clear hq
        have E0 := Go.Lib.hid (show v10.cell? ⟨q13, 0, none⟩ = some (.int .i64 tx) ∧ v10.cell? ⟨q13, 1, none⟩ = some (.int .i64 ty) ∧ v10.cell? ⟨q11, 0, none⟩ = some (.int .i64 tx) ∧ v10.cell? ⟨q11, 1, none⟩ = some (.int .i64 ty) ∧ v10.cell? ⟨q7, 0, none⟩ = some (.int .i64 sx) ∧ v10.cell? ⟨q7, 1, none⟩ = some (.int .i64 sy) ∧ v10.cell? ⟨q5, 0, none⟩ = some (.int .i64 sx) ∧ v10.cell? ⟨q5, 1, none⟩ = some (.int .i64 sy) ∧ v10.cell? ⟨q3, 0, none⟩ = some (.int .i64 a) ∧ v10.cell? ⟨q3, 1, none⟩ = some (.int .i64 b) by exact ⟨U10.out.c0 (r := q13) (x := tx) (y := ty) (by simp), U10.out.c1 (r := q13) (x := tx) (y := ty) (by simp), U10.out.c0 (r := q11) (x := tx) (y := ty) (by simp), U10.out.c1 (r := q11) (x := tx) (y := ty) (by simp), U10.out.c0 (r := q7) (x := sx) (y := sy) (by simp), U10.out.c1 (r := q7) (x := sx) (y := sy) (by simp), U10.out.c0 (r := q5) (x := sx) (y := sy) (by simp), U10.out.c1 (r := q5) (x := sx) (y := sy) (by simp), U10.out.c0 (r := q3) (x := a) (y := b) (by simp), U10.out.c1 (r := q3) (x := a) (y := b) (by simp)⟩)
        go_region_held3 (fun w' => w'.cell? ⟨q13, 0, none⟩ = some (.int .i64 tx) ∧ w'.cell? ⟨q13, 1, none⟩ = some (.int .i64 ty) ∧ w'.cell? ⟨q11, 0, none⟩ = some (.int .i64 tx) ∧ w'.cell? ⟨q11, 1, none⟩ = some (.int .i64 ty) ∧ w'.cell? ⟨q7, 0, none⟩ = some (.int .i64 sx) ∧ w'.cell? ⟨q7, 1, none⟩ = some (.int .i64 sy) ∧ w'.cell? ⟨q5, 0, none⟩ = some (.int .i64 sx) ∧ w'.cell? ⟨q5, 1, none⟩ = some (.int .i64 sy) ∧ w'.cell? ⟨q3, 0, none⟩ = some (.int .i64 a) ∧ w'.cell? ⟨q3, 1, none⟩ = some (.int .i64 b))
          (first | exact ⟨X0.out.c0 (r := q13) (x := tx) (y := ty) (by simp), X0.out.c1 (r := q13) (x := tx) (y := ty) (by simp), X0.out.c0 (r := q11) (x := tx) (y := ty) (by simp), X0.out.c1 (r := q11) (x := tx) (y := ty) (by simp), X0.out.c0 (r := q7) (x := sx) (y := sy) (by simp), X0.out.c1 (r := q7) (x := sx) (y := sy) (by simp), X0.out.c0 (r := q5) (x := sx) (y := sy) (by simp), X0.out.c1 (r := q5) (x := sx) (y := sy) (by simp), X0.out.c0 (r := q3) (x := a) (y := b) (by simp), X0.out.c1 (r := q3) (x := a) (y := b) (by simp)⟩ | exact E0.out | go_keep)
          (first | (go_at_call 21; refine (HII.out _).mono ?_; rintro e y0 ⟨rfl, d0⟩; (first | have X0 := Go.Lib.hid (X0.out.step d0) | have X0 := Go.Lib.hid (U10.out.step d0) | have X0 := Go.Lib.hid ((U10.out.drewN 1).step d0))) | (go_at_call 22; refine (HIS.out _).mono ?_; rintro e y0 ⟨rfl, d0⟩; (first | have X0 := Go.Lib.hid (X0.out.step d0) | have X0 := Go.Lib.hid (U10.out.step d0) | have X0 := Go.Lib.hid ((U10.out.drewN 1).step d0))))
        clear E0 d0 U10
        go_wp2_with fail
        have HMM := Go.Lib.hid (show 1 ≤ IntKind.i64.wrap (IntKind.i64.wrap (hi1 - lo1) + 1) ∧ IntKind.i64.wrap (IntKind.i64.wrap (hi1 - lo1) + 1) = hi1 - lo1 + 1 by rw [IntWalk.i64_in (hi1 - lo1) (by omega), IntWalk.i64_in (hi1 - lo1 + 1) (by omega)]; omega)
        have HRO := Go.Lib.hid (fun W0 (hW : VCtx w [(q13, tx, ty), (q11, tx, ty), (q9, lo1, hi1), (q7, sx, sy), (q5, sx, sy), (q4, c, d), (q3, a, b)] W0) => roll A n cap bs 201 W0 (hW.rd h) hs (by omega))
        have fq9a := X0.out.c0 (r := q9) (x := lo1) (y := hi1) (by simp)
        have fq9b := X0.out.c1 (r := q9) (x := lo1) (y := hi1) (by simp)
        have fq9l := X0.out.lt (r := q9) (x := lo1) (y := hi1) (by simp)
        have e0 := fq9a
        have e1 := fq9b
        have S0 := Go.Lib.hid fq9l
        clear fq9a fq9b fq9l
        go_region_held3 (fun w' => w'.cell? ⟨q9, 0, none⟩ = some (.int .i64 lo1) ∧ w'.cell? ⟨q9, 1, none⟩ = some (.int .i64 hi1))
          (first | exact ⟨X2.out.c0 (r := q9) (x := lo1) (y := hi1) (by simp), X2.out.c1 (r := q9) (x := lo1) (y := hi1) (by simp)⟩ | exact ⟨X1.out.c0 (r := q9) (x := lo1) (y := hi1) (by simp), X1.out.c1 (r := q9) (x := lo1) (y := hi1) (by simp)⟩ | exact ⟨e0, e1⟩ | go_keep)
          (first | (go_at_call 23; (first | refine (HRO.out _ X0.out).mono ?_ | refine (HRO.out _ (X0.out.drewN 1)).mono ?_); rintro e y1 ⟨gd, rfl, hgd, D1, d1⟩; (first | have X1 := Go.Lib.hid (X0.out.step d1) | have X1 := Go.Lib.hid ((X0.out.drewN 1).step d1)); (first | have L1 := Go.Lib.hid (And.intro X0.out.lts X0.out.below.size) | skip)) | (go_at_call 24; refine (below gd A n cap bs _ _ D1 HMM.out.1).mono ?_; rintro e y2 ⟨r0, rfl, r1, r2, kk⟩; have X2 := Go.Lib.hid (X1.out.keep kk (Nat.le_trans L1.out.2 hgd) (fun v hv => Nat.lt_of_lt_of_le (L1.out.1 v hv) hgd))))
        rw [HMM.out.2] at r2
        have w1e : IntKind.i64.wrap (lo1 + r0) = lo1 + r0 := IntWalk.i64_in _ (by omega)
        rw [w1e]
        clear w1e
        have kn0 : lo1 ≤ lo1 + r0 := by omega
        have kn1 : lo1 + r0 ≤ hi1 := by omega
        generalize lo1 + r0 = kn at kn0 kn1 ⊢
        clear e0 e1 S0 HRO HMM r1 r2 X1 D1 d1 hgd kk L1 X0
        obtain ⟨g1, g2⟩ := HTK.out.2.2.2 kn kn0 kn1
        have mb := mul_bd (a := kn) (n := m0) (p := 1000000000) (q := 1000000) (by omega) (by omega)
        obtain ⟨mb1, mb2⟩ := mb
        have wk : IntKind.i64.wrap (kn * m0) = kn * m0 := IntWalk.i64_in _ (by omega)
        have fq11a := X2.out.c0 (r := q11) (x := tx) (y := ty) (by simp)
        have fq11b := X2.out.c1 (r := q11) (x := tx) (y := ty) (by simp)
        have fq11l := X2.out.lt (r := q11) (x := tx) (y := ty) (by simp)
        go_wp2_with fail
        refine (insideT (kn * m0) tx ty _ g1 g2).mono ?_
        rintro e v12 ⟨rfl, b12⟩
        have U12 := Go.Lib.hid (X2.out.step b12)
        clear fq11a fq11b fq11l
        clear b12 X2
        clear wk mb1 mb2
        go_wp2_with fail
        go_ret
        exact ⟨rfl, U12.out.below⟩
      · have honeb : (tz == 0) = false := by simpa using hone
        clear hone HTQ
        refine (HTi.out _).mono ?_
        rintro e v7 ⟨rfl, b7⟩
        have U7 := Go.Lib.hid (U6.out.step b7)
        clear b7 U6
        have fq9a := U7.out.c0 (r := q9) (x := lo1) (y := hi1) (by simp)
        have fq9b := U7.out.c1 (r := q9) (x := lo1) (y := hi1) (by simp)
        have fq9l := U7.out.lt (r := q9) (x := lo1) (y := hi1) (by simp)
        go_wp2_with fail
        have U8 := Go.Lib.hid (U7.out.var (x := tx) (y := ty) 25)
        clear fq9a fq9b fq9l
        clear U7
        obtain ⟨q11, hq⟩ : ∃ q, q = v7.heap.size := ⟨_, rfl⟩
        rw [← hq] at U8 ⊢
        generalize v7.alloc (.cells #[.int .i64 tx, .int .i64 ty] 25) = v8 at U8 ⊢
        clear hq
        refine (HTs.out _).mono ?_
        rintro e v9 ⟨rfl, b9⟩
        have U9 := Go.Lib.hid (U8.out.step b9)
        clear b9 U8
        have fq11a := U9.out.c0 (r := q11) (x := tx) (y := ty) (by simp)
        have fq11b := U9.out.c1 (r := q11) (x := tx) (y := ty) (by simp)
        have fq11l := U9.out.lt (r := q11) (x := tx) (y := ty) (by simp)
        have fq9a := U9.out.c0 (r := q9) (x := lo1) (y := hi1) (by simp)
        have fq9b := U9.out.c1 (r := q9) (x := lo1) (y := hi1) (by simp)
        have fq9l := U9.out.lt (r := q9) (x := lo1) (y := hi1) (by simp)
        have fq7a := U9.out.c0 (r := q7) (x := sx) (y := sy) (by simp)
        have fq7b := U9.out.c1 (r := q7) (x := sx) (y := sy) (by simp)
        have fq7l := U9.out.lt (r := q7) (x := sx) (y := sy) (by simp)
        have fq5a := U9.out.c0 (r := q5) (x := sx) (y := sy) (by simp)
        have fq5b := U9.out.c1 (r := q5) (x := sx) (y := sy) (by simp)
        have fq5l := U9.out.lt (r := q5) (x := sx) (y := sy) (by simp)
        have fq4a := U9.out.c0 (r := q4) (x := c) (y := d) (by simp)
        have fq4b := U9.out.c1 (r := q4) (x := c) (y := d) (by simp)
        have fq4l := U9.out.lt (r := q4) (x := c) (y := d) (by simp)
        have fq3a := U9.out.c0 (r := q3) (x := a) (y := b) (by simp)
        have fq3b := U9.out.c1 (r := q3) (x := a) (y := b) (by simp)
        have fq3l := U9.out.lt (r := q3) (x := a) (y := b) (by simp)
        go_wp2_with fail
        have U10 := Go.Lib.hid (U9.out.var (x := tx) (y := ty) 25)
        clear fq11a fq11b fq11l fq9a fq9b fq9l fq7a fq7b fq7l fq5a fq5b fq5l fq4a fq4b fq4l fq3a fq3b fq3l
        clear U9
        obtain ⟨q13, hq⟩ : ∃ q, q = v9.heap.size := ⟨_, rfl⟩
        rw [← hq] at U10 ⊢
        generalize v9.alloc (.cells #[.int .i64 tx, .int .i64 ty] 25) = v10 at U10 ⊢
        clear hq
        have E0 := Go.Lib.hid (show v10.cell? ⟨q13, 0, none⟩ = some (.int .i64 tx) ∧ v10.cell? ⟨q13, 1, none⟩ = some (.int .i64 ty) ∧ v10.cell? ⟨q11, 0, none⟩ = some (.int .i64 tx) ∧ v10.cell? ⟨q11, 1, none⟩ = some (.int .i64 ty) ∧ v10.cell? ⟨q7, 0, none⟩ = some (.int .i64 sx) ∧ v10.cell? ⟨q7, 1, none⟩ = some (.int .i64 sy) ∧ v10.cell? ⟨q5, 0, none⟩ = some (.int .i64 sx) ∧ v10.cell? ⟨q5, 1, none⟩ = some (.int .i64 sy) ∧ v10.cell? ⟨q3, 0, none⟩ = some (.int .i64 a) ∧ v10.cell? ⟨q3, 1, none⟩ = some (.int .i64 b) by exact ⟨U10.out.c0 (r := q13) (x := tx) (y := ty) (by simp), U10.out.c1 (r := q13) (x := tx) (y := ty) (by simp), U10.out.c0 (r := q11) (x := tx) (y := ty) (by simp), U10.out.c1 (r := q11) (x := tx) (y := ty) (by simp), U10.out.c0 (r := q7) (x := sx) (y := sy) (by simp), U10.out.c1 (r := q7) (x := sx) (y := sy) (by simp), U10.out.c0 (r := q5) (x := sx) (y := sy) (by simp), U10.out.c1 (r := q5) (x := sx) (y := sy) (by simp), U10.out.c0 (r := q3) (x := a) (y := b) (by simp), U10.out.c1 (r := q3) (x := a) (y := b) (by simp)⟩)
        go_region_held3 (fun w' => w'.cell? ⟨q13, 0, none⟩ = some (.int .i64 tx) ∧ w'.cell? ⟨q13, 1, none⟩ = some (.int .i64 ty) ∧ w'.cell? ⟨q11, 0, none⟩ = some (.int .i64 tx) ∧ w'.cell? ⟨q11, 1, none⟩ = some (.int .i64 ty) ∧ w'.cell? ⟨q7, 0, none⟩ = some (.int .i64 sx) ∧ w'.cell? ⟨q7, 1, none⟩ = some (.int .i64 sy) ∧ w'.cell? ⟨q5, 0, none⟩ = some (.int .i64 sx) ∧ w'.cell? ⟨q5, 1, none⟩ = some (.int .i64 sy) ∧ w'.cell? ⟨q3, 0, none⟩ = some (.int .i64 a) ∧ w'.cell? ⟨q3, 1, none⟩ = some (.int .i64 b))
          (first | exact ⟨X0.out.c0 (r := q13) (x := tx) (y := ty) (by simp), X0.out.c1 (r := q13) (x := tx) (y := ty) (by simp), X0.out.c0 (r := q11) (x := tx) (y := ty) (by simp), X0.out.c1 (r := q11) (x := tx) (y := ty) (by simp), X0.out.c0 (r := q7) (x := sx) (y := sy) (by simp), X0.out.c1 (r := q7) (x := sx) (y := sy) (by simp), X0.out.c0 (r := q5) (x := sx) (y := sy) (by simp), X0.out.c1 (r := q5) (x := sx) (y := sy) (by simp), X0.out.c0 (r := q3) (x := a) (y := b) (by simp), X0.out.c1 (r := q3) (x := a) (y := b) (by simp)⟩ | exact E0.out | go_keep)
          (first | (go_at_call 21; refine (HII.out _).mono ?_; rintro e y0 ⟨rfl, d0⟩; (first | have X0 := Go.Lib.hid (X0.out.step d0) | have X0 := Go.Lib.hid (U10.out.step d0) | have X0 := Go.Lib.hid ((U10.out.drewN 1).step d0))) | (go_at_call 22; refine (HIS.out _).mono ?_; rintro e y0 ⟨rfl, d0⟩; (first | have X0 := Go.Lib.hid (X0.out.step d0) | have X0 := Go.Lib.hid (U10.out.step d0) | have X0 := Go.Lib.hid ((U10.out.drewN 1).step d0))))
        clear E0 d0 U10
        go_wp2_with fail
        go_ret
        exact ⟨rfl, X0.out.below⟩

set_option maxRecDepth 100000 in
theorem lifted (os : Os) (started : os.Started) (H : Type) (enc : TypeId × Value → H) :
    ReturnsInHanded {} Try.checked os 3 .any (Rows.fnSumsSpec.pre6 enc Try.prog Try.f3 Rows.fnSumsRow.domain false) (Rows.fnSumsSpec.post enc Try.prog Try.f3 false true false false) := by
  refine returnsInHanded_of_change_sized (C := Try.checked) own started (by kernel_rfl) Try.func3
    (ChangeSpec.witness6 (enc := enc) (C := Try.checked) false ⟨#[], #[.slice none 0 0], []⟩ 8 (by kernel_rfl) (by kernel_rfl) (by kernel_rfl) (by kernel_rfl)) ?_
  intro W base args ds gs before hval0 hW hcnd hsz0 _
  have hsz : (DataW.weightsEach Try.prog (Try.f3.params.toList ++ Rows.fnSumsSpec.plain.varTypes Try.prog) (ds ++ gs)).all (· ≤ reachBytes) = true := hsz0
  clear hsz0
  have hval : ∀ (j : Nat) t v, Try.f3.params[j]? = some t → args[j]? = some v → Value.okWide Try.prog W .any base t v := hval0
  clear hval0
  have hW' := hW
  obtain ⟨p, q, hA0, hV, rfl, hfz, hnd⟩ := hW
  have hA : DataW.TrodAll enc Try.prog W 0 (fun _ => true) true Try.f3.params.toList args.toList ds p := hA0
  rw [Try.params3] at hA hval hsz
  obtain ⟨v0, vs0, d0, ds0, p0, q0, hargs, rfl, rfl, h0, r0⟩ := trodAll_cons hA
  obtain ⟨rfl, rfl, rfl⟩ := trodAll_nil r0
  obtain rfl : args = #[v0] := by cases args; simp_all
  obtain ⟨rfl, rfl⟩ := trodVars_none hV
  obtain ⟨a0, len0, cap0, rfl⟩ := okWide_slice Try.underlying22 (hval 0 22 v0 rfl rfl)
  have k0 := h0
  have lt0 : ∀ x ∈ p0, x.block < W.heap.size := by obtain ⟨m, hm⟩ := k0; exact DataW.trod_lt m _ _ _ hm
  obtain ⟨⟨z0, rd0, sz0⟩, hlc0, hp0⟩ := open_list_bytes h0
  have reach0 : len0 * 1 ≤ 140737488351232 := by
    rcases hp0 with hp0 | ⟨E0, S0, rfl, hl0⟩
    · omega
    · have := sized_slice hsz (j := 0) (t := 22) (e := 5) rfl rfl Try.underlying22
      rw [show Try.prog.bytesOf 5 = 1 by kernel_rfl] at this
      simp only [reachBytes] at this
      omega
  clear hA0
  refine (walk a0 len0 cap0 z0 W rd0 reach0 sz0).mono fun e W' ⟨he, bel⟩ => ?_
  subst he
  exact ⟨_, rfl, _, _, _, [], _, [], hW', trodAll_mk1 (shut_bool Try.underlying4 _), (trodAll_cons_mk (Below.trod laidOut (by kernel_rfl) (of_decide_eq_true (by kernel_rfl)) k0 bel lt0) trodAll_mk0), rfl, bel.frame _, fun h => by cases h⟩

theorem over : Rows.fnSumsRow.holds Try.pinned (OpenSpec.ofChange Rows.fnSumsSpec) :=
  OpenClaim.holds_of_wide 3 Try.f3 rfl rfl rfl rfl rfl rfl rfl ⟨rfl, rfl, rfl, rfl, rfl⟩ rfl rfl rfl rfl rfl (by kernel_rfl) Try.func3 (by kernel_rfl)
    (of_decide_eq_true (by kernel_rfl)) (by unfold Func.isWrapper; first | (rw [if_pos (by decide +kernel)]; kernel_rfl) | (rw [if_neg (by decide +kernel)]; exact ⟨rfl, rfl⟩))
    (fun os started H enc _ => lifted os started H enc)

theorem proved : Rows.FnSumsSaid := over
end Go.Proofs.Ytcknknicknolaaa.fnSums
