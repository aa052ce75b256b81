/- FnRoots holds: for every code, squares of the numbers of the drawn interval lie in its square, and the root of that square has them. -/
import Derived.Test.YtcknknicknolaaaRows
import Derived.Test.YtcknknicknolaaaOpenB
import Derived.Test.YtcknknicknolaaaIv3
import Derived.Test.YtcknknicknolaaaIv4
import Derived.Test.YtcknknicknolaaaRoot
import Derived.Test.YtcknknicknolaaaDrawIv4
import Derived.Test.YtcknknicknolaaaLawCode
import Derived.Test.YtcknknicknolaaaPlainIv2
import Derived.WalkKit
import Derived.ProofKit
import Derived.OpenShut
import Derived.ShutString
import Derived.SizedLaws
namespace Go.Proofs.Ytcknknicknolaaa.fnRoots
open Go.ChangeShapes Go.WideShapes Go.ChangeAt Go.RowKit
open Go.ChangeMaps (open_string shut_string)
set_option linter.unusedVariables false

set_option maxRecDepth 100000 in
set_option maxHeartbeats 16000000 in
theorem walk (A : Option Addr) (n cap : Nat) (bs : List Int) (w : World) (h : Rd w 0 w.heap.size A n (byts bs)) (hn : n * 1 ≤ 140737488351232) (hs : ∀ z ∈ bs, 0 ≤ z ∧ z ≤ 255) :
    Calls Try.prog 4 #[.slice A n cap] w fun e w' => e = .returned (.bool true) ∧ Below w.heap.size w w' := by
  have HB := Go.Lib.hid (big_ A n cap w)
  by_cases hbig : (4096 : Int) < n
  · go_enter Try.func4, Try.ntmps4
    go_wp2_with fail
    refine HB.out.mono ?_
    rintro e w' ⟨rfl, rfl⟩
    go_wp2_with fail
    go_ret
    exact ⟨rfl, Below.refl _ _⟩
  · have hb2 := big_ A n cap w
    rw [decide_eq_false hbig] at hb2
    have HB2 := Go.Lib.hid hb2
    clear hb2
    go_enter Try.func4, Try.ntmps4
    go_wp2_with fail
    refine HB2.out.mono ?_
    rintro e w' ⟨rfl, rfl⟩
    go_wp2_with fail
    refine (drawSquare A n cap bs w h hs (by omega)).mono ?_
    rintro e w1 ⟨a, b, rfl, ⟨fa, fb⟩, b1⟩
    unfold Fine at fa fb
    have U0 : Hid (VCtx w [(w1.heap.size, a, b)] (w1.alloc (.cells #[.int .i64 a, .int .i64 b] 25))) := VCtx.var ⟨b1, fun v hv => by cases hv⟩ 25
    clear HB HB2 hbig b1
    go_wp2_with fail
    obtain ⟨q3, hq⟩ : ∃ q, q = w1.heap.size := ⟨_, rfl⟩
    rw [← hq] at U0 ⊢
    generalize w1.alloc (.cells #[.int .i64 a, .int .i64 b] 25) = w2 at U0 ⊢
    clear hq
    have HSq := fun w => implSquare a b w
    have HSqS := fun w => specSquare a b w
    obtain ⟨⟨sx, sy, sz⟩, hsq⟩ : ∃ r, r = squareIv a b := ⟨_, rfl⟩
    rw [← hsq] at HSq HSqS
    have HSq := Go.Lib.hid HSq
    have HSqS := Go.Lib.hid HSqS
    have HEQ := Go.Lib.hid hsq.symm
    clear hsq
    by_cases hbad : sz = 0
    · subst hbad
      have HQ := Go.Lib.hid (square_ok HEQ.out)
      obtain ⟨z1, z2, z3⟩ := vldB_of HQ.out.1
      have HBk := fun w => implRoot sx sy w
      rw [rootIv_ok HQ.out.2.1 HQ.out.2.2.1] at HBk
      clear HEQ
      obtain ⟨bx, hbx⟩ : ∃ z, z = rootI sx := ⟨_, rfl⟩
      obtain ⟨by_, hby⟩ : ∃ z, z = upI sy := ⟨_, rfl⟩
      rw [← hbx, ← hby] at HBk
      have HBk := Go.Lib.hid HBk
      have HBX := Go.Lib.hid (And.intro hbx hby)
      clear hbx hby
      refine (HSq.out _).mono ?_
      rintro e v1 ⟨rfl, b1⟩
      have U1 := Go.Lib.hid (U0.out.step b1)
      clear b1 U0
      have fq3a := U1.out.c0 (r := q3) (x := a) (y := b) (by simp)
      have fq3b := U1.out.c1 (r := q3) (x := a) (y := b) (by simp)
      have fq3l := U1.out.lt (r := q3) (x := a) (y := b) (by simp)
      go_wp2_with fail
      have U2 := Go.Lib.hid (U1.out.var (x := sx) (y := sy) 25)
      clear fq3a fq3b fq3l
      clear U1
      obtain ⟨q4, hq⟩ : ∃ q, q = v1.heap.size := ⟨_, rfl⟩
      rw [← hq] at U2 ⊢
      generalize v1.alloc (.cells #[.int .i64 sx, .int .i64 sy] 25) = v2 at U2 ⊢
      clear hq
      refine (HSqS.out _).mono ?_
      rintro e v3 ⟨rfl, b3⟩
      have U3 := Go.Lib.hid (U2.out.step b3)
      clear b3 U2
      have fq3a := U3.out.c0 (r := q3) (x := a) (y := b) (by simp)
      have fq3b := U3.out.c1 (r := q3) (x := a) (y := b) (by simp)
      have fq3l := U3.out.lt (r := q3) (x := a) (y := b) (by simp)
      go_wp2_with fail
      have U4 := Go.Lib.hid (U3.out.var (x := sx) (y := sy) 25)
      clear fq3a fq3b fq3l
      clear U3
      obtain ⟨q6, hq⟩ : ∃ q, q = v3.heap.size := ⟨_, rfl⟩
      rw [← hq] at U4 ⊢
      generalize v3.alloc (.cells #[.int .i64 sx, .int .i64 sy] 25) = v4 at U4 ⊢
      clear hq
      refine (drawRoot A n cap bs _ (U4.out.rd h) hs (by omega)).mono ?_
      rintro e v5 ⟨e1, f1, rfl, ⟨fe, ff⟩, b5⟩
      unfold Fine at fe ff
      have U5 := Go.Lib.hid (U4.out.step b5)
      clear b5 U4
      go_wp2_with fail
      have U6 := Go.Lib.hid (U5.out.var (x := e1) (y := f1) 25)
      clear U5
      obtain ⟨q8, hq⟩ : ∃ q, q = v5.heap.size := ⟨_, rfl⟩
      rw [← hq] at U6 ⊢
      generalize v5.alloc (.cells #[.int .i64 e1, .int .i64 f1] 25) = v6 at U6 ⊢
      clear hq
      have HRi := fun w => implRoot e1 f1 w
      have HRs := fun w => specRootInterval e1 f1 w
      obtain ⟨⟨rx, ry, rz⟩, hrt⟩ : ∃ r, r = rootIv e1 f1 := ⟨_, rfl⟩
      rw [← hrt] at HRi HRs
      have HRi := Go.Lib.hid HRi
      have HRs := Go.Lib.hid HRs
      have HRT := Go.Lib.hid hrt.symm
      clear hrt
      by_cases hone : rz = 0
      · subst hone
        obtain ⟨k1, k2, k3, k4, k5, k6⟩ := rootIv_facts HRT.out
        have m1 := mul_bd (a := rx) (n := rx) (p := 31623) (q := 31623) (by omega) (by omega)
        have m2 := mul_bd (a := ry) (n := ry) (p := 31624) (q := 31624) (by omega) (by omega)
        have wr1 : IntKind.i64.wrap (rx * rx) = rx * rx := IntWalk.i64_in _ (by omega)
        have wr2 : IntKind.i64.wrap (ry * ry) = ry * ry := IntWalk.i64_in _ (by omega)
        clear m1 m2 HRT
        refine (HRi.out _).mono ?_
        rintro e v7 ⟨rfl, b7⟩
        have U7 := Go.Lib.hid (U6.out.step b7)
        clear b7 U6
        have fq8a := U7.out.c0 (r := q8) (x := e1) (y := f1) (by simp)
        have fq8b := U7.out.c1 (r := q8) (x := e1) (y := f1) (by simp)
        have fq8l := U7.out.lt (r := q8) (x := e1) (y := f1) (by simp)
        go_wp2_with fail
        have U8 := Go.Lib.hid (U7.out.var (x := rx) (y := ry) 25)
        clear fq8a fq8b fq8l
        clear U7
        obtain ⟨q9, hq⟩ : ∃ q, q = v7.heap.size := ⟨_, rfl⟩
        rw [← hq] at U8 ⊢
        generalize v7.alloc (.cells #[.int .i64 rx, .int .i64 ry] 25) = v8 at U8 ⊢
        clear hq
        refine (HRs.out _).mono ?_
        rintro e v9 ⟨rfl, b9⟩
        have U9 := Go.Lib.hid (U8.out.step b9)
        clear b9 U8
        have fq9a := U9.out.c0 (r := q9) (x := rx) (y := ry) (by simp)
        have fq9b := U9.out.c1 (r := q9) (x := rx) (y := ry) (by simp)
        have fq9l := U9.out.lt (r := q9) (x := rx) (y := ry) (by simp)
        have fq8a := U9.out.c0 (r := q8) (x := e1) (y := f1) (by simp)
        have fq8b := U9.out.c1 (r := q8) (x := e1) (y := f1) (by simp)
        have fq8l := U9.out.lt (r := q8) (x := e1) (y := f1) (by simp)
        have fq6a := U9.out.c0 (r := q6) (x := sx) (y := sy) (by simp)
        have fq6b := U9.out.c1 (r := q6) (x := sx) (y := sy) (by simp)
        have fq6l := U9.out.lt (r := q6) (x := sx) (y := sy) (by simp)
        have fq4a := U9.out.c0 (r := q4) (x := sx) (y := sy) (by simp)
        have fq4b := U9.out.c1 (r := q4) (x := sx) (y := sy) (by simp)
        have fq4l := U9.out.lt (r := q4) (x := sx) (y := sy) (by simp)
        have fq3a := U9.out.c0 (r := q3) (x := a) (y := b) (by simp)
        have fq3b := U9.out.c1 (r := q3) (x := a) (y := b) (by simp)
        have fq3l := U9.out.lt (r := q3) (x := a) (y := b) (by simp)
        go_wp2_with fail
        have U10 := Go.Lib.hid (U9.out.var (x := rx) (y := ry) 25)
        clear fq9a fq9b fq9l fq8a fq8b fq8l fq6a fq6b fq6l fq4a fq4b fq4l fq3a fq3b fq3l
        clear U9
        obtain ⟨q11, hq⟩ : ∃ q, q = v9.heap.size := ⟨_, rfl⟩
        rw [← hq] at U10 ⊢
        generalize v9.alloc (.cells #[.int .i64 rx, .int .i64 ry] 25) = v10 at U10 ⊢
        clear hq
        clear wr1 wr2
        have HMM := Go.Lib.hid (show 1 ≤ IntKind.i64.wrap (IntKind.i64.wrap (b - a) + 1) ∧ IntKind.i64.wrap (IntKind.i64.wrap (b - a) + 1) = b - a + 1 by rw [IntWalk.i64_in (b - a) (by omega), IntWalk.i64_in (b - a + 1) (by omega)]; omega)
        have HRO := Go.Lib.hid (fun W0 (hW : VCtx w [(q11, rx, ry), (q9, rx, ry), (q8, e1, f1), (q6, sx, sy), (q4, sx, sy), (q3, a, b)] W0) => roll A n cap bs 204 W0 (hW.rd h) hs (by omega))
        have fq3a := U10.out.c0 (r := q3) (x := a) (y := b) (by simp)
        have fq3b := U10.out.c1 (r := q3) (x := a) (y := b) (by simp)
        have fq3l := U10.out.lt (r := q3) (x := a) (y := b) (by simp)
        have e0 := fq3a
        have e1 := fq3b
        have S0 := Go.Lib.hid fq3l
        clear fq3a fq3b fq3l
        go_region_held3 (fun w' => w'.cell? ⟨q3, 0, none⟩ = some (.int .i64 a) ∧ w'.cell? ⟨q3, 1, none⟩ = some (.int .i64 b))
          (first | exact ⟨X2.out.c0 (r := q3) (x := a) (y := b) (by simp), X2.out.c1 (r := q3) (x := a) (y := b) (by simp)⟩ | exact ⟨X1.out.c0 (r := q3) (x := a) (y := b) (by simp), X1.out.c1 (r := q3) (x := a) (y := b) (by simp)⟩ | exact ⟨e0, e1⟩ | go_keep)
          (first | (go_at_call 23; (first | refine (HRO.out _ U10.out).mono ?_ | refine (HRO.out _ (U10.out.drewN 1)).mono ?_); rintro e y1 ⟨gd, rfl, hgd, D1, d1⟩; (first | have X1 := Go.Lib.hid (U10.out.step d1) | have X1 := Go.Lib.hid ((U10.out.drewN 1).step d1)); (first | have L1 := Go.Lib.hid (And.intro U10.out.lts U10.out.below.size) | skip)) | (go_at_call 24; refine (below gd A n cap bs _ _ D1 HMM.out.1).mono ?_; rintro e y2 ⟨r0, rfl, r1, r2, kk⟩; have X2 := Go.Lib.hid (X1.out.keep kk (Nat.le_trans L1.out.2 hgd) (fun v hv => Nat.lt_of_lt_of_le (L1.out.1 v hv) hgd))))
        rw [HMM.out.2] at r2
        have w1e : IntKind.i64.wrap (a + r0) = a + r0 := IntWalk.i64_in _ (by omega)
        rw [w1e]
        clear w1e
        have nn0 : a ≤ a + r0 := by omega
        have nn1 : a + r0 ≤ b := by omega
        generalize a + r0 = nn at nn0 nn1 ⊢
        clear e0 e1 S0 HRO HMM r1 r2 X1 D1 d1 hgd kk L1 U10
        obtain ⟨p1, p2⟩ := HQ.out.2.2.2 nn nn0 nn1
        have hr := root_in HQ.out.2.2.1 p1 p2
        obtain ⟨hr1, hr2⟩ := hr
        rw [← HBX.out.1] at hr1
        rw [← HBX.out.2] at hr2
        have fq4a := X2.out.c0 (r := q4) (x := sx) (y := sy) (by simp)
        have fq4b := X2.out.c1 (r := q4) (x := sx) (y := sy) (by simp)
        have fq4l := X2.out.lt (r := q4) (x := sx) (y := sy) (by simp)
        go_wp2_with fail
        refine (HBk.out _).mono ?_
        rintro e v12 ⟨rfl, b12⟩
        have U12 := Go.Lib.hid (X2.out.step b12)
        clear fq4a fq4b fq4l
        clear b12 X2
        have fq4a := U12.out.c0 (r := q4) (x := sx) (y := sy) (by simp)
        have fq4b := U12.out.c1 (r := q4) (x := sx) (y := sy) (by simp)
        have fq4l := U12.out.lt (r := q4) (x := sx) (y := sy) (by simp)
        have wn : IntKind.i64.wrap (nn * nn) = nn * nn := IntWalk.i64_in _ (by have := vldB_of HQ.out.2.1; omega)
        go_wp2_with fail
        have U13 := Go.Lib.hid (U12.out.var (x := bx) (y := by_) 25)
        clear fq4a fq4b fq4l
        clear U12
        obtain ⟨q14, hq⟩ : ∃ q, q = v12.heap.size := ⟨_, rfl⟩
        rw [← hq] at U13 ⊢
        generalize v12.alloc (.cells #[.int .i64 bx, .int .i64 by_] 25) = v13 at U13 ⊢
        clear hq
        refine (insideT (nn * nn) sx sy _ p1 p2).mono ?_
        rintro e v14 ⟨rfl, b14⟩
        have U14 := Go.Lib.hid (U13.out.step b14)
        clear b14 U13
        clear wn
        have fq14a := U14.out.c0 (r := q14) (x := bx) (y := by_) (by simp)
        have fq14b := U14.out.c1 (r := q14) (x := bx) (y := by_) (by simp)
        have fq14l := U14.out.lt (r := q14) (x := bx) (y := by_) (by simp)
        by_cases hng : nn < -nn
        · go_wp2_with fail
          refine (insideT (-nn) bx by_ _ (by omega) (by omega)).mono ?_
          rintro e v15 ⟨rfl, b15⟩
          have U15 := Go.Lib.hid (U14.out.step b15)
          clear fq14a fq14b fq14l
          clear b15 U14
          go_wp2_with fail
          go_ret
          exact ⟨rfl, U15.out.below⟩
        · go_wp2_with fail
          refine (insideT nn bx by_ _ (by omega) (by omega)).mono ?_
          rintro e v15 ⟨rfl, b15⟩
          have U15 := Go.Lib.hid (U14.out.step b15)
          clear fq14a fq14b fq14l
          clear b15 U14
          go_wp2_with fail
          go_ret
          exact ⟨rfl, U15.out.below⟩
      · have honeb : (rz == 0) = false := by simpa using hone
        clear hone HRT
        refine (HRi.out _).mono ?_
        rintro e v7 ⟨rfl, b7⟩
        have U7 := Go.Lib.hid (U6.out.step b7)
        clear b7 U6
        have fq8a := U7.out.c0 (r := q8) (x := e1) (y := f1) (by simp)
        have fq8b := U7.out.c1 (r := q8) (x := e1) (y := f1) (by simp)
        have fq8l := U7.out.lt (r := q8) (x := e1) (y := f1) (by simp)
        go_wp2_with fail
        have U8 := Go.Lib.hid (U7.out.var (x := rx) (y := ry) 25)
        clear fq8a fq8b fq8l
        clear U7
        obtain ⟨q9, hq⟩ : ∃ q, q = v7.heap.size := ⟨_, rfl⟩
        rw [← hq] at U8 ⊢
        generalize v7.alloc (.cells #[.int .i64 rx, .int .i64 ry] 25) = v8 at U8 ⊢
        clear hq
        refine (HRs.out _).mono ?_
        rintro e v9 ⟨rfl, b9⟩
        have U9 := Go.Lib.hid (U8.out.step b9)
        clear b9 U8
        have fq9a := U9.out.c0 (r := q9) (x := rx) (y := ry) (by simp)
        have fq9b := U9.out.c1 (r := q9) (x := rx) (y := ry) (by simp)
        have fq9l := U9.out.lt (r := q9) (x := rx) (y := ry) (by simp)
        have fq8a := U9.out.c0 (r := q8) (x := e1) (y := f1) (by simp)
        have fq8b := U9.out.c1 (r := q8) (x := e1) (y := f1) (by simp)
        have fq8l := U9.out.lt (r := q8) (x := e1) (y := f1) (by simp)
        have fq6a := U9.out.c0 (r := q6) (x := sx) (y := sy) (by simp)
        have fq6b := U9.out.c1 (r := q6) (x := sx) (y := sy) (by simp)
        have fq6l := U9.out.lt (r := q6) (x := sx) (y := sy) (by simp)
        have fq4a := U9.out.c0 (r := q4) (x := sx) (y := sy) (by simp)
        have fq4b := U9.out.c1 (r := q4) (x := sx) (y := sy) (by simp)
        have fq4l := U9.out.lt (r := q4) (x := sx) (y := sy) (by simp)
        have fq3a := U9.out.c0 (r := q3) (x := a) (y := b) (by simp)
        have fq3b := U9.out.c1 (r := q3) (x := a) (y := b) (by simp)
        have fq3l := U9.out.lt (r := q3) (x := a) (y := b) (by simp)
        go_wp2_with fail
        have U10 := Go.Lib.hid (U9.out.var (x := rx) (y := ry) 25)
        clear fq9a fq9b fq9l fq8a fq8b fq8l fq6a fq6b fq6l fq4a fq4b fq4l fq3a fq3b fq3l
        clear U9
        obtain ⟨q11, hq⟩ : ∃ q, q = v9.heap.size := ⟨_, rfl⟩
        rw [← hq] at U10 ⊢
        generalize v9.alloc (.cells #[.int .i64 rx, .int .i64 ry] 25) = v10 at U10 ⊢
        clear hq
        have HMM := Go.Lib.hid (show 1 ≤ IntKind.i64.wrap (IntKind.i64.wrap (b - a) + 1) ∧ IntKind.i64.wrap (IntKind.i64.wrap (b - a) + 1) = b - a + 1 by rw [IntWalk.i64_in (b - a) (by omega), IntWalk.i64_in (b - a + 1) (by omega)]; omega)
        have HRO := Go.Lib.hid (fun W0 (hW : VCtx w [(q11, rx, ry), (q9, rx, ry), (q8, e1, f1), (q6, sx, sy), (q4, sx, sy), (q3, a, b)] W0) => roll A n cap bs 204 W0 (hW.rd h) hs (by omega))
        have fq3a := U10.out.c0 (r := q3) (x := a) (y := b) (by simp)
        have fq3b := U10.out.c1 (r := q3) (x := a) (y := b) (by simp)
        have fq3l := U10.out.lt (r := q3) (x := a) (y := b) (by simp)
        have e0 := fq3a
        have e1 := fq3b
        have S0 := Go.Lib.hid fq3l
        clear fq3a fq3b fq3l
        go_region_held3 (fun w' => w'.cell? ⟨q3, 0, none⟩ = some (.int .i64 a) ∧ w'.cell? ⟨q3, 1, none⟩ = some (.int .i64 b))
          (first | exact ⟨X2.out.c0 (r := q3) (x := a) (y := b) (by simp), X2.out.c1 (r := q3) (x := a) (y := b) (by simp)⟩ | exact ⟨X1.out.c0 (r := q3) (x := a) (y := b) (by simp), X1.out.c1 (r := q3) (x := a) (y := b) (by simp)⟩ | exact ⟨e0, e1⟩ | go_keep)
          (first | (go_at_call 23; (first | refine (HRO.out _ U10.out).mono ?_ | refine (HRO.out _ (U10.out.drewN 1)).mono ?_); rintro e y1 ⟨gd, rfl, hgd, D1, d1⟩; (first | have X1 := Go.Lib.hid (U10.out.step d1) | have X1 := Go.Lib.hid ((U10.out.drewN 1).step d1)); (first | have L1 := Go.Lib.hid (And.intro U10.out.lts U10.out.below.size) | skip)) | (go_at_call 24; refine (below gd A n cap bs _ _ D1 HMM.out.1).mono ?_; rintro e y2 ⟨r0, rfl, r1, r2, kk⟩; have X2 := Go.Lib.hid (X1.out.keep kk (Nat.le_trans L1.out.2 hgd) (fun v hv => Nat.lt_of_lt_of_le (L1.out.1 v hv) hgd))))
        rw [HMM.out.2] at r2
        have w1e : IntKind.i64.wrap (a + r0) = a + r0 := IntWalk.i64_in _ (by omega)
        rw [w1e]
        clear w1e
        have nn0 : a ≤ a + r0 := by omega
        have nn1 : a + r0 ≤ b := by omega
        generalize a + r0 = nn at nn0 nn1 ⊢
        clear e0 e1 S0 HRO HMM r1 r2 X1 D1 d1 hgd kk L1 U10
        obtain ⟨p1, p2⟩ := HQ.out.2.2.2 nn nn0 nn1
        have hr := root_in HQ.out.2.2.1 p1 p2
        obtain ⟨hr1, hr2⟩ := hr
        rw [← HBX.out.1] at hr1
        rw [← HBX.out.2] at hr2
        have fq4a := X2.out.c0 (r := q4) (x := sx) (y := sy) (by simp)
        have fq4b := X2.out.c1 (r := q4) (x := sx) (y := sy) (by simp)
        have fq4l := X2.out.lt (r := q4) (x := sx) (y := sy) (by simp)
        go_wp2_with fail
        refine (HBk.out _).mono ?_
        rintro e v12 ⟨rfl, b12⟩
        have U12 := Go.Lib.hid (X2.out.step b12)
        clear fq4a fq4b fq4l
        clear b12 X2
        have fq4a := U12.out.c0 (r := q4) (x := sx) (y := sy) (by simp)
        have fq4b := U12.out.c1 (r := q4) (x := sx) (y := sy) (by simp)
        have fq4l := U12.out.lt (r := q4) (x := sx) (y := sy) (by simp)
        have wn : IntKind.i64.wrap (nn * nn) = nn * nn := IntWalk.i64_in _ (by have := vldB_of HQ.out.2.1; omega)
        go_wp2_with fail
        have U13 := Go.Lib.hid (U12.out.var (x := bx) (y := by_) 25)
        clear fq4a fq4b fq4l
        clear U12
        obtain ⟨q14, hq⟩ : ∃ q, q = v12.heap.size := ⟨_, rfl⟩
        rw [← hq] at U13 ⊢
        generalize v12.alloc (.cells #[.int .i64 bx, .int .i64 by_] 25) = v13 at U13 ⊢
        clear hq
        refine (insideT (nn * nn) sx sy _ p1 p2).mono ?_
        rintro e v14 ⟨rfl, b14⟩
        have U14 := Go.Lib.hid (U13.out.step b14)
        clear b14 U13
        clear wn
        have fq14a := U14.out.c0 (r := q14) (x := bx) (y := by_) (by simp)
        have fq14b := U14.out.c1 (r := q14) (x := bx) (y := by_) (by simp)
        have fq14l := U14.out.lt (r := q14) (x := bx) (y := by_) (by simp)
        by_cases hng : nn < -nn
        · go_wp2_with fail
          refine (insideT (-nn) bx by_ _ (by omega) (by omega)).mono ?_
          rintro e v15 ⟨rfl, b15⟩
          have U15 := Go.Lib.hid (U14.out.step b15)
          clear fq14a fq14b fq14l
          clear b15 U14
          go_wp2_with fail
          go_ret
          exact ⟨rfl, U15.out.below⟩
        · go_wp2_with fail
          refine (insideT nn bx by_ _ (by omega) (by omega)).mono ?_
          rintro e v15 ⟨rfl, b15⟩
          have U15 := Go.Lib.hid (U14.out.step b15)
          clear fq14a fq14b fq14l
          clear b15 U14
          go_wp2_with fail
          go_ret
          exact ⟨rfl, U15.out.below⟩
    · have hbadb : (sz == 0) = false := by simpa using hbad
      have hbadc : (sz != 0) = true := by simpa using hbad
      clear hbad HEQ
      refine (HSq.out _).mono ?_
      rintro e v1 ⟨rfl, b1⟩
      have U1 := Go.Lib.hid (U0.out.step b1)
      clear b1 U0
      have fq3a := U1.out.c0 (r := q3) (x := a) (y := b) (by simp)
      have fq3b := U1.out.c1 (r := q3) (x := a) (y := b) (by simp)
      have fq3l := U1.out.lt (r := q3) (x := a) (y := b) (by simp)
      go_wp2_with fail
      have U2 := Go.Lib.hid (U1.out.var (x := sx) (y := sy) 25)
      clear fq3a fq3b fq3l
      clear U1
      obtain ⟨q4, hq⟩ : ∃ q, q = v1.heap.size := ⟨_, rfl⟩
      rw [← hq] at U2 ⊢
      generalize v1.alloc (.cells #[.int .i64 sx, .int .i64 sy] 25) = v2 at U2 ⊢
      clear hq
      refine (HSqS.out _).mono ?_
      rintro e v3 ⟨rfl, b3⟩
      have U3 := Go.Lib.hid (U2.out.step b3)
      clear b3 U2
      have fq3a := U3.out.c0 (r := q3) (x := a) (y := b) (by simp)
      have fq3b := U3.out.c1 (r := q3) (x := a) (y := b) (by simp)
      have fq3l := U3.out.lt (r := q3) (x := a) (y := b) (by simp)
      go_wp2_with fail
      have U4 := Go.Lib.hid (U3.out.var (x := sx) (y := sy) 25)
      clear fq3a fq3b fq3l
      clear U3
      obtain ⟨q6, hq⟩ : ∃ q, q = v3.heap.size := ⟨_, rfl⟩
      rw [← hq] at U4 ⊢
      generalize v3.alloc (.cells #[.int .i64 sx, .int .i64 sy] 25) = v4 at U4 ⊢
      clear hq
      refine (drawRoot A n cap bs _ (U4.out.rd h) hs (by omega)).mono ?_
      rintro e v5 ⟨e1, f1, rfl, ⟨fe, ff⟩, b5⟩
      unfold Fine at fe ff
      have U5 := Go.Lib.hid (U4.out.step b5)
      clear b5 U4
      go_wp2_with fail
      have U6 := Go.Lib.hid (U5.out.var (x := e1) (y := f1) 25)
      clear U5
      obtain ⟨q8, hq⟩ : ∃ q, q = v5.heap.size := ⟨_, rfl⟩
      rw [← hq] at U6 ⊢
      generalize v5.alloc (.cells #[.int .i64 e1, .int .i64 f1] 25) = v6 at U6 ⊢
      clear hq
      have HRi := fun w => implRoot e1 f1 w
      have HRs := fun w => specRootInterval e1 f1 w
      obtain ⟨⟨rx, ry, rz⟩, hrt⟩ : ∃ r, r = rootIv e1 f1 := ⟨_, rfl⟩
      rw [← hrt] at HRi HRs
      have HRi := Go.Lib.hid HRi
      have HRs := Go.Lib.hid HRs
      have HRT := Go.Lib.hid hrt.symm
      clear hrt
      by_cases hone : rz = 0
      · subst hone
        obtain ⟨k1, k2, k3, k4, k5, k6⟩ := rootIv_facts HRT.out
        have m1 := mul_bd (a := rx) (n := rx) (p := 31623) (q := 31623) (by omega) (by omega)
        have m2 := mul_bd (a := ry) (n := ry) (p := 31624) (q := 31624) (by omega) (by omega)
        have wr1 : IntKind.i64.wrap (rx * rx) = rx * rx := IntWalk.i64_in _ (by omega)
        have wr2 : IntKind.i64.wrap (ry * ry) = ry * ry := IntWalk.i64_in _ (by omega)
        clear m1 m2 HRT
        refine (HRi.out _).mono ?_
        rintro e v7 ⟨rfl, b7⟩
        have U7 := Go.Lib.hid (U6.out.step b7)
        clear b7 U6
        have fq8a := U7.out.c0 (r := q8) (x := e1) (y := f1) (by simp)
        have fq8b := U7.out.c1 (r := q8) (x := e1) (y := f1) (by simp)
        have fq8l := U7.out.lt (r := q8) (x := e1) (y := f1) (by simp)
        go_wp2_with fail
        have U8 := Go.Lib.hid (U7.out.var (x := rx) (y := ry) 25)
        clear fq8a fq8b fq8l
        clear U7
        obtain ⟨q9, hq⟩ : ∃ q, q = v7.heap.size := ⟨_, rfl⟩
        rw [← hq] at U8 ⊢
        generalize v7.alloc (.cells #[.int .i64 rx, .int .i64 ry] 25) = v8 at U8 ⊢
        clear hq
        refine (HRs.out _).mono ?_
        rintro e v9 ⟨rfl, b9⟩
        have U9 := Go.Lib.hid (U8.out.step b9)
        clear b9 U8
        have fq9a := U9.out.c0 (r := q9) (x := rx) (y := ry) (by simp)
        have fq9b := U9.out.c1 (r := q9) (x := rx) (y := ry) (by simp)
        have fq9l := U9.out.lt (r := q9) (x := rx) (y := ry) (by simp)
        have fq8a := U9.out.c0 (r := q8) (x := e1) (y := f1) (by simp)
        have fq8b := U9.out.c1 (r := q8) (x := e1) (y := f1) (by simp)
        have fq8l := U9.out.lt (r := q8) (x := e1) (y := f1) (by simp)
        have fq6a := U9.out.c0 (r := q6) (x := sx) (y := sy) (by simp)
        have fq6b := U9.out.c1 (r := q6) (x := sx) (y := sy) (by simp)
        have fq6l := U9.out.lt (r := q6) (x := sx) (y := sy) (by simp)
        have fq4a := U9.out.c0 (r := q4) (x := sx) (y := sy) (by simp)
        have fq4b := U9.out.c1 (r := q4) (x := sx) (y := sy) (by simp)
        have fq4l := U9.out.lt (r := q4) (x := sx) (y := sy) (by simp)
        have fq3a := U9.out.c0 (r := q3) (x := a) (y := b) (by simp)
        have fq3b := U9.out.c1 (r := q3) (x := a) (y := b) (by simp)
        have fq3l := U9.out.lt (r := q3) (x := a) (y := b) (by simp)
        go_wp2_with fail
        go_ret
        exact ⟨rfl, (U9.out.var (x := rx) (y := ry) 25).below⟩
      · have honeb : (rz == 0) = false := by simpa using hone
        clear hone HRT
        refine (HRi.out _).mono ?_
        rintro e v7 ⟨rfl, b7⟩
        have U7 := Go.Lib.hid (U6.out.step b7)
        clear b7 U6
        have fq8a := U7.out.c0 (r := q8) (x := e1) (y := f1) (by simp)
        have fq8b := U7.out.c1 (r := q8) (x := e1) (y := f1) (by simp)
        have fq8l := U7.out.lt (r := q8) (x := e1) (y := f1) (by simp)
        go_wp2_with fail
        have U8 := Go.Lib.hid (U7.out.var (x := rx) (y := ry) 25)
        clear fq8a fq8b fq8l
        clear U7
        obtain ⟨q9, hq⟩ : ∃ q, q = v7.heap.size := ⟨_, rfl⟩
        rw [← hq] at U8 ⊢
        generalize v7.alloc (.cells #[.int .i64 rx, .int .i64 ry] 25) = v8 at U8 ⊢
        clear hq
        refine (HRs.out _).mono ?_
        rintro e v9 ⟨rfl, b9⟩
        have U9 := Go.Lib.hid (U8.out.step b9)
        clear b9 U8
        have fq9a := U9.out.c0 (r := q9) (x := rx) (y := ry) (by simp)
        have fq9b := U9.out.c1 (r := q9) (x := rx) (y := ry) (by simp)
        have fq9l := U9.out.lt (r := q9) (x := rx) (y := ry) (by simp)
        have fq8a := U9.out.c0 (r := q8) (x := e1) (y := f1) (by simp)
        have fq8b := U9.out.c1 (r := q8) (x := e1) (y := f1) (by simp)
        have fq8l := U9.out.lt (r := q8) (x := e1) (y := f1) (by simp)
        have fq6a := U9.out.c0 (r := q6) (x := sx) (y := sy) (by simp)
        have fq6b := U9.out.c1 (r := q6) (x := sx) (y := sy) (by simp)
        have fq6l := U9.out.lt (r := q6) (x := sx) (y := sy) (by simp)
        have fq4a := U9.out.c0 (r := q4) (x := sx) (y := sy) (by simp)
        have fq4b := U9.out.c1 (r := q4) (x := sx) (y := sy) (by simp)
        have fq4l := U9.out.lt (r := q4) (x := sx) (y := sy) (by simp)
        have fq3a := U9.out.c0 (r := q3) (x := a) (y := b) (by simp)
        have fq3b := U9.out.c1 (r := q3) (x := a) (y := b) (by simp)
        have fq3l := U9.out.lt (r := q3) (x := a) (y := b) (by simp)
        go_wp2_with fail
        go_ret
        exact ⟨rfl, (U9.out.var (x := rx) (y := ry) 25).below⟩

set_option maxRecDepth 100000 in
theorem lifted (os : Os) (started : os.Started) (H : Type) (enc : TypeId × Value → H) :
    ReturnsInHanded {} Try.checked os 4 .any (Rows.fnRootsSpec.pre6 enc Try.prog Try.f4 Rows.fnRootsRow.domain false) (Rows.fnRootsSpec.post enc Try.prog Try.f4 false true false false) := by
  refine returnsInHanded_of_change_sized (C := Try.checked) own started (by kernel_rfl) Try.func4
    (ChangeSpec.witness6 (enc := enc) (C := Try.checked) false ⟨#[], #[.slice none 0 0], []⟩ 8 (by kernel_rfl) (by kernel_rfl) (by kernel_rfl) (by kernel_rfl)) ?_
  intro W base args ds gs before hval0 hW hcnd hsz0 _
  have hsz : (DataW.weightsEach Try.prog (Try.f4.params.toList ++ Rows.fnRootsSpec.plain.varTypes Try.prog) (ds ++ gs)).all (· ≤ reachBytes) = true := hsz0
  clear hsz0
  have hval : ∀ (j : Nat) t v, Try.f4.params[j]? = some t → args[j]? = some v → Value.okWide Try.prog W .any base t v := hval0
  clear hval0
  have hW' := hW
  obtain ⟨p, q, hA0, hV, rfl, hfz, hnd⟩ := hW
  have hA : DataW.TrodAll enc Try.prog W 0 (fun _ => true) true Try.f4.params.toList args.toList ds p := hA0
  rw [Try.params4] at hA hval hsz
  obtain ⟨v0, vs0, d0, ds0, p0, q0, hargs, rfl, rfl, h0, r0⟩ := trodAll_cons hA
  obtain ⟨rfl, rfl, rfl⟩ := trodAll_nil r0
  obtain rfl : args = #[v0] := by cases args; simp_all
  obtain ⟨rfl, rfl⟩ := trodVars_none hV
  obtain ⟨a0, len0, cap0, rfl⟩ := okWide_slice Try.underlying22 (hval 0 22 v0 rfl rfl)
  have k0 := h0
  have lt0 : ∀ x ∈ p0, x.block < W.heap.size := by obtain ⟨m, hm⟩ := k0; exact DataW.trod_lt m _ _ _ hm
  obtain ⟨⟨z0, rd0, sz0⟩, hlc0, hp0⟩ := open_list_bytes h0
  have reach0 : len0 * 1 ≤ 140737488351232 := by
    rcases hp0 with hp0 | ⟨E0, S0, rfl, hl0⟩
    · omega
    · have := sized_slice hsz (j := 0) (t := 22) (e := 5) rfl rfl Try.underlying22
      rw [show Try.prog.bytesOf 5 = 1 by kernel_rfl] at this
      simp only [reachBytes] at this
      omega
  clear hA0
  refine (walk a0 len0 cap0 z0 W rd0 reach0 sz0).mono fun e W' ⟨he, bel⟩ => ?_
  subst he
  exact ⟨_, rfl, _, _, _, [], _, [], hW', trodAll_mk1 (shut_bool Try.underlying4 _), (trodAll_cons_mk (Below.trod laidOut (by kernel_rfl) (of_decide_eq_true (by kernel_rfl)) k0 bel lt0) trodAll_mk0), rfl, bel.frame _, fun h => by cases h⟩

theorem over : Rows.fnRootsRow.holds Try.pinned (OpenSpec.ofChange Rows.fnRootsSpec) :=
  OpenClaim.holds_of_wide 4 Try.f4 rfl rfl rfl rfl rfl rfl rfl ⟨rfl, rfl, rfl, rfl, rfl⟩ rfl rfl rfl rfl rfl (by kernel_rfl) Try.func4 (by kernel_rfl)
    (of_decide_eq_true (by kernel_rfl)) (by unfold Func.isWrapper; first | (rw [if_pos (by decide +kernel)]; kernel_rfl) | (rw [if_neg (by decide +kernel)]; exact ⟨rfl, rfl⟩))
    (fun os started H enc _ => lifted os started H enc)

theorem proved : Rows.FnRootsSaid := over
end Go.Proofs.Ytcknknicknolaaa.fnRoots
