/- FnMeets holds: for every code, the meeting, the hull and the order of the drawn intervals are as the model says; the meeting lies in both, and both lie in the hull. -/
import Derived.Test.YtcknknicknolaaaRows
import Derived.Test.YtcknknicknolaaaOpenB
import Derived.Test.YtcknknicknolaaaIv3
import Derived.Test.YtcknknicknolaaaIv4
import Derived.Test.YtcknknicknolaaaIv5
import Derived.Test.YtcknknicknolaaaDrawIv5
import Derived.Test.YtcknknicknolaaaLawCode
import Derived.WalkKit
import Derived.ProofKit
import Derived.OpenShut
import Derived.ShutString
import Derived.SizedLaws
namespace Go.Proofs.Ytcknknicknolaaa.fnMeets
open Go.ChangeShapes Go.WideShapes Go.ChangeAt Go.RowKit
open Go.ChangeMaps (open_string shut_string)
set_option linter.unusedVariables false

set_option maxRecDepth 100000 in
set_option maxHeartbeats 16000000 in
theorem walk (A : Option Addr) (n cap : Nat) (bs : List Int) (w : World) (h : Rd w 0 w.heap.size A n (byts bs)) (hn : n * 1 ≤ 140737488351232) (hs : ∀ z ∈ bs, 0 ≤ z ∧ z ≤ 255) :
    Calls Try.prog 5 #[.slice A n cap] w fun e w' => e = .returned (.bool true) ∧ Below w.heap.size w w' := by
  have HB := Go.Lib.hid (big_ A n cap w)
  have HD := Go.Lib.hid (drawMeet A n cap bs w h hs (by omega))
  by_cases hbig : (4096 : Int) < n
  · go_enter Try.func5, Try.ntmps5
    go_wp2_with fail
    refine HB.out.mono ?_
    rintro e w' ⟨rfl, rfl⟩
    go_wp2_with fail
    go_ret
    exact ⟨rfl, Below.refl _ _⟩
  · have hb2 := big_ A n cap w
    rw [decide_eq_false hbig] at hb2
    have HB2 := Go.Lib.hid hb2
    clear hb2
    go_enter Try.func5, Try.ntmps5
    go_wp2_with fail
    refine HB2.out.mono ?_
    rintro e w' ⟨rfl, rfl⟩
    go_wp2_with fail
    refine HD.out.mono ?_
    rintro e w1 ⟨a, b, c, d, rfl, -, b1⟩
    have U0 : Hid (VCtx w [(w1.heap.size + 1, c, d), (w1.heap.size, a, b)] ((w1.alloc (.cells #[.int .i64 a, .int .i64 b] 25)).alloc (.cells #[.int .i64 c, .int .i64 d] 25))) := by
      have h1 : VCtx w [] w1 := ⟨b1, fun v hv => by cases hv⟩
      have h2 := (h1.var (x := a) (y := b) 25).var (x := c) (y := d) 25
      rw [World.size_alloc] at h2
      exact h2
    clear HB HB2 HD h hn hs hbig b1
    go_wp2_with fail
    obtain ⟨q3, hq⟩ : ∃ q, q = w1.heap.size := ⟨_, rfl⟩
    rw [← hq] at U0 ⊢
    generalize (w1.alloc (.cells #[.int .i64 a, .int .i64 b] 25)).alloc (.cells #[.int .i64 c, .int .i64 d] 25) = w2 at U0 ⊢
    clear hq
    obtain ⟨q4, hq⟩ : ∃ q, q = q3 + 1 := ⟨_, rfl⟩
    rw [← hq] at U0 ⊢
    clear hq
    by_cases hval : vldB a b = true ∧ vldB c d = true
    · obtain ⟨va, vc⟩ := hval
      obtain ⟨a1, a2, a3⟩ := vldB_of va
      obtain ⟨c1, c2, c3⟩ := vldB_of vc
      have hh : hullIv a b c d = ⟨min a c, max b d, 0⟩ := by unfold hullIv; rw [if_pos ⟨va, vc⟩]
      have HH := fun w => implHull a b c d w
      have HSh := fun w => specHull a b c d w
      rw [hh] at HH HSh
      have i1 : min a c ≤ a := by omega
      have i2 : min a c ≤ c := by omega
      have i3 : b ≤ max b d := by omega
      have i4 : d ≤ max b d := by omega
      generalize min a c = hx at HH HSh i1 i2
      generalize max b d = hy at HH HSh i3 i4
      have HH := Go.Lib.hid HH
      have HSh := Go.Lib.hid HSh
      have lc : lessC a b c d = 0 := by unfold lessC; rw [if_pos ⟨va, vc⟩]
      have tc : lessC c d a b = 0 := by unfold lessC; rw [if_pos ⟨vc, va⟩]
      have lb : lessB a b c d = decide (b < c) := by unfold lessB; rw [va, vc]; rfl
      have tb : lessB c d a b = decide (d < a) := by unfold lessB; rw [va, vc]; rfl
      have HL := fun w => implLess a b c d w
      have HSl := fun w => specLess a b c d w
      have HT := fun w => implLess c d a b w
      have HM := fun w => implMeet a b c d w
      have HSm := fun w => specMeet a b c d w
      have mm : meetIv a b c d = if max a c ≤ min b d then ⟨max a c, min b d, 0⟩ else ⟨0, 0, 5⟩ := by unfold meetIv; rw [if_pos ⟨va, vc⟩]
      rw [lc, lb] at HL HSl
      rw [tc, tb] at HT
      rw [mm] at HM HSm
      clear va vc hh lc tc lb tb mm
      by_cases hbc : b < c
      · have hda : ¬ d < a := by omega
        rw [decide_eq_true hbc] at HL HSl
        rw [decide_eq_false hda] at HT
        rw [if_neg (by omega)] at HM HSm
        have HL := Go.Lib.hid HL
        have HSl := Go.Lib.hid HSl
        have HT := Go.Lib.hid HT
        have HM := Go.Lib.hid HM
        have HSm := Go.Lib.hid HSm
        clear hbc hda
        refine (HM.out _).mono ?_
        rintro e v1 ⟨rfl, b1⟩
        have U1 := Go.Lib.hid (U0.out.step b1)
        clear b1 U0
        have fq4a := U1.out.c0 (r := q4) (x := c) (y := d) (by simp)
        have fq4b := U1.out.c1 (r := q4) (x := c) (y := d) (by simp)
        have fq4l := U1.out.lt (r := q4) (x := c) (y := d) (by simp)
        have fq3a := U1.out.c0 (r := q3) (x := a) (y := b) (by simp)
        have fq3b := U1.out.c1 (r := q3) (x := a) (y := b) (by simp)
        have fq3l := U1.out.lt (r := q3) (x := a) (y := b) (by simp)
        go_wp2_with fail
        have U2 := Go.Lib.hid (U1.out.var (x := 0) (y := 0) 25)
        clear fq4a fq4b fq4l fq3a fq3b fq3l
        clear U1
        obtain ⟨q5, hq⟩ : ∃ q, q = v1.heap.size := ⟨_, rfl⟩
        rw [← hq] at U2 ⊢
        generalize v1.alloc (.cells #[.int .i64 0, .int .i64 0] 25) = v2 at U2 ⊢
        clear hq
        refine (HSm.out _).mono ?_
        rintro e v3 ⟨rfl, b3⟩
        have U3 := Go.Lib.hid (U2.out.step b3)
        clear b3 U2
        have fq4a := U3.out.c0 (r := q4) (x := c) (y := d) (by simp)
        have fq4b := U3.out.c1 (r := q4) (x := c) (y := d) (by simp)
        have fq4l := U3.out.lt (r := q4) (x := c) (y := d) (by simp)
        have fq3a := U3.out.c0 (r := q3) (x := a) (y := b) (by simp)
        have fq3b := U3.out.c1 (r := q3) (x := a) (y := b) (by simp)
        have fq3l := U3.out.lt (r := q3) (x := a) (y := b) (by simp)
        go_wp2_with fail
        have U4 := Go.Lib.hid (U3.out.var (x := 0) (y := 0) 25)
        clear fq4a fq4b fq4l fq3a fq3b fq3l
        clear U3
        obtain ⟨q7, hq⟩ : ∃ q, q = v3.heap.size := ⟨_, rfl⟩
        rw [← hq] at U4 ⊢
        generalize v3.alloc (.cells #[.int .i64 0, .int .i64 0] 25) = v4 at U4 ⊢
        clear hq
        refine (HH.out _).mono ?_
        rintro e v5 ⟨rfl, b5⟩
        have U5 := Go.Lib.hid (U4.out.step b5)
        clear b5 U4
        have fq4a := U5.out.c0 (r := q4) (x := c) (y := d) (by simp)
        have fq4b := U5.out.c1 (r := q4) (x := c) (y := d) (by simp)
        have fq4l := U5.out.lt (r := q4) (x := c) (y := d) (by simp)
        have fq3a := U5.out.c0 (r := q3) (x := a) (y := b) (by simp)
        have fq3b := U5.out.c1 (r := q3) (x := a) (y := b) (by simp)
        have fq3l := U5.out.lt (r := q3) (x := a) (y := b) (by simp)
        go_wp2_with fail
        have U6 := Go.Lib.hid (U5.out.var (x := hx) (y := hy) 25)
        clear fq4a fq4b fq4l fq3a fq3b fq3l
        clear U5
        obtain ⟨q9, hq⟩ : ∃ q, q = v5.heap.size := ⟨_, rfl⟩
        rw [← hq] at U6 ⊢
        generalize v5.alloc (.cells #[.int .i64 hx, .int .i64 hy] 25) = v6 at U6 ⊢
        clear hq
        refine (HSh.out _).mono ?_
        rintro e v7 ⟨rfl, b7⟩
        have U7 := Go.Lib.hid (U6.out.step b7)
        clear b7 U6
        have fq4a := U7.out.c0 (r := q4) (x := c) (y := d) (by simp)
        have fq4b := U7.out.c1 (r := q4) (x := c) (y := d) (by simp)
        have fq4l := U7.out.lt (r := q4) (x := c) (y := d) (by simp)
        have fq3a := U7.out.c0 (r := q3) (x := a) (y := b) (by simp)
        have fq3b := U7.out.c1 (r := q3) (x := a) (y := b) (by simp)
        have fq3l := U7.out.lt (r := q3) (x := a) (y := b) (by simp)
        go_wp2_with fail
        have U8 := Go.Lib.hid (U7.out.var (x := hx) (y := hy) 25)
        clear fq4a fq4b fq4l fq3a fq3b fq3l
        clear U7
        obtain ⟨q11, hq⟩ : ∃ q, q = v7.heap.size := ⟨_, rfl⟩
        rw [← hq] at U8 ⊢
        generalize v7.alloc (.cells #[.int .i64 hx, .int .i64 hy] 25) = v8 at U8 ⊢
        clear hq
        refine (HL.out _).mono ?_
        rintro e v9 ⟨rfl, b9⟩
        have U9 := Go.Lib.hid (U8.out.step b9)
        clear b9 U8
        have fq4a := U9.out.c0 (r := q4) (x := c) (y := d) (by simp)
        have fq4b := U9.out.c1 (r := q4) (x := c) (y := d) (by simp)
        have fq4l := U9.out.lt (r := q4) (x := c) (y := d) (by simp)
        have fq3a := U9.out.c0 (r := q3) (x := a) (y := b) (by simp)
        have fq3b := U9.out.c1 (r := q3) (x := a) (y := b) (by simp)
        have fq3l := U9.out.lt (r := q3) (x := a) (y := b) (by simp)
        go_wp2_with fail
        refine (HSl.out _).mono ?_
        rintro e v10 ⟨rfl, b10⟩
        have U10 := Go.Lib.hid (U9.out.step b10)
        clear fq4a fq4b fq4l fq3a fq3b fq3l
        clear b10 U9
        have fq11a := U10.out.c0 (r := q11) (x := hx) (y := hy) (by simp)
        have fq11b := U10.out.c1 (r := q11) (x := hx) (y := hy) (by simp)
        have fq11l := U10.out.lt (r := q11) (x := hx) (y := hy) (by simp)
        have fq9a := U10.out.c0 (r := q9) (x := hx) (y := hy) (by simp)
        have fq9b := U10.out.c1 (r := q9) (x := hx) (y := hy) (by simp)
        have fq9l := U10.out.lt (r := q9) (x := hx) (y := hy) (by simp)
        have fq7a := U10.out.c0 (r := q7) (x := 0) (y := 0) (by simp)
        have fq7b := U10.out.c1 (r := q7) (x := 0) (y := 0) (by simp)
        have fq7l := U10.out.lt (r := q7) (x := 0) (y := 0) (by simp)
        have fq5a := U10.out.c0 (r := q5) (x := 0) (y := 0) (by simp)
        have fq5b := U10.out.c1 (r := q5) (x := 0) (y := 0) (by simp)
        have fq5l := U10.out.lt (r := q5) (x := 0) (y := 0) (by simp)
        have fq4a := U10.out.c0 (r := q4) (x := c) (y := d) (by simp)
        have fq4b := U10.out.c1 (r := q4) (x := c) (y := d) (by simp)
        have fq4l := U10.out.lt (r := q4) (x := c) (y := d) (by simp)
        have fq3a := U10.out.c0 (r := q3) (x := a) (y := b) (by simp)
        have fq3b := U10.out.c1 (r := q3) (x := a) (y := b) (by simp)
        have fq3l := U10.out.lt (r := q3) (x := a) (y := b) (by simp)
        go_wp2_with fail
        refine (HT.out _).mono ?_
        rintro e v11 ⟨rfl, b11⟩
        have U11 := Go.Lib.hid (U10.out.step b11)
        clear fq11a fq11b fq11l fq9a fq9b fq9l fq7a fq7b fq7l fq5a fq5b fq5l fq4a fq4b fq4l fq3a fq3b fq3l
        clear b11 U10
        have fq9a := U11.out.c0 (r := q9) (x := hx) (y := hy) (by simp)
        have fq9b := U11.out.c1 (r := q9) (x := hx) (y := hy) (by simp)
        have fq9l := U11.out.lt (r := q9) (x := hx) (y := hy) (by simp)
        have fq4a := U11.out.c0 (r := q4) (x := c) (y := d) (by simp)
        have fq4b := U11.out.c1 (r := q4) (x := c) (y := d) (by simp)
        have fq4l := U11.out.lt (r := q4) (x := c) (y := d) (by simp)
        have fq3a := U11.out.c0 (r := q3) (x := a) (y := b) (by simp)
        have fq3b := U11.out.c1 (r := q3) (x := a) (y := b) (by simp)
        have fq3l := U11.out.lt (r := q3) (x := a) (y := b) (by simp)
        go_wp2_with fail
        refine (insideT a hx hy _ (by omega) (by omega)).mono ?_
        rintro e v12 ⟨rfl, b12⟩
        have U12 := Go.Lib.hid (U11.out.step b12)
        clear fq9a fq9b fq9l fq4a fq4b fq4l fq3a fq3b fq3l
        clear b12 U11
        have fq9a := U12.out.c0 (r := q9) (x := hx) (y := hy) (by simp)
        have fq9b := U12.out.c1 (r := q9) (x := hx) (y := hy) (by simp)
        have fq9l := U12.out.lt (r := q9) (x := hx) (y := hy) (by simp)
        have fq4a := U12.out.c0 (r := q4) (x := c) (y := d) (by simp)
        have fq4b := U12.out.c1 (r := q4) (x := c) (y := d) (by simp)
        have fq4l := U12.out.lt (r := q4) (x := c) (y := d) (by simp)
        have fq3a := U12.out.c0 (r := q3) (x := a) (y := b) (by simp)
        have fq3b := U12.out.c1 (r := q3) (x := a) (y := b) (by simp)
        have fq3l := U12.out.lt (r := q3) (x := a) (y := b) (by simp)
        go_wp2_with fail
        refine (insideT d hx hy _ (by omega) (by omega)).mono ?_
        rintro e v13 ⟨rfl, b13⟩
        have U13 := Go.Lib.hid (U12.out.step b13)
        clear fq9a fq9b fq9l fq4a fq4b fq4l fq3a fq3b fq3l
        clear b13 U12
        have fq9a := U13.out.c0 (r := q9) (x := hx) (y := hy) (by simp)
        have fq9b := U13.out.c1 (r := q9) (x := hx) (y := hy) (by simp)
        have fq9l := U13.out.lt (r := q9) (x := hx) (y := hy) (by simp)
        have fq4a := U13.out.c0 (r := q4) (x := c) (y := d) (by simp)
        have fq4b := U13.out.c1 (r := q4) (x := c) (y := d) (by simp)
        have fq4l := U13.out.lt (r := q4) (x := c) (y := d) (by simp)
        have fq3a := U13.out.c0 (r := q3) (x := a) (y := b) (by simp)
        have fq3b := U13.out.c1 (r := q3) (x := a) (y := b) (by simp)
        have fq3l := U13.out.lt (r := q3) (x := a) (y := b) (by simp)
        go_wp2_with fail
        refine (insideT b hx hy _ (by omega) (by omega)).mono ?_
        rintro e v14 ⟨rfl, b14⟩
        have U14 := Go.Lib.hid (U13.out.step b14)
        clear fq9a fq9b fq9l fq4a fq4b fq4l fq3a fq3b fq3l
        clear b14 U13
        have fq9a := U14.out.c0 (r := q9) (x := hx) (y := hy) (by simp)
        have fq9b := U14.out.c1 (r := q9) (x := hx) (y := hy) (by simp)
        have fq9l := U14.out.lt (r := q9) (x := hx) (y := hy) (by simp)
        have fq4a := U14.out.c0 (r := q4) (x := c) (y := d) (by simp)
        have fq4b := U14.out.c1 (r := q4) (x := c) (y := d) (by simp)
        have fq4l := U14.out.lt (r := q4) (x := c) (y := d) (by simp)
        have fq3a := U14.out.c0 (r := q3) (x := a) (y := b) (by simp)
        have fq3b := U14.out.c1 (r := q3) (x := a) (y := b) (by simp)
        have fq3l := U14.out.lt (r := q3) (x := a) (y := b) (by simp)
        go_wp2_with fail
        refine (insideT c hx hy _ (by omega) (by omega)).mono ?_
        rintro e v15 ⟨rfl, b15⟩
        have U15 := Go.Lib.hid (U14.out.step b15)
        clear fq9a fq9b fq9l fq4a fq4b fq4l fq3a fq3b fq3l
        clear b15 U14
        have fq5a := U15.out.c0 (r := q5) (x := 0) (y := 0) (by simp)
        have fq5b := U15.out.c1 (r := q5) (x := 0) (y := 0) (by simp)
        have fq5l := U15.out.lt (r := q5) (x := 0) (y := 0) (by simp)
        have fq4a := U15.out.c0 (r := q4) (x := c) (y := d) (by simp)
        have fq4b := U15.out.c1 (r := q4) (x := c) (y := d) (by simp)
        have fq4l := U15.out.lt (r := q4) (x := c) (y := d) (by simp)
        have fq3a := U15.out.c0 (r := q3) (x := a) (y := b) (by simp)
        have fq3b := U15.out.c1 (r := q3) (x := a) (y := b) (by simp)
        have fq3l := U15.out.lt (r := q3) (x := a) (y := b) (by simp)
        go_wp2_with fail
        go_ret
        exact ⟨rfl, U15.out.below⟩
      · by_cases hda : d < a
        · rw [decide_eq_false hbc] at HL HSl
          rw [decide_eq_true hda] at HT
          rw [if_neg (by omega)] at HM HSm
          have HL := Go.Lib.hid HL
          have HSl := Go.Lib.hid HSl
          have HT := Go.Lib.hid HT
          have HM := Go.Lib.hid HM
          have HSm := Go.Lib.hid HSm
          clear hbc hda
          refine (HM.out _).mono ?_
          rintro e v1 ⟨rfl, b1⟩
          have U1 := Go.Lib.hid (U0.out.step b1)
          clear b1 U0
          have fq4a := U1.out.c0 (r := q4) (x := c) (y := d) (by simp)
          have fq4b := U1.out.c1 (r := q4) (x := c) (y := d) (by simp)
          have fq4l := U1.out.lt (r := q4) (x := c) (y := d) (by simp)
          have fq3a := U1.out.c0 (r := q3) (x := a) (y := b) (by simp)
          have fq3b := U1.out.c1 (r := q3) (x := a) (y := b) (by simp)
          have fq3l := U1.out.lt (r := q3) (x := a) (y := b) (by simp)
          go_wp2_with fail
          have U2 := Go.Lib.hid (U1.out.var (x := 0) (y := 0) 25)
          clear fq4a fq4b fq4l fq3a fq3b fq3l
          clear U1
          obtain ⟨q5, hq⟩ : ∃ q, q = v1.heap.size := ⟨_, rfl⟩
          rw [← hq] at U2 ⊢
          generalize v1.alloc (.cells #[.int .i64 0, .int .i64 0] 25) = v2 at U2 ⊢
          clear hq
          refine (HSm.out _).mono ?_
          rintro e v3 ⟨rfl, b3⟩
          have U3 := Go.Lib.hid (U2.out.step b3)
          clear b3 U2
          have fq4a := U3.out.c0 (r := q4) (x := c) (y := d) (by simp)
          have fq4b := U3.out.c1 (r := q4) (x := c) (y := d) (by simp)
          have fq4l := U3.out.lt (r := q4) (x := c) (y := d) (by simp)
          have fq3a := U3.out.c0 (r := q3) (x := a) (y := b) (by simp)
          have fq3b := U3.out.c1 (r := q3) (x := a) (y := b) (by simp)
          have fq3l := U3.out.lt (r := q3) (x := a) (y := b) (by simp)
          go_wp2_with fail
          have U4 := Go.Lib.hid (U3.out.var (x := 0) (y := 0) 25)
          clear fq4a fq4b fq4l fq3a fq3b fq3l
          clear U3
          obtain ⟨q7, hq⟩ : ∃ q, q = v3.heap.size := ⟨_, rfl⟩
          rw [← hq] at U4 ⊢
          generalize v3.alloc (.cells #[.int .i64 0, .int .i64 0] 25) = v4 at U4 ⊢
          clear hq
          refine (HH.out _).mono ?_
          rintro e v5 ⟨rfl, b5⟩
          have U5 := Go.Lib.hid (U4.out.step b5)
          clear b5 U4
          have fq4a := U5.out.c0 (r := q4) (x := c) (y := d) (by simp)
          have fq4b := U5.out.c1 (r := q4) (x := c) (y := d) (by simp)
          have fq4l := U5.out.lt (r := q4) (x := c) (y := d) (by simp)
          have fq3a := U5.out.c0 (r := q3) (x := a) (y := b) (by simp)
          have fq3b := U5.out.c1 (r := q3) (x := a) (y := b) (by simp)
          have fq3l := U5.out.lt (r := q3) (x := a) (y := b) (by simp)
          go_wp2_with fail
          have U6 := Go.Lib.hid (U5.out.var (x := hx) (y := hy) 25)
          clear fq4a fq4b fq4l fq3a fq3b fq3l
          clear U5
          obtain ⟨q9, hq⟩ : ∃ q, q = v5.heap.size := ⟨_, rfl⟩
          rw [← hq] at U6 ⊢
          generalize v5.alloc (.cells #[.int .i64 hx, .int .i64 hy] 25) = v6 at U6 ⊢
          clear hq
          refine (HSh.out _).mono ?_
          rintro e v7 ⟨rfl, b7⟩
          have U7 := Go.Lib.hid (U6.out.step b7)
          clear b7 U6
          have fq4a := U7.out.c0 (r := q4) (x := c) (y := d) (by simp)
          have fq4b := U7.out.c1 (r := q4) (x := c) (y := d) (by simp)
          have fq4l := U7.out.lt (r := q4) (x := c) (y := d) (by simp)
          have fq3a := U7.out.c0 (r := q3) (x := a) (y := b) (by simp)
          have fq3b := U7.out.c1 (r := q3) (x := a) (y := b) (by simp)
          have fq3l := U7.out.lt (r := q3) (x := a) (y := b) (by simp)
          go_wp2_with fail
          have U8 := Go.Lib.hid (U7.out.var (x := hx) (y := hy) 25)
          clear fq4a fq4b fq4l fq3a fq3b fq3l
          clear U7
          obtain ⟨q11, hq⟩ : ∃ q, q = v7.heap.size := ⟨_, rfl⟩
          rw [← hq] at U8 ⊢
          generalize v7.alloc (.cells #[.int .i64 hx, .int .i64 hy] 25) = v8 at U8 ⊢
          clear hq
          refine (HL.out _).mono ?_
          rintro e v9 ⟨rfl, b9⟩
          have U9 := Go.Lib.hid (U8.out.step b9)
          clear b9 U8
          have fq4a := U9.out.c0 (r := q4) (x := c) (y := d) (by simp)
          have fq4b := U9.out.c1 (r := q4) (x := c) (y := d) (by simp)
          have fq4l := U9.out.lt (r := q4) (x := c) (y := d) (by simp)
          have fq3a := U9.out.c0 (r := q3) (x := a) (y := b) (by simp)
          have fq3b := U9.out.c1 (r := q3) (x := a) (y := b) (by simp)
          have fq3l := U9.out.lt (r := q3) (x := a) (y := b) (by simp)
          go_wp2_with fail
          refine (HSl.out _).mono ?_
          rintro e v10 ⟨rfl, b10⟩
          have U10 := Go.Lib.hid (U9.out.step b10)
          clear fq4a fq4b fq4l fq3a fq3b fq3l
          clear b10 U9
          have fq11a := U10.out.c0 (r := q11) (x := hx) (y := hy) (by simp)
          have fq11b := U10.out.c1 (r := q11) (x := hx) (y := hy) (by simp)
          have fq11l := U10.out.lt (r := q11) (x := hx) (y := hy) (by simp)
          have fq9a := U10.out.c0 (r := q9) (x := hx) (y := hy) (by simp)
          have fq9b := U10.out.c1 (r := q9) (x := hx) (y := hy) (by simp)
          have fq9l := U10.out.lt (r := q9) (x := hx) (y := hy) (by simp)
          have fq7a := U10.out.c0 (r := q7) (x := 0) (y := 0) (by simp)
          have fq7b := U10.out.c1 (r := q7) (x := 0) (y := 0) (by simp)
          have fq7l := U10.out.lt (r := q7) (x := 0) (y := 0) (by simp)
          have fq5a := U10.out.c0 (r := q5) (x := 0) (y := 0) (by simp)
          have fq5b := U10.out.c1 (r := q5) (x := 0) (y := 0) (by simp)
          have fq5l := U10.out.lt (r := q5) (x := 0) (y := 0) (by simp)
          have fq4a := U10.out.c0 (r := q4) (x := c) (y := d) (by simp)
          have fq4b := U10.out.c1 (r := q4) (x := c) (y := d) (by simp)
          have fq4l := U10.out.lt (r := q4) (x := c) (y := d) (by simp)
          have fq3a := U10.out.c0 (r := q3) (x := a) (y := b) (by simp)
          have fq3b := U10.out.c1 (r := q3) (x := a) (y := b) (by simp)
          have fq3l := U10.out.lt (r := q3) (x := a) (y := b) (by simp)
          go_wp2_with fail
          refine (HT.out _).mono ?_
          rintro e v11 ⟨rfl, b11⟩
          have U11 := Go.Lib.hid (U10.out.step b11)
          clear fq11a fq11b fq11l fq9a fq9b fq9l fq7a fq7b fq7l fq5a fq5b fq5l fq4a fq4b fq4l fq3a fq3b fq3l
          clear b11 U10
          have fq9a := U11.out.c0 (r := q9) (x := hx) (y := hy) (by simp)
          have fq9b := U11.out.c1 (r := q9) (x := hx) (y := hy) (by simp)
          have fq9l := U11.out.lt (r := q9) (x := hx) (y := hy) (by simp)
          have fq4a := U11.out.c0 (r := q4) (x := c) (y := d) (by simp)
          have fq4b := U11.out.c1 (r := q4) (x := c) (y := d) (by simp)
          have fq4l := U11.out.lt (r := q4) (x := c) (y := d) (by simp)
          have fq3a := U11.out.c0 (r := q3) (x := a) (y := b) (by simp)
          have fq3b := U11.out.c1 (r := q3) (x := a) (y := b) (by simp)
          have fq3l := U11.out.lt (r := q3) (x := a) (y := b) (by simp)
          go_wp2_with fail
          refine (insideT a hx hy _ (by omega) (by omega)).mono ?_
          rintro e v12 ⟨rfl, b12⟩
          have U12 := Go.Lib.hid (U11.out.step b12)
          clear fq9a fq9b fq9l fq4a fq4b fq4l fq3a fq3b fq3l
          clear b12 U11
          have fq9a := U12.out.c0 (r := q9) (x := hx) (y := hy) (by simp)
          have fq9b := U12.out.c1 (r := q9) (x := hx) (y := hy) (by simp)
          have fq9l := U12.out.lt (r := q9) (x := hx) (y := hy) (by simp)
          have fq4a := U12.out.c0 (r := q4) (x := c) (y := d) (by simp)
          have fq4b := U12.out.c1 (r := q4) (x := c) (y := d) (by simp)
          have fq4l := U12.out.lt (r := q4) (x := c) (y := d) (by simp)
          have fq3a := U12.out.c0 (r := q3) (x := a) (y := b) (by simp)
          have fq3b := U12.out.c1 (r := q3) (x := a) (y := b) (by simp)
          have fq3l := U12.out.lt (r := q3) (x := a) (y := b) (by simp)
          go_wp2_with fail
          refine (insideT d hx hy _ (by omega) (by omega)).mono ?_
          rintro e v13 ⟨rfl, b13⟩
          have U13 := Go.Lib.hid (U12.out.step b13)
          clear fq9a fq9b fq9l fq4a fq4b fq4l fq3a fq3b fq3l
          clear b13 U12
          have fq9a := U13.out.c0 (r := q9) (x := hx) (y := hy) (by simp)
          have fq9b := U13.out.c1 (r := q9) (x := hx) (y := hy) (by simp)
          have fq9l := U13.out.lt (r := q9) (x := hx) (y := hy) (by simp)
          have fq4a := U13.out.c0 (r := q4) (x := c) (y := d) (by simp)
          have fq4b := U13.out.c1 (r := q4) (x := c) (y := d) (by simp)
          have fq4l := U13.out.lt (r := q4) (x := c) (y := d) (by simp)
          have fq3a := U13.out.c0 (r := q3) (x := a) (y := b) (by simp)
          have fq3b := U13.out.c1 (r := q3) (x := a) (y := b) (by simp)
          have fq3l := U13.out.lt (r := q3) (x := a) (y := b) (by simp)
          go_wp2_with fail
          refine (insideT b hx hy _ (by omega) (by omega)).mono ?_
          rintro e v14 ⟨rfl, b14⟩
          have U14 := Go.Lib.hid (U13.out.step b14)
          clear fq9a fq9b fq9l fq4a fq4b fq4l fq3a fq3b fq3l
          clear b14 U13
          have fq9a := U14.out.c0 (r := q9) (x := hx) (y := hy) (by simp)
          have fq9b := U14.out.c1 (r := q9) (x := hx) (y := hy) (by simp)
          have fq9l := U14.out.lt (r := q9) (x := hx) (y := hy) (by simp)
          have fq4a := U14.out.c0 (r := q4) (x := c) (y := d) (by simp)
          have fq4b := U14.out.c1 (r := q4) (x := c) (y := d) (by simp)
          have fq4l := U14.out.lt (r := q4) (x := c) (y := d) (by simp)
          have fq3a := U14.out.c0 (r := q3) (x := a) (y := b) (by simp)
          have fq3b := U14.out.c1 (r := q3) (x := a) (y := b) (by simp)
          have fq3l := U14.out.lt (r := q3) (x := a) (y := b) (by simp)
          go_wp2_with fail
          refine (insideT c hx hy _ (by omega) (by omega)).mono ?_
          rintro e v15 ⟨rfl, b15⟩
          have U15 := Go.Lib.hid (U14.out.step b15)
          clear fq9a fq9b fq9l fq4a fq4b fq4l fq3a fq3b fq3l
          clear b15 U14
          have fq5a := U15.out.c0 (r := q5) (x := 0) (y := 0) (by simp)
          have fq5b := U15.out.c1 (r := q5) (x := 0) (y := 0) (by simp)
          have fq5l := U15.out.lt (r := q5) (x := 0) (y := 0) (by simp)
          have fq4a := U15.out.c0 (r := q4) (x := c) (y := d) (by simp)
          have fq4b := U15.out.c1 (r := q4) (x := c) (y := d) (by simp)
          have fq4l := U15.out.lt (r := q4) (x := c) (y := d) (by simp)
          have fq3a := U15.out.c0 (r := q3) (x := a) (y := b) (by simp)
          have fq3b := U15.out.c1 (r := q3) (x := a) (y := b) (by simp)
          have fq3l := U15.out.lt (r := q3) (x := a) (y := b) (by simp)
          go_wp2_with fail
          go_ret
          exact ⟨rfl, U15.out.below⟩
        · rw [decide_eq_false hbc] at HL HSl
          rw [decide_eq_false hda] at HT
          rw [if_pos (by omega)] at HM HSm
          have j1 : a ≤ max a c := by omega
          have j2 : c ≤ max a c := by omega
          have j3 : max a c ≤ min b d := by omega
          have j4 : min b d ≤ b := by omega
          have j5 : min b d ≤ d := by omega
          generalize max a c = mx at HM HSm j1 j2 j3
          generalize min b d = my at HM HSm j3 j4 j5
          have HL := Go.Lib.hid HL
          have HSl := Go.Lib.hid HSl
          have HT := Go.Lib.hid HT
          have HM := Go.Lib.hid HM
          have HSm := Go.Lib.hid HSm
          clear hbc hda
          refine (HM.out _).mono ?_
          rintro e v1 ⟨rfl, b1⟩
          have U1 := Go.Lib.hid (U0.out.step b1)
          clear b1 U0
          have fq4a := U1.out.c0 (r := q4) (x := c) (y := d) (by simp)
          have fq4b := U1.out.c1 (r := q4) (x := c) (y := d) (by simp)
          have fq4l := U1.out.lt (r := q4) (x := c) (y := d) (by simp)
          have fq3a := U1.out.c0 (r := q3) (x := a) (y := b) (by simp)
          have fq3b := U1.out.c1 (r := q3) (x := a) (y := b) (by simp)
          have fq3l := U1.out.lt (r := q3) (x := a) (y := b) (by simp)
          go_wp2_with fail
          have U2 := Go.Lib.hid (U1.out.var (x := mx) (y := my) 25)
          clear fq4a fq4b fq4l fq3a fq3b fq3l
          clear U1
          obtain ⟨q5, hq⟩ : ∃ q, q = v1.heap.size := ⟨_, rfl⟩
          rw [← hq] at U2 ⊢
          generalize v1.alloc (.cells #[.int .i64 mx, .int .i64 my] 25) = v2 at U2 ⊢
          clear hq
          refine (HSm.out _).mono ?_
          rintro e v3 ⟨rfl, b3⟩
          have U3 := Go.Lib.hid (U2.out.step b3)
          clear b3 U2
          have fq4a := U3.out.c0 (r := q4) (x := c) (y := d) (by simp)
          have fq4b := U3.out.c1 (r := q4) (x := c) (y := d) (by simp)
          have fq4l := U3.out.lt (r := q4) (x := c) (y := d) (by simp)
          have fq3a := U3.out.c0 (r := q3) (x := a) (y := b) (by simp)
          have fq3b := U3.out.c1 (r := q3) (x := a) (y := b) (by simp)
          have fq3l := U3.out.lt (r := q3) (x := a) (y := b) (by simp)
          go_wp2_with fail
          have U4 := Go.Lib.hid (U3.out.var (x := mx) (y := my) 25)
          clear fq4a fq4b fq4l fq3a fq3b fq3l
          clear U3
          obtain ⟨q7, hq⟩ : ∃ q, q = v3.heap.size := ⟨_, rfl⟩
          rw [← hq] at U4 ⊢
          generalize v3.alloc (.cells #[.int .i64 mx, .int .i64 my] 25) = v4 at U4 ⊢
          clear hq
          refine (HH.out _).mono ?_
          rintro e v5 ⟨rfl, b5⟩
          have U5 := Go.Lib.hid (U4.out.step b5)
          clear b5 U4
          have fq4a := U5.out.c0 (r := q4) (x := c) (y := d) (by simp)
          have fq4b := U5.out.c1 (r := q4) (x := c) (y := d) (by simp)
          have fq4l := U5.out.lt (r := q4) (x := c) (y := d) (by simp)
          have fq3a := U5.out.c0 (r := q3) (x := a) (y := b) (by simp)
          have fq3b := U5.out.c1 (r := q3) (x := a) (y := b) (by simp)
          have fq3l := U5.out.lt (r := q3) (x := a) (y := b) (by simp)
          go_wp2_with fail
          have U6 := Go.Lib.hid (U5.out.var (x := hx) (y := hy) 25)
          clear fq4a fq4b fq4l fq3a fq3b fq3l
          clear U5
          obtain ⟨q9, hq⟩ : ∃ q, q = v5.heap.size := ⟨_, rfl⟩
          rw [← hq] at U6 ⊢
          generalize v5.alloc (.cells #[.int .i64 hx, .int .i64 hy] 25) = v6 at U6 ⊢
          clear hq
          refine (HSh.out _).mono ?_
          rintro e v7 ⟨rfl, b7⟩
          have U7 := Go.Lib.hid (U6.out.step b7)
          clear b7 U6
          have fq4a := U7.out.c0 (r := q4) (x := c) (y := d) (by simp)
          have fq4b := U7.out.c1 (r := q4) (x := c) (y := d) (by simp)
          have fq4l := U7.out.lt (r := q4) (x := c) (y := d) (by simp)
          have fq3a := U7.out.c0 (r := q3) (x := a) (y := b) (by simp)
          have fq3b := U7.out.c1 (r := q3) (x := a) (y := b) (by simp)
          have fq3l := U7.out.lt (r := q3) (x := a) (y := b) (by simp)
          go_wp2_with fail
          have U8 := Go.Lib.hid (U7.out.var (x := hx) (y := hy) 25)
          clear fq4a fq4b fq4l fq3a fq3b fq3l
          clear U7
          obtain ⟨q11, hq⟩ : ∃ q, q = v7.heap.size := ⟨_, rfl⟩
          rw [← hq] at U8 ⊢
          generalize v7.alloc (.cells #[.int .i64 hx, .int .i64 hy] 25) = v8 at U8 ⊢
          clear hq
          refine (HL.out _).mono ?_
          rintro e v9 ⟨rfl, b9⟩
          have U9 := Go.Lib.hid (U8.out.step b9)
          clear b9 U8
          have fq4a := U9.out.c0 (r := q4) (x := c) (y := d) (by simp)
          have fq4b := U9.out.c1 (r := q4) (x := c) (y := d) (by simp)
          have fq4l := U9.out.lt (r := q4) (x := c) (y := d) (by simp)
          have fq3a := U9.out.c0 (r := q3) (x := a) (y := b) (by simp)
          have fq3b := U9.out.c1 (r := q3) (x := a) (y := b) (by simp)
          have fq3l := U9.out.lt (r := q3) (x := a) (y := b) (by simp)
          go_wp2_with fail
          refine (HSl.out _).mono ?_
          rintro e v10 ⟨rfl, b10⟩
          have U10 := Go.Lib.hid (U9.out.step b10)
          clear fq4a fq4b fq4l fq3a fq3b fq3l
          clear b10 U9
          have fq11a := U10.out.c0 (r := q11) (x := hx) (y := hy) (by simp)
          have fq11b := U10.out.c1 (r := q11) (x := hx) (y := hy) (by simp)
          have fq11l := U10.out.lt (r := q11) (x := hx) (y := hy) (by simp)
          have fq9a := U10.out.c0 (r := q9) (x := hx) (y := hy) (by simp)
          have fq9b := U10.out.c1 (r := q9) (x := hx) (y := hy) (by simp)
          have fq9l := U10.out.lt (r := q9) (x := hx) (y := hy) (by simp)
          have fq7a := U10.out.c0 (r := q7) (x := mx) (y := my) (by simp)
          have fq7b := U10.out.c1 (r := q7) (x := mx) (y := my) (by simp)
          have fq7l := U10.out.lt (r := q7) (x := mx) (y := my) (by simp)
          have fq5a := U10.out.c0 (r := q5) (x := mx) (y := my) (by simp)
          have fq5b := U10.out.c1 (r := q5) (x := mx) (y := my) (by simp)
          have fq5l := U10.out.lt (r := q5) (x := mx) (y := my) (by simp)
          have fq4a := U10.out.c0 (r := q4) (x := c) (y := d) (by simp)
          have fq4b := U10.out.c1 (r := q4) (x := c) (y := d) (by simp)
          have fq4l := U10.out.lt (r := q4) (x := c) (y := d) (by simp)
          have fq3a := U10.out.c0 (r := q3) (x := a) (y := b) (by simp)
          have fq3b := U10.out.c1 (r := q3) (x := a) (y := b) (by simp)
          have fq3l := U10.out.lt (r := q3) (x := a) (y := b) (by simp)
          go_wp2_with fail
          refine (HT.out _).mono ?_
          rintro e v11 ⟨rfl, b11⟩
          have U11 := Go.Lib.hid (U10.out.step b11)
          clear fq11a fq11b fq11l fq9a fq9b fq9l fq7a fq7b fq7l fq5a fq5b fq5l fq4a fq4b fq4l fq3a fq3b fq3l
          clear b11 U10
          have fq9a := U11.out.c0 (r := q9) (x := hx) (y := hy) (by simp)
          have fq9b := U11.out.c1 (r := q9) (x := hx) (y := hy) (by simp)
          have fq9l := U11.out.lt (r := q9) (x := hx) (y := hy) (by simp)
          have fq4a := U11.out.c0 (r := q4) (x := c) (y := d) (by simp)
          have fq4b := U11.out.c1 (r := q4) (x := c) (y := d) (by simp)
          have fq4l := U11.out.lt (r := q4) (x := c) (y := d) (by simp)
          have fq3a := U11.out.c0 (r := q3) (x := a) (y := b) (by simp)
          have fq3b := U11.out.c1 (r := q3) (x := a) (y := b) (by simp)
          have fq3l := U11.out.lt (r := q3) (x := a) (y := b) (by simp)
          go_wp2_with fail
          refine (insideT a hx hy _ (by omega) (by omega)).mono ?_
          rintro e v12 ⟨rfl, b12⟩
          have U12 := Go.Lib.hid (U11.out.step b12)
          clear fq9a fq9b fq9l fq4a fq4b fq4l fq3a fq3b fq3l
          clear b12 U11
          have fq9a := U12.out.c0 (r := q9) (x := hx) (y := hy) (by simp)
          have fq9b := U12.out.c1 (r := q9) (x := hx) (y := hy) (by simp)
          have fq9l := U12.out.lt (r := q9) (x := hx) (y := hy) (by simp)
          have fq4a := U12.out.c0 (r := q4) (x := c) (y := d) (by simp)
          have fq4b := U12.out.c1 (r := q4) (x := c) (y := d) (by simp)
          have fq4l := U12.out.lt (r := q4) (x := c) (y := d) (by simp)
          have fq3a := U12.out.c0 (r := q3) (x := a) (y := b) (by simp)
          have fq3b := U12.out.c1 (r := q3) (x := a) (y := b) (by simp)
          have fq3l := U12.out.lt (r := q3) (x := a) (y := b) (by simp)
          go_wp2_with fail
          refine (insideT d hx hy _ (by omega) (by omega)).mono ?_
          rintro e v13 ⟨rfl, b13⟩
          have U13 := Go.Lib.hid (U12.out.step b13)
          clear fq9a fq9b fq9l fq4a fq4b fq4l fq3a fq3b fq3l
          clear b13 U12
          have fq9a := U13.out.c0 (r := q9) (x := hx) (y := hy) (by simp)
          have fq9b := U13.out.c1 (r := q9) (x := hx) (y := hy) (by simp)
          have fq9l := U13.out.lt (r := q9) (x := hx) (y := hy) (by simp)
          have fq4a := U13.out.c0 (r := q4) (x := c) (y := d) (by simp)
          have fq4b := U13.out.c1 (r := q4) (x := c) (y := d) (by simp)
          have fq4l := U13.out.lt (r := q4) (x := c) (y := d) (by simp)
          have fq3a := U13.out.c0 (r := q3) (x := a) (y := b) (by simp)
          have fq3b := U13.out.c1 (r := q3) (x := a) (y := b) (by simp)
          have fq3l := U13.out.lt (r := q3) (x := a) (y := b) (by simp)
          go_wp2_with fail
          refine (insideT b hx hy _ (by omega) (by omega)).mono ?_
          rintro e v14 ⟨rfl, b14⟩
          have U14 := Go.Lib.hid (U13.out.step b14)
          clear fq9a fq9b fq9l fq4a fq4b fq4l fq3a fq3b fq3l
          clear b14 U13
          have fq9a := U14.out.c0 (r := q9) (x := hx) (y := hy) (by simp)
          have fq9b := U14.out.c1 (r := q9) (x := hx) (y := hy) (by simp)
          have fq9l := U14.out.lt (r := q9) (x := hx) (y := hy) (by simp)
          have fq4a := U14.out.c0 (r := q4) (x := c) (y := d) (by simp)
          have fq4b := U14.out.c1 (r := q4) (x := c) (y := d) (by simp)
          have fq4l := U14.out.lt (r := q4) (x := c) (y := d) (by simp)
          have fq3a := U14.out.c0 (r := q3) (x := a) (y := b) (by simp)
          have fq3b := U14.out.c1 (r := q3) (x := a) (y := b) (by simp)
          have fq3l := U14.out.lt (r := q3) (x := a) (y := b) (by simp)
          go_wp2_with fail
          refine (insideT c hx hy _ (by omega) (by omega)).mono ?_
          rintro e v15 ⟨rfl, b15⟩
          have U15 := Go.Lib.hid (U14.out.step b15)
          clear fq9a fq9b fq9l fq4a fq4b fq4l fq3a fq3b fq3l
          clear b15 U14
          have fq5a := U15.out.c0 (r := q5) (x := mx) (y := my) (by simp)
          have fq5b := U15.out.c1 (r := q5) (x := mx) (y := my) (by simp)
          have fq5l := U15.out.lt (r := q5) (x := mx) (y := my) (by simp)
          have fq4a := U15.out.c0 (r := q4) (x := c) (y := d) (by simp)
          have fq4b := U15.out.c1 (r := q4) (x := c) (y := d) (by simp)
          have fq4l := U15.out.lt (r := q4) (x := c) (y := d) (by simp)
          have fq3a := U15.out.c0 (r := q3) (x := a) (y := b) (by simp)
          have fq3b := U15.out.c1 (r := q3) (x := a) (y := b) (by simp)
          have fq3l := U15.out.lt (r := q3) (x := a) (y := b) (by simp)
          go_wp2_with fail
          refine (insideT mx a b _ (by omega) (by omega)).mono ?_
          rintro e v16 ⟨rfl, b16⟩
          have U16 := Go.Lib.hid (U15.out.step b16)
          clear fq5a fq5b fq5l fq4a fq4b fq4l fq3a fq3b fq3l
          clear b16 U15
          have fq5a := U16.out.c0 (r := q5) (x := mx) (y := my) (by simp)
          have fq5b := U16.out.c1 (r := q5) (x := mx) (y := my) (by simp)
          have fq5l := U16.out.lt (r := q5) (x := mx) (y := my) (by simp)
          have fq4a := U16.out.c0 (r := q4) (x := c) (y := d) (by simp)
          have fq4b := U16.out.c1 (r := q4) (x := c) (y := d) (by simp)
          have fq4l := U16.out.lt (r := q4) (x := c) (y := d) (by simp)
          have fq3a := U16.out.c0 (r := q3) (x := a) (y := b) (by simp)
          have fq3b := U16.out.c1 (r := q3) (x := a) (y := b) (by simp)
          have fq3l := U16.out.lt (r := q3) (x := a) (y := b) (by simp)
          go_wp2_with fail
          refine (insideT my a b _ (by omega) (by omega)).mono ?_
          rintro e v17 ⟨rfl, b17⟩
          have U17 := Go.Lib.hid (U16.out.step b17)
          clear fq5a fq5b fq5l fq4a fq4b fq4l fq3a fq3b fq3l
          clear b17 U16
          have fq5a := U17.out.c0 (r := q5) (x := mx) (y := my) (by simp)
          have fq5b := U17.out.c1 (r := q5) (x := mx) (y := my) (by simp)
          have fq5l := U17.out.lt (r := q5) (x := mx) (y := my) (by simp)
          have fq4a := U17.out.c0 (r := q4) (x := c) (y := d) (by simp)
          have fq4b := U17.out.c1 (r := q4) (x := c) (y := d) (by simp)
          have fq4l := U17.out.lt (r := q4) (x := c) (y := d) (by simp)
          have fq3a := U17.out.c0 (r := q3) (x := a) (y := b) (by simp)
          have fq3b := U17.out.c1 (r := q3) (x := a) (y := b) (by simp)
          have fq3l := U17.out.lt (r := q3) (x := a) (y := b) (by simp)
          go_wp2_with fail
          refine (insideT mx c d _ (by omega) (by omega)).mono ?_
          rintro e v18 ⟨rfl, b18⟩
          have U18 := Go.Lib.hid (U17.out.step b18)
          clear fq5a fq5b fq5l fq4a fq4b fq4l fq3a fq3b fq3l
          clear b18 U17
          have fq5a := U18.out.c0 (r := q5) (x := mx) (y := my) (by simp)
          have fq5b := U18.out.c1 (r := q5) (x := mx) (y := my) (by simp)
          have fq5l := U18.out.lt (r := q5) (x := mx) (y := my) (by simp)
          have fq4a := U18.out.c0 (r := q4) (x := c) (y := d) (by simp)
          have fq4b := U18.out.c1 (r := q4) (x := c) (y := d) (by simp)
          have fq4l := U18.out.lt (r := q4) (x := c) (y := d) (by simp)
          have fq3a := U18.out.c0 (r := q3) (x := a) (y := b) (by simp)
          have fq3b := U18.out.c1 (r := q3) (x := a) (y := b) (by simp)
          have fq3l := U18.out.lt (r := q3) (x := a) (y := b) (by simp)
          go_wp2_with fail
          refine (insideT my c d _ (by omega) (by omega)).mono ?_
          rintro e v19 ⟨rfl, b19⟩
          have U19 := Go.Lib.hid (U18.out.step b19)
          clear fq5a fq5b fq5l fq4a fq4b fq4l fq3a fq3b fq3l
          clear b19 U18
          go_wp2_with fail
          go_ret
          exact ⟨rfl, U19.out.below⟩
    · have hh : hullIv a b c d = ⟨0, 0, 1⟩ := by unfold hullIv; rw [if_neg hval]
      have HH := fun w => implHull a b c d w
      have HSh := fun w => specHull a b c d w
      rw [hh] at HH HSh
      have HH := Go.Lib.hid HH
      have HSh := Go.Lib.hid HSh
      have HL := Go.Lib.hid (fun w => implLess a b c d w)
      have HSl := Go.Lib.hid (fun w => specLess a b c d w)
      have HM := Go.Lib.hid (fun w => implMeet a b c d w)
      have HSm := Go.Lib.hid (fun w => specMeet a b c d w)
      generalize lessB a b c d = l at HL HSl
      generalize lessC a b c d = lz at HL HSl
      generalize meetIv a b c d = r at HM HSm
      obtain ⟨mx, my, mz⟩ := r
      clear hh hval
      refine (HM.out _).mono ?_
      rintro e v1 ⟨rfl, b1⟩
      have U1 := Go.Lib.hid (U0.out.step b1)
      clear b1 U0
      have fq4a := U1.out.c0 (r := q4) (x := c) (y := d) (by simp)
      have fq4b := U1.out.c1 (r := q4) (x := c) (y := d) (by simp)
      have fq4l := U1.out.lt (r := q4) (x := c) (y := d) (by simp)
      have fq3a := U1.out.c0 (r := q3) (x := a) (y := b) (by simp)
      have fq3b := U1.out.c1 (r := q3) (x := a) (y := b) (by simp)
      have fq3l := U1.out.lt (r := q3) (x := a) (y := b) (by simp)
      go_wp2_with fail
      have U2 := Go.Lib.hid (U1.out.var (x := mx) (y := my) 25)
      clear fq4a fq4b fq4l fq3a fq3b fq3l
      clear U1
      obtain ⟨q5, hq⟩ : ∃ q, q = v1.heap.size := ⟨_, rfl⟩
      rw [← hq] at U2 ⊢
      generalize v1.alloc (.cells #[.int .i64 mx, .int .i64 my] 25) = v2 at U2 ⊢
      clear hq
      refine (HSm.out _).mono ?_
      rintro e v3 ⟨rfl, b3⟩
      have U3 := Go.Lib.hid (U2.out.step b3)
      clear b3 U2
      have fq4a := U3.out.c0 (r := q4) (x := c) (y := d) (by simp)
      have fq4b := U3.out.c1 (r := q4) (x := c) (y := d) (by simp)
      have fq4l := U3.out.lt (r := q4) (x := c) (y := d) (by simp)
      have fq3a := U3.out.c0 (r := q3) (x := a) (y := b) (by simp)
      have fq3b := U3.out.c1 (r := q3) (x := a) (y := b) (by simp)
      have fq3l := U3.out.lt (r := q3) (x := a) (y := b) (by simp)
      go_wp2_with fail
      have U4 := Go.Lib.hid (U3.out.var (x := mx) (y := my) 25)
      clear fq4a fq4b fq4l fq3a fq3b fq3l
      clear U3
      obtain ⟨q7, hq⟩ : ∃ q, q = v3.heap.size := ⟨_, rfl⟩
      rw [← hq] at U4 ⊢
      generalize v3.alloc (.cells #[.int .i64 mx, .int .i64 my] 25) = v4 at U4 ⊢
      clear hq
      refine (HH.out _).mono ?_
      rintro e v5 ⟨rfl, b5⟩
      have U5 := Go.Lib.hid (U4.out.step b5)
      clear b5 U4
      have fq4a := U5.out.c0 (r := q4) (x := c) (y := d) (by simp)
      have fq4b := U5.out.c1 (r := q4) (x := c) (y := d) (by simp)
      have fq4l := U5.out.lt (r := q4) (x := c) (y := d) (by simp)
      have fq3a := U5.out.c0 (r := q3) (x := a) (y := b) (by simp)
      have fq3b := U5.out.c1 (r := q3) (x := a) (y := b) (by simp)
      have fq3l := U5.out.lt (r := q3) (x := a) (y := b) (by simp)
      go_wp2_with fail
      have U6 := Go.Lib.hid (U5.out.var (x := 0) (y := 0) 25)
      clear fq4a fq4b fq4l fq3a fq3b fq3l
      clear U5
      obtain ⟨q9, hq⟩ : ∃ q, q = v5.heap.size := ⟨_, rfl⟩
      rw [← hq] at U6 ⊢
      generalize v5.alloc (.cells #[.int .i64 0, .int .i64 0] 25) = v6 at U6 ⊢
      clear hq
      refine (HSh.out _).mono ?_
      rintro e v7 ⟨rfl, b7⟩
      have U7 := Go.Lib.hid (U6.out.step b7)
      clear b7 U6
      have fq4a := U7.out.c0 (r := q4) (x := c) (y := d) (by simp)
      have fq4b := U7.out.c1 (r := q4) (x := c) (y := d) (by simp)
      have fq4l := U7.out.lt (r := q4) (x := c) (y := d) (by simp)
      have fq3a := U7.out.c0 (r := q3) (x := a) (y := b) (by simp)
      have fq3b := U7.out.c1 (r := q3) (x := a) (y := b) (by simp)
      have fq3l := U7.out.lt (r := q3) (x := a) (y := b) (by simp)
      go_wp2_with fail
      have U8 := Go.Lib.hid (U7.out.var (x := 0) (y := 0) 25)
      clear fq4a fq4b fq4l fq3a fq3b fq3l
      clear U7
      obtain ⟨q11, hq⟩ : ∃ q, q = v7.heap.size := ⟨_, rfl⟩
      rw [← hq] at U8 ⊢
      generalize v7.alloc (.cells #[.int .i64 0, .int .i64 0] 25) = v8 at U8 ⊢
      clear hq
      refine (HL.out _).mono ?_
      rintro e v9 ⟨rfl, b9⟩
      have U9 := Go.Lib.hid (U8.out.step b9)
      clear b9 U8
      have fq4a := U9.out.c0 (r := q4) (x := c) (y := d) (by simp)
      have fq4b := U9.out.c1 (r := q4) (x := c) (y := d) (by simp)
      have fq4l := U9.out.lt (r := q4) (x := c) (y := d) (by simp)
      have fq3a := U9.out.c0 (r := q3) (x := a) (y := b) (by simp)
      have fq3b := U9.out.c1 (r := q3) (x := a) (y := b) (by simp)
      have fq3l := U9.out.lt (r := q3) (x := a) (y := b) (by simp)
      go_wp2_with fail
      refine (HSl.out _).mono ?_
      rintro e v10 ⟨rfl, b10⟩
      have U10 := Go.Lib.hid (U9.out.step b10)
      clear fq4a fq4b fq4l fq3a fq3b fq3l
      clear b10 U9
      have fq11a := U10.out.c0 (r := q11) (x := 0) (y := 0) (by simp)
      have fq11b := U10.out.c1 (r := q11) (x := 0) (y := 0) (by simp)
      have fq11l := U10.out.lt (r := q11) (x := 0) (y := 0) (by simp)
      have fq9a := U10.out.c0 (r := q9) (x := 0) (y := 0) (by simp)
      have fq9b := U10.out.c1 (r := q9) (x := 0) (y := 0) (by simp)
      have fq9l := U10.out.lt (r := q9) (x := 0) (y := 0) (by simp)
      have fq7a := U10.out.c0 (r := q7) (x := mx) (y := my) (by simp)
      have fq7b := U10.out.c1 (r := q7) (x := mx) (y := my) (by simp)
      have fq7l := U10.out.lt (r := q7) (x := mx) (y := my) (by simp)
      have fq5a := U10.out.c0 (r := q5) (x := mx) (y := my) (by simp)
      have fq5b := U10.out.c1 (r := q5) (x := mx) (y := my) (by simp)
      have fq5l := U10.out.lt (r := q5) (x := mx) (y := my) (by simp)
      have fq4a := U10.out.c0 (r := q4) (x := c) (y := d) (by simp)
      have fq4b := U10.out.c1 (r := q4) (x := c) (y := d) (by simp)
      have fq4l := U10.out.lt (r := q4) (x := c) (y := d) (by simp)
      have fq3a := U10.out.c0 (r := q3) (x := a) (y := b) (by simp)
      have fq3b := U10.out.c1 (r := q3) (x := a) (y := b) (by simp)
      have fq3l := U10.out.lt (r := q3) (x := a) (y := b) (by simp)
      go_wp2_with fail
      go_ret
      exact ⟨rfl, U10.out.below⟩

set_option maxRecDepth 100000 in
theorem lifted (os : Os) (started : os.Started) (H : Type) (enc : TypeId × Value → H) :
    ReturnsInHanded {} Try.checked os 5 .any (Rows.fnMeetsSpec.pre6 enc Try.prog Try.f5 Rows.fnMeetsRow.domain false) (Rows.fnMeetsSpec.post enc Try.prog Try.f5 false true false false) := by
  refine returnsInHanded_of_change_sized (C := Try.checked) own started (by kernel_rfl) Try.func5
    (ChangeSpec.witness6 (enc := enc) (C := Try.checked) false ⟨#[], #[.slice none 0 0], []⟩ 8 (by kernel_rfl) (by kernel_rfl) (by kernel_rfl) (by kernel_rfl)) ?_
  intro W base args ds gs before hval0 hW hcnd hsz0 _
  have hsz : (DataW.weightsEach Try.prog (Try.f5.params.toList ++ Rows.fnMeetsSpec.plain.varTypes Try.prog) (ds ++ gs)).all (· ≤ reachBytes) = true := hsz0
  clear hsz0
  have hval : ∀ (j : Nat) t v, Try.f5.params[j]? = some t → args[j]? = some v → Value.okWide Try.prog W .any base t v := hval0
  clear hval0
  have hW' := hW
  obtain ⟨p, q, hA0, hV, rfl, hfz, hnd⟩ := hW
  have hA : DataW.TrodAll enc Try.prog W 0 (fun _ => true) true Try.f5.params.toList args.toList ds p := hA0
  rw [Try.params5] at hA hval hsz
  obtain ⟨v0, vs0, d0, ds0, p0, q0, hargs, rfl, rfl, h0, r0⟩ := trodAll_cons hA
  obtain ⟨rfl, rfl, rfl⟩ := trodAll_nil r0
  obtain rfl : args = #[v0] := by cases args; simp_all
  obtain ⟨rfl, rfl⟩ := trodVars_none hV
  obtain ⟨a0, len0, cap0, rfl⟩ := okWide_slice Try.underlying22 (hval 0 22 v0 rfl rfl)
  have k0 := h0
  have lt0 : ∀ x ∈ p0, x.block < W.heap.size := by obtain ⟨m, hm⟩ := k0; exact DataW.trod_lt m _ _ _ hm
  obtain ⟨⟨z0, rd0, sz0⟩, hlc0, hp0⟩ := open_list_bytes h0
  have reach0 : len0 * 1 ≤ 140737488351232 := by
    rcases hp0 with hp0 | ⟨E0, S0, rfl, hl0⟩
    · omega
    · have := sized_slice hsz (j := 0) (t := 22) (e := 5) rfl rfl Try.underlying22
      rw [show Try.prog.bytesOf 5 = 1 by kernel_rfl] at this
      simp only [reachBytes] at this
      omega
  clear hA0
  refine (walk a0 len0 cap0 z0 W rd0 reach0 sz0).mono fun e W' ⟨he, bel⟩ => ?_
  subst he
  exact ⟨_, rfl, _, _, _, [], _, [], hW', trodAll_mk1 (shut_bool Try.underlying4 _), (trodAll_cons_mk (Below.trod laidOut (by kernel_rfl) (of_decide_eq_true (by kernel_rfl)) k0 bel lt0) trodAll_mk0), rfl, bel.frame _, fun h => by cases h⟩

theorem over : Rows.fnMeetsRow.holds Try.pinned (OpenSpec.ofChange Rows.fnMeetsSpec) :=
  OpenClaim.holds_of_wide 5 Try.f5 rfl rfl rfl rfl rfl rfl rfl ⟨rfl, rfl, rfl, rfl, rfl⟩ rfl rfl rfl rfl rfl (by kernel_rfl) Try.func5 (by kernel_rfl)
    (of_decide_eq_true (by kernel_rfl)) (by unfold Func.isWrapper; first | (rw [if_pos (by decide +kernel)]; kernel_rfl) | (rw [if_neg (by decide +kernel)]; exact ⟨rfl, rfl⟩))
    (fun os started H enc _ => lifted os started H enc)

theorem proved : Rows.FnMeetsSaid := over
end Go.Proofs.Ytcknknicknolaaa.fnMeets
