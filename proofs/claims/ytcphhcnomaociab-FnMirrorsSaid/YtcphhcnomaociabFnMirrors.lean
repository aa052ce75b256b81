/- laws.FnMirrors answers true for every list of bytes: mirroring twice changes nothing, and a mirrored wheel has the negated dish. No condition. -/
import Derived.Test.YtcphhcnomaociabRows
import Derived.Test.YtcphhcnomaociabHubImpl
import Derived.Test.YtcphhcnomaociabLawHub2
import Derived.Test.YtcphhcnomaociabDrawHub5
import Derived.Test.YtcphhcnomaociabBig
import Derived.Test.YtcphhcnomaociabOpenB
import Derived.Test.YtcphhcnomaociabBox
import Derived.WalkKit
import Derived.ProofKit
import Derived.OpenShut
import Derived.ShutString
import Derived.SizedLaws
namespace Go.Proofs.Ytcphhcnomaociab.fnMirrors
open Go.ChangeShapes Go.WideShapes Go.ChangeAt Go.RowKit
open Go.ChangeMaps (open_string shut_string)
set_option linter.unusedVariables false

structure MC (w : World) (Q0 Q1 Q2 Q3 Q4 Q5 Q6 : Nat) (x m : Wh) (y k : Hb) (r : Rm) (W : World) : Prop where
  bQ0 : Box W Q0 [.int .i64 x.h.n, .int .i64 x.h.l, .int .i64 x.h.r, .int .i64 x.h.a, .int .i64 x.h.b, .int .i64 x.r.n, .int .i64 x.r.d, .int .i64 x.r.o, .int .i64 x.c]
  bQ1 : Box W Q1 [.int .i64 m.h.n, .int .i64 m.h.l, .int .i64 m.h.r, .int .i64 m.h.a, .int .i64 m.h.b, .int .i64 m.r.n, .int .i64 m.r.d, .int .i64 m.r.o, .int .i64 m.c]
  bQ2 : Box W Q2 [.int .i64 m.h.n, .int .i64 m.h.l, .int .i64 m.h.r, .int .i64 m.h.a, .int .i64 m.h.b, .int .i64 m.r.n, .int .i64 m.r.d, .int .i64 m.r.o, .int .i64 m.c]
  bQ3 : Box W Q3 [.int .i64 y.n, .int .i64 y.l, .int .i64 y.r, .int .i64 y.a, .int .i64 y.b]
  bQ4 : Box W Q4 [.int .i64 k.n, .int .i64 k.l, .int .i64 k.r, .int .i64 k.a, .int .i64 k.b]
  bQ5 : Box W Q5 [.int .i64 k.n, .int .i64 k.l, .int .i64 k.r, .int .i64 k.a, .int .i64 k.b]
  bQ6 : Box W Q6 [.int .i64 r.n, .int .i64 r.d, .int .i64 r.o]
  below : Below w.heap.size w W
section
variable {w W W1 : World} {Q0 Q1 Q2 Q3 Q4 Q5 Q6 : Nat} {x m : Wh} {y k : Hb} {r : Rm}
theorem MC.next (c : MC w Q0 Q1 Q2 Q3 Q4 Q5 Q6 x m y k r W) (hb : Below W.heap.size W W1) : MC w Q0 Q1 Q2 Q3 Q4 Q5 Q6 x m y k r W1 :=
  ⟨c.bQ0.below hb, c.bQ1.below hb, c.bQ2.below hb, c.bQ3.below hb, c.bQ4.below hb, c.bQ5.below hb, c.bQ6.below hb, upB c.below hb⟩
theorem MC.drew (c : MC w Q0 Q1 Q2 Q3 Q4 Q5 Q6 x m y k r W) : MC w Q0 Q1 Q2 Q3 Q4 Q5 Q6 x m y k r W.drew :=
  ⟨c.bQ0.drew, c.bQ1.drew, c.bQ2.drew, c.bQ3.drew, c.bQ4.drew, c.bQ5.drew, c.bQ6.drew, c.below.drew⟩
theorem MC.cells (c : MC w Q0 Q1 Q2 Q3 Q4 Q5 Q6 x m y k r W) : W.cell? ⟨Q0, 0, none⟩ = some (.int .i64 x.h.n) ∧ W.cell? ⟨Q0, 1, none⟩ = some (.int .i64 x.h.l) ∧ W.cell? ⟨Q0, 2, none⟩ = some (.int .i64 x.h.r) ∧ W.cell? ⟨Q0, 3, none⟩ = some (.int .i64 x.h.a) ∧ W.cell? ⟨Q0, 4, none⟩ = some (.int .i64 x.h.b) ∧ W.cell? ⟨Q0, 5, none⟩ = some (.int .i64 x.r.n) ∧ W.cell? ⟨Q0, 6, none⟩ = some (.int .i64 x.r.d) ∧ W.cell? ⟨Q0, 7, none⟩ = some (.int .i64 x.r.o) ∧ W.cell? ⟨Q0, 8, none⟩ = some (.int .i64 x.c) ∧ W.cell? ⟨Q1, 0, none⟩ = some (.int .i64 m.h.n) ∧ W.cell? ⟨Q1, 1, none⟩ = some (.int .i64 m.h.l) ∧ W.cell? ⟨Q1, 2, none⟩ = some (.int .i64 m.h.r) ∧ W.cell? ⟨Q1, 3, none⟩ = some (.int .i64 m.h.a) ∧ W.cell? ⟨Q1, 4, none⟩ = some (.int .i64 m.h.b) ∧ W.cell? ⟨Q1, 5, none⟩ = some (.int .i64 m.r.n) ∧ W.cell? ⟨Q1, 6, none⟩ = some (.int .i64 m.r.d) ∧ W.cell? ⟨Q1, 7, none⟩ = some (.int .i64 m.r.o) ∧ W.cell? ⟨Q1, 8, none⟩ = some (.int .i64 m.c) ∧ W.cell? ⟨Q2, 0, none⟩ = some (.int .i64 m.h.n) ∧ W.cell? ⟨Q2, 1, none⟩ = some (.int .i64 m.h.l) ∧ W.cell? ⟨Q2, 2, none⟩ = some (.int .i64 m.h.r) ∧ W.cell? ⟨Q2, 3, none⟩ = some (.int .i64 m.h.a) ∧ W.cell? ⟨Q2, 4, none⟩ = some (.int .i64 m.h.b) ∧ W.cell? ⟨Q2, 5, none⟩ = some (.int .i64 m.r.n) ∧ W.cell? ⟨Q2, 6, none⟩ = some (.int .i64 m.r.d) ∧ W.cell? ⟨Q2, 7, none⟩ = some (.int .i64 m.r.o) ∧ W.cell? ⟨Q2, 8, none⟩ = some (.int .i64 m.c) ∧ W.cell? ⟨Q4, 0, none⟩ = some (.int .i64 k.n) ∧ W.cell? ⟨Q4, 1, none⟩ = some (.int .i64 k.l) ∧ W.cell? ⟨Q4, 2, none⟩ = some (.int .i64 k.r) ∧ W.cell? ⟨Q4, 3, none⟩ = some (.int .i64 k.a) ∧ W.cell? ⟨Q4, 4, none⟩ = some (.int .i64 k.b) ∧ W.cell? ⟨Q5, 0, none⟩ = some (.int .i64 k.n) ∧ W.cell? ⟨Q5, 1, none⟩ = some (.int .i64 k.l) ∧ W.cell? ⟨Q5, 2, none⟩ = some (.int .i64 k.r) ∧ W.cell? ⟨Q5, 3, none⟩ = some (.int .i64 k.a) ∧ W.cell? ⟨Q5, 4, none⟩ = some (.int .i64 k.b) ∧ W.cell? ⟨Q6, 0, none⟩ = some (.int .i64 r.n) ∧ W.cell? ⟨Q6, 1, none⟩ = some (.int .i64 r.d) ∧ W.cell? ⟨Q6, 2, none⟩ = some (.int .i64 r.o) :=
  ⟨c.bQ0.at_ 0 _ rfl, c.bQ0.at_ 1 _ rfl, c.bQ0.at_ 2 _ rfl, c.bQ0.at_ 3 _ rfl, c.bQ0.at_ 4 _ rfl, c.bQ0.at_ 5 _ rfl, c.bQ0.at_ 6 _ rfl, c.bQ0.at_ 7 _ rfl, c.bQ0.at_ 8 _ rfl, c.bQ1.at_ 0 _ rfl, c.bQ1.at_ 1 _ rfl, c.bQ1.at_ 2 _ rfl, c.bQ1.at_ 3 _ rfl, c.bQ1.at_ 4 _ rfl, c.bQ1.at_ 5 _ rfl, c.bQ1.at_ 6 _ rfl, c.bQ1.at_ 7 _ rfl, c.bQ1.at_ 8 _ rfl, c.bQ2.at_ 0 _ rfl, c.bQ2.at_ 1 _ rfl, c.bQ2.at_ 2 _ rfl, c.bQ2.at_ 3 _ rfl, c.bQ2.at_ 4 _ rfl, c.bQ2.at_ 5 _ rfl, c.bQ2.at_ 6 _ rfl, c.bQ2.at_ 7 _ rfl, c.bQ2.at_ 8 _ rfl, c.bQ4.at_ 0 _ rfl, c.bQ4.at_ 1 _ rfl, c.bQ4.at_ 2 _ rfl, c.bQ4.at_ 3 _ rfl, c.bQ4.at_ 4 _ rfl, c.bQ5.at_ 0 _ rfl, c.bQ5.at_ 1 _ rfl, c.bQ5.at_ 2 _ rfl, c.bQ5.at_ 3 _ rfl, c.bQ5.at_ 4 _ rfl, c.bQ6.at_ 0 _ rfl, c.bQ6.at_ 1 _ rfl, c.bQ6.at_ 2 _ rfl⟩
end
set_option maxRecDepth 100000 in
set_option maxHeartbeats 16000000 in
theorem walk (A : Option Addr) (n cap : Nat) (bs : List Int) (w : World) (h : Rd w 0 w.heap.size A n (byts bs)) (hn : n * 1 ≤ 140737488351232) (hs : ∀ z ∈ bs, 0 ≤ z ∧ z ≤ 255) :
    Calls Try.prog 3 #[.slice A n cap] w fun e w' => e = .returned (.bool true) ∧ Below w.heap.size w w' := by
  have HB := Go.Lib.hid (big_ A n cap w)
  by_cases hbig : (4096 : Int) < n
  · go_enter Try.func3, Try.ntmps3
    go_wp2_with fail
    refine HB.out.mono ?_
    rintro e w' ⟨rfl, rfl⟩
    go_wp2_with fail
    go_ret
    exact ⟨rfl, Below.refl _ _⟩
  · have hb2 := big_ A n cap w
    rw [decide_eq_false hbig] at hb2
    have HB2 := Go.Lib.hid hb2
    have HRD := Go.Lib.hid (fun w1 (hb : Below w.heap.size w w1) => (h.below hb (Nat.le_refl _)).mono (Nat.le_refl _) hb.size)
    clear hb2 HB hbig
    go_enter Try.func3, Try.ntmps3
    go_wp2_with fail
    refine HB2.out.mono ?_
    rintro e w' ⟨rfl, rfl⟩
    have B0 : Below w.heap.size w w := Below.refl _ _
    go_wp2_with fail
    refine (drawMirrorWheel A n cap bs _ (HRD.out _ B0) hs (by omega)).mono ?_
    rintro _ W1 ⟨x, rfl, b1⟩
    have B1 := upB B0 b1
    clear b1  B0
    go_upto_region 4 with fail
    refine wp_gen (R := fun w' => Box w' W1.heap.size [.int .i64 x.h.n, .int .i64 x.h.l, .int .i64 x.h.r, .int .i64 x.h.a, .int .i64 x.h.b, .int .i64 x.r.n, .int .i64 x.r.d, .int .i64 x.r.o, .int .i64 x.c] ∧ Below w.heap.size w w') ⟨Box.new rfl rfl, B1.alloc B1.size _⟩ ?_
    rintro W2 ⟨K2_0, B2⟩
    clear B1
    have HW := Go.Lib.hid (fun w0 => implMirrorWheel x w0)
    have HWS := Go.Lib.hid (fun w0 => specMirrorWheel x w0)
    have HD := Go.Lib.hid (fun w0 => implDishOf x w0)
    have HDS := Go.Lib.hid (fun w0 => specDishOf x w0)
    have HIW := Go.Lib.hid (fun w0 => implIsWheel x w0)
    obtain ⟨m, c, hm⟩ : ∃ m c, mirrWA x = (m, c) := ⟨_, _, rfl⟩
    obtain ⟨d, e, hd⟩ : ∃ d e : Int, dishA x = (d, e) := ⟨_, _, rfl⟩
    have hd2 : pairI (d, e) = .tuple #[.int .i64 d, .int .i64 e] := rfl
    rw [hm] at HW HWS
    rw [hd, hd2] at HD HDS
    have HM := Go.Lib.hid hm
    have HDV := Go.Lib.hid hd
    clear hm hd hd2
    have k2_0_0 := K2_0.at_ 0 _ rfl
    have k2_0_1 := K2_0.at_ 1 _ rfl
    have k2_0_2 := K2_0.at_ 2 _ rfl
    have k2_0_3 := K2_0.at_ 3 _ rfl
    have k2_0_4 := K2_0.at_ 4 _ rfl
    have k2_0_5 := K2_0.at_ 5 _ rfl
    have k2_0_6 := K2_0.at_ 6 _ rfl
    have k2_0_7 := K2_0.at_ 7 _ rfl
    have k2_0_8 := K2_0.at_ 8 _ rfl
    have k2_0_f := K2_0.fr
    have k2_0_l := K2_0.lt
    go_wp2_with fail
    refine (HW.out _).mono ?_
    rintro _ W3 ⟨rfl, b3⟩
    have K3_0 := K2_0.below b3
    clear k2_0_0 k2_0_1 k2_0_2 k2_0_3 k2_0_4 k2_0_5 k2_0_6 k2_0_7 k2_0_8 k2_0_f k2_0_l
    have B3 := upB B2 b3
    clear b3 K2_0 B2
    go_upto_region 5 with fail
    refine wp_gen (R := fun w' => Box w' W1.heap.size [.int .i64 x.h.n, .int .i64 x.h.l, .int .i64 x.h.r, .int .i64 x.h.a, .int .i64 x.h.b, .int .i64 x.r.n, .int .i64 x.r.d, .int .i64 x.r.o, .int .i64 x.c] ∧ Box w' W3.heap.size [.int .i64 m.h.n, .int .i64 m.h.l, .int .i64 m.h.r, .int .i64 m.h.a, .int .i64 m.h.b, .int .i64 m.r.n, .int .i64 m.r.d, .int .i64 m.r.o, .int .i64 m.c] ∧ Below w.heap.size w w') ⟨K3_0.alloc _, Box.new rfl rfl, B3.alloc B3.size _⟩ ?_
    rintro W4 ⟨K4_0, K4_1, B4⟩
    clear K3_0 B3
    have k4_0_0 := K4_0.at_ 0 _ rfl
    have k4_0_1 := K4_0.at_ 1 _ rfl
    have k4_0_2 := K4_0.at_ 2 _ rfl
    have k4_0_3 := K4_0.at_ 3 _ rfl
    have k4_0_4 := K4_0.at_ 4 _ rfl
    have k4_0_5 := K4_0.at_ 5 _ rfl
    have k4_0_6 := K4_0.at_ 6 _ rfl
    have k4_0_7 := K4_0.at_ 7 _ rfl
    have k4_0_8 := K4_0.at_ 8 _ rfl
    have k4_0_f := K4_0.fr
    have k4_0_l := K4_0.lt
    go_wp2_with fail
    refine (HWS.out _).mono ?_
    rintro _ W5 ⟨rfl, b5⟩
    have K5_0 := K4_0.below b5
    have K5_1 := K4_1.below b5
    clear k4_0_0 k4_0_1 k4_0_2 k4_0_3 k4_0_4 k4_0_5 k4_0_6 k4_0_7 k4_0_8 k4_0_f k4_0_l
    have B5 := upB B4 b5
    clear b5 K4_0 K4_1 B4
    go_upto_region 6 with fail
    refine wp_gen (R := fun w' => Box w' W1.heap.size [.int .i64 x.h.n, .int .i64 x.h.l, .int .i64 x.h.r, .int .i64 x.h.a, .int .i64 x.h.b, .int .i64 x.r.n, .int .i64 x.r.d, .int .i64 x.r.o, .int .i64 x.c] ∧ Box w' W3.heap.size [.int .i64 m.h.n, .int .i64 m.h.l, .int .i64 m.h.r, .int .i64 m.h.a, .int .i64 m.h.b, .int .i64 m.r.n, .int .i64 m.r.d, .int .i64 m.r.o, .int .i64 m.c] ∧ Box w' W5.heap.size [.int .i64 m.h.n, .int .i64 m.h.l, .int .i64 m.h.r, .int .i64 m.h.a, .int .i64 m.h.b, .int .i64 m.r.n, .int .i64 m.r.d, .int .i64 m.r.o, .int .i64 m.c] ∧ Below w.heap.size w w') ⟨K5_0.alloc _, K5_1.alloc _, Box.new rfl rfl, B5.alloc B5.size _⟩ ?_
    rintro W6 ⟨K6_0, K6_1, K6_2, B6⟩
    clear K5_0 K5_1 B5
    have k6_0_0 := K6_0.at_ 0 _ rfl
    have k6_0_1 := K6_0.at_ 1 _ rfl
    have k6_0_2 := K6_0.at_ 2 _ rfl
    have k6_0_3 := K6_0.at_ 3 _ rfl
    have k6_0_4 := K6_0.at_ 4 _ rfl
    have k6_0_5 := K6_0.at_ 5 _ rfl
    have k6_0_6 := K6_0.at_ 6 _ rfl
    have k6_0_7 := K6_0.at_ 7 _ rfl
    have k6_0_8 := K6_0.at_ 8 _ rfl
    have k6_0_f := K6_0.fr
    have k6_0_l := K6_0.lt
    go_wp2_with fail
    refine (HD.out _).mono ?_
    rintro _ W7 ⟨rfl, b7⟩
    have K7_0 := K6_0.below b7
    have K7_1 := K6_1.below b7
    have K7_2 := K6_2.below b7
    clear k6_0_0 k6_0_1 k6_0_2 k6_0_3 k6_0_4 k6_0_5 k6_0_6 k6_0_7 k6_0_8 k6_0_f k6_0_l
    have B7 := upB B6 b7
    clear b7 K6_0 K6_1 K6_2 B6
    have k7_0_0 := K7_0.at_ 0 _ rfl
    have k7_0_1 := K7_0.at_ 1 _ rfl
    have k7_0_2 := K7_0.at_ 2 _ rfl
    have k7_0_3 := K7_0.at_ 3 _ rfl
    have k7_0_4 := K7_0.at_ 4 _ rfl
    have k7_0_5 := K7_0.at_ 5 _ rfl
    have k7_0_6 := K7_0.at_ 6 _ rfl
    have k7_0_7 := K7_0.at_ 7 _ rfl
    have k7_0_8 := K7_0.at_ 8 _ rfl
    have k7_0_f := K7_0.fr
    have k7_0_l := K7_0.lt
    go_wp2_with fail
    refine (HDS.out _).mono ?_
    rintro _ W8 ⟨rfl, b8⟩
    have K8_0 := K7_0.below b8
    have K8_1 := K7_1.below b8
    have K8_2 := K7_2.below b8
    clear k7_0_0 k7_0_1 k7_0_2 k7_0_3 k7_0_4 k7_0_5 k7_0_6 k7_0_7 k7_0_8 k7_0_f k7_0_l
    have B8 := upB B7 b8
    clear b8 K7_0 K7_1 K7_2 B7
    go_wp2_with fail
    refine (drawMirrorHub A n cap bs _ (HRD.out _ B8) hs (by omega)).mono ?_
    rintro _ W9 ⟨y, rfl, b9⟩
    have K9_0 := K8_0.below b9
    have K9_1 := K8_1.below b9
    have K9_2 := K8_2.below b9
    have B9 := upB B8 b9
    clear b9 K8_0 K8_1 K8_2 B8
    go_upto_region 9 with fail
    refine wp_gen (R := fun w' => Box w' W1.heap.size [.int .i64 x.h.n, .int .i64 x.h.l, .int .i64 x.h.r, .int .i64 x.h.a, .int .i64 x.h.b, .int .i64 x.r.n, .int .i64 x.r.d, .int .i64 x.r.o, .int .i64 x.c] ∧ Box w' W3.heap.size [.int .i64 m.h.n, .int .i64 m.h.l, .int .i64 m.h.r, .int .i64 m.h.a, .int .i64 m.h.b, .int .i64 m.r.n, .int .i64 m.r.d, .int .i64 m.r.o, .int .i64 m.c] ∧ Box w' W5.heap.size [.int .i64 m.h.n, .int .i64 m.h.l, .int .i64 m.h.r, .int .i64 m.h.a, .int .i64 m.h.b, .int .i64 m.r.n, .int .i64 m.r.d, .int .i64 m.r.o, .int .i64 m.c] ∧ Box w' W9.heap.size [.int .i64 y.n, .int .i64 y.l, .int .i64 y.r, .int .i64 y.a, .int .i64 y.b] ∧ Below w.heap.size w w') ⟨K9_0.alloc _, K9_1.alloc _, K9_2.alloc _, Box.new rfl rfl, B9.alloc B9.size _⟩ ?_
    rintro W10 ⟨K10_0, K10_1, K10_2, K10_3, B10⟩
    clear K9_0 K9_1 K9_2 B9
    have HH := Go.Lib.hid (fun w0 => implMirrorHub y w0)
    have HHS := Go.Lib.hid (fun w0 => specMirrorHub y w0)
    obtain ⟨k, f, hk⟩ : ∃ k f, mirrHA y = (k, f) := ⟨_, _, rfl⟩
    rw [hk] at HH HHS
    have HK := Go.Lib.hid hk
    clear hk
    have k10_3_0 := K10_3.at_ 0 _ rfl
    have k10_3_1 := K10_3.at_ 1 _ rfl
    have k10_3_2 := K10_3.at_ 2 _ rfl
    have k10_3_3 := K10_3.at_ 3 _ rfl
    have k10_3_4 := K10_3.at_ 4 _ rfl
    have k10_3_f := K10_3.fr
    have k10_3_l := K10_3.lt
    go_wp2_with fail
    refine (HH.out _).mono ?_
    rintro _ W11 ⟨rfl, b11⟩
    have K11_0 := K10_0.below b11
    have K11_1 := K10_1.below b11
    have K11_2 := K10_2.below b11
    have K11_3 := K10_3.below b11
    clear k10_3_0 k10_3_1 k10_3_2 k10_3_3 k10_3_4 k10_3_f k10_3_l
    have B11 := upB B10 b11
    clear b11 K10_0 K10_1 K10_2 K10_3 B10
    go_upto_region 10 with fail
    refine wp_gen (R := fun w' => Box w' W1.heap.size [.int .i64 x.h.n, .int .i64 x.h.l, .int .i64 x.h.r, .int .i64 x.h.a, .int .i64 x.h.b, .int .i64 x.r.n, .int .i64 x.r.d, .int .i64 x.r.o, .int .i64 x.c] ∧ Box w' W3.heap.size [.int .i64 m.h.n, .int .i64 m.h.l, .int .i64 m.h.r, .int .i64 m.h.a, .int .i64 m.h.b, .int .i64 m.r.n, .int .i64 m.r.d, .int .i64 m.r.o, .int .i64 m.c] ∧ Box w' W5.heap.size [.int .i64 m.h.n, .int .i64 m.h.l, .int .i64 m.h.r, .int .i64 m.h.a, .int .i64 m.h.b, .int .i64 m.r.n, .int .i64 m.r.d, .int .i64 m.r.o, .int .i64 m.c] ∧ Box w' W9.heap.size [.int .i64 y.n, .int .i64 y.l, .int .i64 y.r, .int .i64 y.a, .int .i64 y.b] ∧ Box w' W11.heap.size [.int .i64 k.n, .int .i64 k.l, .int .i64 k.r, .int .i64 k.a, .int .i64 k.b] ∧ Below w.heap.size w w') ⟨K11_0.alloc _, K11_1.alloc _, K11_2.alloc _, K11_3.alloc _, Box.new rfl rfl, B11.alloc B11.size _⟩ ?_
    rintro W12 ⟨K12_0, K12_1, K12_2, K12_3, K12_4, B12⟩
    clear K11_0 K11_1 K11_2 K11_3 B11
    have k12_3_0 := K12_3.at_ 0 _ rfl
    have k12_3_1 := K12_3.at_ 1 _ rfl
    have k12_3_2 := K12_3.at_ 2 _ rfl
    have k12_3_3 := K12_3.at_ 3 _ rfl
    have k12_3_4 := K12_3.at_ 4 _ rfl
    have k12_3_f := K12_3.fr
    have k12_3_l := K12_3.lt
    go_wp2_with fail
    refine (HHS.out _).mono ?_
    rintro _ W13 ⟨rfl, b13⟩
    have K13_0 := K12_0.below b13
    have K13_1 := K12_1.below b13
    have K13_2 := K12_2.below b13
    have K13_3 := K12_3.below b13
    have K13_4 := K12_4.below b13
    clear k12_3_0 k12_3_1 k12_3_2 k12_3_3 k12_3_4 k12_3_f k12_3_l
    have B13 := upB B12 b13
    clear b13 K12_0 K12_1 K12_2 K12_3 K12_4 B12
    go_upto_region 11 with fail
    refine wp_gen (R := fun w' => Box w' W1.heap.size [.int .i64 x.h.n, .int .i64 x.h.l, .int .i64 x.h.r, .int .i64 x.h.a, .int .i64 x.h.b, .int .i64 x.r.n, .int .i64 x.r.d, .int .i64 x.r.o, .int .i64 x.c] ∧ Box w' W3.heap.size [.int .i64 m.h.n, .int .i64 m.h.l, .int .i64 m.h.r, .int .i64 m.h.a, .int .i64 m.h.b, .int .i64 m.r.n, .int .i64 m.r.d, .int .i64 m.r.o, .int .i64 m.c] ∧ Box w' W5.heap.size [.int .i64 m.h.n, .int .i64 m.h.l, .int .i64 m.h.r, .int .i64 m.h.a, .int .i64 m.h.b, .int .i64 m.r.n, .int .i64 m.r.d, .int .i64 m.r.o, .int .i64 m.c] ∧ Box w' W9.heap.size [.int .i64 y.n, .int .i64 y.l, .int .i64 y.r, .int .i64 y.a, .int .i64 y.b] ∧ Box w' W11.heap.size [.int .i64 k.n, .int .i64 k.l, .int .i64 k.r, .int .i64 k.a, .int .i64 k.b] ∧ Box w' W13.heap.size [.int .i64 k.n, .int .i64 k.l, .int .i64 k.r, .int .i64 k.a, .int .i64 k.b] ∧ Below w.heap.size w w') ⟨K13_0.alloc _, K13_1.alloc _, K13_2.alloc _, K13_3.alloc _, K13_4.alloc _, Box.new rfl rfl, B13.alloc B13.size _⟩ ?_
    rintro W14 ⟨K14_0, K14_1, K14_2, K14_3, K14_4, K14_5, B14⟩
    clear K13_0 K13_1 K13_2 K13_3 K13_4 B13
    go_wp2_with fail
    refine (drawMostCrosses A n cap bs _ (HRD.out _ B14) hs (by omega)).mono ?_
    rintro _ W15 ⟨v, rfl, b15⟩
    have K15_0 := K14_0.below b15
    have K15_1 := K14_1.below b15
    have K15_2 := K14_2.below b15
    have K15_3 := K14_3.below b15
    have K15_4 := K14_4.below b15
    have K15_5 := K14_5.below b15
    have B15 := upB B14 b15
    clear b15 K14_0 K14_1 K14_2 K14_3 K14_4 K14_5 B14
    have HC := Go.Lib.hid (fun w0 => implMostCrosses v w0)
    have HCS := Go.Lib.hid (fun w0 => specMostCrosses v w0)
    obtain ⟨p, t, hp⟩ : ∃ p t : Int, pairI (mostA v) = .tuple #[.int .i64 p, .int .i64 t] := ⟨_, _, rfl⟩
    rw [hp] at HC HCS
    clear hp
    go_wp2_with fail
    refine (HC.out _).mono ?_
    rintro _ W16 ⟨rfl, b16⟩
    have K16_0 := K15_0.below b16
    have K16_1 := K15_1.below b16
    have K16_2 := K15_2.below b16
    have K16_3 := K15_3.below b16
    have K16_4 := K15_4.below b16
    have K16_5 := K15_5.below b16
    have B16 := upB B15 b16
    clear b16 K15_0 K15_1 K15_2 K15_3 K15_4 K15_5 B15
    go_wp2_with fail
    refine (HCS.out _).mono ?_
    rintro _ W17 ⟨rfl, b17⟩
    have K17_0 := K16_0.below b17
    have K17_1 := K16_1.below b17
    have K17_2 := K16_2.below b17
    have K17_3 := K16_3.below b17
    have K17_4 := K16_4.below b17
    have K17_5 := K16_5.below b17
    have B17 := upB B16 b17
    clear b17 K16_0 K16_1 K16_2 K16_3 K16_4 K16_5 B16
    go_wp2_with fail
    refine (drawIsRim A n cap bs _ (HRD.out _ B17) hs (by omega)).mono ?_
    rintro _ W18 ⟨r, rfl, b18⟩
    have K18_0 := K17_0.below b18
    have K18_1 := K17_1.below b18
    have K18_2 := K17_2.below b18
    have K18_3 := K17_3.below b18
    have K18_4 := K17_4.below b18
    have K18_5 := K17_5.below b18
    have B18 := upB B17 b18
    clear b18 K17_0 K17_1 K17_2 K17_3 K17_4 K17_5 B17
    go_upto_region 15 with fail
    refine wp_gen (R := fun w' => Box w' W1.heap.size [.int .i64 x.h.n, .int .i64 x.h.l, .int .i64 x.h.r, .int .i64 x.h.a, .int .i64 x.h.b, .int .i64 x.r.n, .int .i64 x.r.d, .int .i64 x.r.o, .int .i64 x.c] ∧ Box w' W3.heap.size [.int .i64 m.h.n, .int .i64 m.h.l, .int .i64 m.h.r, .int .i64 m.h.a, .int .i64 m.h.b, .int .i64 m.r.n, .int .i64 m.r.d, .int .i64 m.r.o, .int .i64 m.c] ∧ Box w' W5.heap.size [.int .i64 m.h.n, .int .i64 m.h.l, .int .i64 m.h.r, .int .i64 m.h.a, .int .i64 m.h.b, .int .i64 m.r.n, .int .i64 m.r.d, .int .i64 m.r.o, .int .i64 m.c] ∧ Box w' W9.heap.size [.int .i64 y.n, .int .i64 y.l, .int .i64 y.r, .int .i64 y.a, .int .i64 y.b] ∧ Box w' W11.heap.size [.int .i64 k.n, .int .i64 k.l, .int .i64 k.r, .int .i64 k.a, .int .i64 k.b] ∧ Box w' W13.heap.size [.int .i64 k.n, .int .i64 k.l, .int .i64 k.r, .int .i64 k.a, .int .i64 k.b] ∧ Box w' W18.heap.size [.int .i64 r.n, .int .i64 r.d, .int .i64 r.o] ∧ Below w.heap.size w w') ⟨K18_0.alloc _, K18_1.alloc _, K18_2.alloc _, K18_3.alloc _, K18_4.alloc _, K18_5.alloc _, Box.new rfl rfl, B18.alloc B18.size _⟩ ?_
    rintro W19 ⟨K19_0, K19_1, K19_2, K19_3, K19_4, K19_5, K19_6, B19⟩
    clear K18_0 K18_1 K18_2 K18_3 K18_4 K18_5 B18
    obtain ⟨Q0, eq0⟩ : ∃ q, q = W1.heap.size := ⟨_, rfl⟩
    rw [← eq0] at K19_0 ⊢
    clear eq0
    obtain ⟨Q1, eq1⟩ : ∃ q, q = W3.heap.size := ⟨_, rfl⟩
    rw [← eq1] at K19_1 ⊢
    clear eq1
    obtain ⟨Q2, eq2⟩ : ∃ q, q = W5.heap.size := ⟨_, rfl⟩
    rw [← eq2] at K19_2 ⊢
    clear eq2
    obtain ⟨Q3, eq3⟩ : ∃ q, q = W9.heap.size := ⟨_, rfl⟩
    rw [← eq3] at K19_3 ⊢
    clear eq3
    obtain ⟨Q4, eq4⟩ : ∃ q, q = W11.heap.size := ⟨_, rfl⟩
    rw [← eq4] at K19_4 ⊢
    clear eq4
    obtain ⟨Q5, eq5⟩ : ∃ q, q = W13.heap.size := ⟨_, rfl⟩
    rw [← eq5] at K19_5 ⊢
    clear eq5
    obtain ⟨Q6, eq6⟩ : ∃ q, q = W18.heap.size := ⟨_, rfl⟩
    rw [← eq6] at K19_6 ⊢
    clear eq6
    have C : Hid (MC w Q0 Q1 Q2 Q3 Q4 Q5 Q6 x m y k r W19) := ⟨K19_0, K19_1, K19_2, K19_3, K19_4, K19_5, K19_6, B19⟩
    have e0 := C.out.cells
    have HR1 := Go.Lib.hid (fun w0 => implIsRim r w0)
    have HR2 := Go.Lib.hid (fun w0 => specIsRim r w0)
    generalize rimB r = rb at HR1 HR2
    clear HW HWS HD HDS HH HHS HC HCS HB2 HRD
    cases hb : wheelB x
    · rw [hb] at HIW
      have hv : mirrWA x = (zeroW, 1) := by unfold mirrWA; rw [hb]; rfl
      have hc : c = 1 := by have := HM.out; rw [hv] at this; injection this with _ h2; exact h2.symm
      subst hc
      clear hv hb HM HDV
      go_region_held3 (fun w' => w'.cell? ⟨Q0, 0, none⟩ = some (.int .i64 x.h.n) ∧ w'.cell? ⟨Q0, 1, none⟩ = some (.int .i64 x.h.l) ∧ w'.cell? ⟨Q0, 2, none⟩ = some (.int .i64 x.h.r) ∧ w'.cell? ⟨Q0, 3, none⟩ = some (.int .i64 x.h.a) ∧ w'.cell? ⟨Q0, 4, none⟩ = some (.int .i64 x.h.b) ∧ w'.cell? ⟨Q0, 5, none⟩ = some (.int .i64 x.r.n) ∧ w'.cell? ⟨Q0, 6, none⟩ = some (.int .i64 x.r.d) ∧ w'.cell? ⟨Q0, 7, none⟩ = some (.int .i64 x.r.o) ∧ w'.cell? ⟨Q0, 8, none⟩ = some (.int .i64 x.c) ∧ w'.cell? ⟨Q1, 0, none⟩ = some (.int .i64 m.h.n) ∧ w'.cell? ⟨Q1, 1, none⟩ = some (.int .i64 m.h.l) ∧ w'.cell? ⟨Q1, 2, none⟩ = some (.int .i64 m.h.r) ∧ w'.cell? ⟨Q1, 3, none⟩ = some (.int .i64 m.h.a) ∧ w'.cell? ⟨Q1, 4, none⟩ = some (.int .i64 m.h.b) ∧ w'.cell? ⟨Q1, 5, none⟩ = some (.int .i64 m.r.n) ∧ w'.cell? ⟨Q1, 6, none⟩ = some (.int .i64 m.r.d) ∧ w'.cell? ⟨Q1, 7, none⟩ = some (.int .i64 m.r.o) ∧ w'.cell? ⟨Q1, 8, none⟩ = some (.int .i64 m.c) ∧ w'.cell? ⟨Q2, 0, none⟩ = some (.int .i64 m.h.n) ∧ w'.cell? ⟨Q2, 1, none⟩ = some (.int .i64 m.h.l) ∧ w'.cell? ⟨Q2, 2, none⟩ = some (.int .i64 m.h.r) ∧ w'.cell? ⟨Q2, 3, none⟩ = some (.int .i64 m.h.a) ∧ w'.cell? ⟨Q2, 4, none⟩ = some (.int .i64 m.h.b) ∧ w'.cell? ⟨Q2, 5, none⟩ = some (.int .i64 m.r.n) ∧ w'.cell? ⟨Q2, 6, none⟩ = some (.int .i64 m.r.d) ∧ w'.cell? ⟨Q2, 7, none⟩ = some (.int .i64 m.r.o) ∧ w'.cell? ⟨Q2, 8, none⟩ = some (.int .i64 m.c) ∧ w'.cell? ⟨Q4, 0, none⟩ = some (.int .i64 k.n) ∧ w'.cell? ⟨Q4, 1, none⟩ = some (.int .i64 k.l) ∧ w'.cell? ⟨Q4, 2, none⟩ = some (.int .i64 k.r) ∧ w'.cell? ⟨Q4, 3, none⟩ = some (.int .i64 k.a) ∧ w'.cell? ⟨Q4, 4, none⟩ = some (.int .i64 k.b) ∧ w'.cell? ⟨Q5, 0, none⟩ = some (.int .i64 k.n) ∧ w'.cell? ⟨Q5, 1, none⟩ = some (.int .i64 k.l) ∧ w'.cell? ⟨Q5, 2, none⟩ = some (.int .i64 k.r) ∧ w'.cell? ⟨Q5, 3, none⟩ = some (.int .i64 k.a) ∧ w'.cell? ⟨Q5, 4, none⟩ = some (.int .i64 k.b) ∧ w'.cell? ⟨Q6, 0, none⟩ = some (.int .i64 r.n) ∧ w'.cell? ⟨Q6, 1, none⟩ = some (.int .i64 r.d) ∧ w'.cell? ⟨Q6, 2, none⟩ = some (.int .i64 r.o))
        (first | with_reducible exact C.out.cells | with_reducible exact C.out.drew.cells)
        (first | (go_at_call 24; refine (HR1.out _).mono ?_; rintro _ V1 ⟨rfl, b1⟩; (first | have C := Go.Lib.hid (C.out.next b1) | have C := Go.Lib.hid (C.out.drew.next b1))) | (go_at_call 25; refine (HR2.out _).mono ?_; rintro _ V2 ⟨rfl, b1⟩; (first | have C := Go.Lib.hid (C.out.next b1) | have C := Go.Lib.hid (C.out.drew.next b1))) | (go_at_call 26; refine (HIW.out _).mono ?_; rintro _ V3 ⟨rfl, b1⟩; (first | have C := Go.Lib.hid (C.out.next b1) | have C := Go.Lib.hid (C.out.drew.next b1))))
      obtain ⟨K90_0, K90_1, K90_2, K90_3, K90_4, K90_5, K90_6, B90⟩ := C.out
      clear C
      cases hh : hubB y
      · have hv : mirrHA y = (zeroH, 1) := by unfold mirrHA; rw [hh]; rfl
        have hf : f = 1 := by have := HK.out; rw [hv] at this; injection this with _ h2; exact h2.symm
        subst hf
        clear hv hh HK
        go_wp2_with fail
        go_ret
        exact ⟨rfl, B90⟩
      · have hv : mirrHA y = (mirrH y, 0) := by unfold mirrHA; rw [hh]; rfl
        have hf : f = 0 ∧ k = mirrH y := by have := HK.out; rw [hv] at this; injection this with h1 h2; exact ⟨h2.symm, h1.symm⟩
        obtain ⟨rfl, hkk⟩ := hf
        have hv2 : mirrHA k = (y, 0) := by rw [hkk]; unfold mirrHA; rw [hubB_mirr, hh]; rfl
        have HH2 := Go.Lib.hid (fun w0 => implMirrorHub k w0)
        rw [hv2] at HH2
        clear hv hh HK hkk hv2
        have k90_4_0 := K90_4.at_ 0 _ rfl
        have k90_4_1 := K90_4.at_ 1 _ rfl
        have k90_4_2 := K90_4.at_ 2 _ rfl
        have k90_4_3 := K90_4.at_ 3 _ rfl
        have k90_4_4 := K90_4.at_ 4 _ rfl
        have k90_4_f := K90_4.fr
        have k90_4_l := K90_4.lt
        go_wp2_with fail
        refine (HH2.out _).mono ?_
        rintro _ W91 ⟨rfl, b91⟩
        have K91_0 := K90_0.below b91
        have K91_1 := K90_1.below b91
        have K91_2 := K90_2.below b91
        have K91_3 := K90_3.below b91
        have K91_4 := K90_4.below b91
        have K91_5 := K90_5.below b91
        have K91_6 := K90_6.below b91
        clear k90_4_0 k90_4_1 k90_4_2 k90_4_3 k90_4_4 k90_4_f k90_4_l
        have B91 := upB B90 b91
        clear b91 K90_0 K90_1 K90_2 K90_3 K90_4 K90_5 K90_6 B90
        go_upto_region 19 with fail
        refine wp_gen (R := fun w' => Box w' Q0 [.int .i64 x.h.n, .int .i64 x.h.l, .int .i64 x.h.r, .int .i64 x.h.a, .int .i64 x.h.b, .int .i64 x.r.n, .int .i64 x.r.d, .int .i64 x.r.o, .int .i64 x.c] ∧ Box w' Q1 [.int .i64 m.h.n, .int .i64 m.h.l, .int .i64 m.h.r, .int .i64 m.h.a, .int .i64 m.h.b, .int .i64 m.r.n, .int .i64 m.r.d, .int .i64 m.r.o, .int .i64 m.c] ∧ Box w' Q2 [.int .i64 m.h.n, .int .i64 m.h.l, .int .i64 m.h.r, .int .i64 m.h.a, .int .i64 m.h.b, .int .i64 m.r.n, .int .i64 m.r.d, .int .i64 m.r.o, .int .i64 m.c] ∧ Box w' Q3 [.int .i64 y.n, .int .i64 y.l, .int .i64 y.r, .int .i64 y.a, .int .i64 y.b] ∧ Box w' Q4 [.int .i64 k.n, .int .i64 k.l, .int .i64 k.r, .int .i64 k.a, .int .i64 k.b] ∧ Box w' Q5 [.int .i64 k.n, .int .i64 k.l, .int .i64 k.r, .int .i64 k.a, .int .i64 k.b] ∧ Box w' Q6 [.int .i64 r.n, .int .i64 r.d, .int .i64 r.o] ∧ Box w' W91.heap.size [.int .i64 y.n, .int .i64 y.l, .int .i64 y.r, .int .i64 y.a, .int .i64 y.b] ∧ Below w.heap.size w w') ⟨K91_0.alloc _, K91_1.alloc _, K91_2.alloc _, K91_3.alloc _, K91_4.alloc _, K91_5.alloc _, K91_6.alloc _, Box.new rfl rfl, B91.alloc B91.size _⟩ ?_
        rintro W92 ⟨K92_0, K92_1, K92_2, K92_3, K92_4, K92_5, K92_6, K92_7, B92⟩
        clear K91_0 K91_1 K91_2 K91_3 K91_4 K91_5 K91_6 B91
        have k92_3_0 := K92_3.at_ 0 _ rfl
        have k92_3_1 := K92_3.at_ 1 _ rfl
        have k92_3_2 := K92_3.at_ 2 _ rfl
        have k92_3_3 := K92_3.at_ 3 _ rfl
        have k92_3_4 := K92_3.at_ 4 _ rfl
        have k92_3_f := K92_3.fr
        have k92_3_l := K92_3.lt
        have k92_7_0 := K92_7.at_ 0 _ rfl
        have k92_7_1 := K92_7.at_ 1 _ rfl
        have k92_7_2 := K92_7.at_ 2 _ rfl
        have k92_7_3 := K92_7.at_ 3 _ rfl
        have k92_7_4 := K92_7.at_ 4 _ rfl
        have k92_7_f := K92_7.fr
        have k92_7_l := K92_7.lt
        go_upto_region 21 with fail
        clear k92_3_0 k92_3_1 k92_3_2 k92_3_3 k92_3_4 k92_3_f k92_3_l k92_7_0 k92_7_1 k92_7_2 k92_7_3 k92_7_4 k92_7_f k92_7_l
        go_wp2_with fail
        go_ret
        exact ⟨rfl, B92⟩
    · rw [hb] at HIW
      have hv : mirrWA x = (mirrW x, 0) := by unfold mirrWA; rw [hb]; rfl
      have hc : c = 0 ∧ m = mirrW x := by have := HM.out; rw [hv] at this; injection this with h1 h2; exact ⟨h2.symm, h1.symm⟩
      obtain ⟨rfl, hmm⟩ := hc
      have hdv : dishA x = (dish x, 0) := by unfold dishA; rw [hb]; rfl
      have hde : e = 0 ∧ d = dish x := by have := HDV.out; rw [hdv] at this; injection this with h1 h2; exact ⟨h2.symm, h1.symm⟩
      obtain ⟨rfl, hdd⟩ := hde
      have hdb := dish_bd hb
      rw [← hdd] at hdb
      obtain ⟨db0, db1⟩ := hdb
      have hv2 : mirrWA m = (x, 0) := by rw [hmm]; unfold mirrWA; rw [wheelB_mirr, hb, mirrW_two]; rfl
      have hv3 : pairI (dishA m) = .tuple #[.int .i64 (-d), .int .i64 0] := by rw [hmm]; unfold dishA; rw [wheelB_mirr, hb, dish_mirr, hdd]; rfl
      have HW2 := Go.Lib.hid (fun w0 => implMirrorWheel m w0)
      have HD2 := Go.Lib.hid (fun w0 => implDishOf m w0)
      rw [hv2] at HW2
      rw [hv3] at HD2
      clear hv hb HM HDV hmm hdv hdd hv2 hv3
      go_region_held3 (fun w' => w'.cell? ⟨Q0, 0, none⟩ = some (.int .i64 x.h.n) ∧ w'.cell? ⟨Q0, 1, none⟩ = some (.int .i64 x.h.l) ∧ w'.cell? ⟨Q0, 2, none⟩ = some (.int .i64 x.h.r) ∧ w'.cell? ⟨Q0, 3, none⟩ = some (.int .i64 x.h.a) ∧ w'.cell? ⟨Q0, 4, none⟩ = some (.int .i64 x.h.b) ∧ w'.cell? ⟨Q0, 5, none⟩ = some (.int .i64 x.r.n) ∧ w'.cell? ⟨Q0, 6, none⟩ = some (.int .i64 x.r.d) ∧ w'.cell? ⟨Q0, 7, none⟩ = some (.int .i64 x.r.o) ∧ w'.cell? ⟨Q0, 8, none⟩ = some (.int .i64 x.c) ∧ w'.cell? ⟨Q1, 0, none⟩ = some (.int .i64 m.h.n) ∧ w'.cell? ⟨Q1, 1, none⟩ = some (.int .i64 m.h.l) ∧ w'.cell? ⟨Q1, 2, none⟩ = some (.int .i64 m.h.r) ∧ w'.cell? ⟨Q1, 3, none⟩ = some (.int .i64 m.h.a) ∧ w'.cell? ⟨Q1, 4, none⟩ = some (.int .i64 m.h.b) ∧ w'.cell? ⟨Q1, 5, none⟩ = some (.int .i64 m.r.n) ∧ w'.cell? ⟨Q1, 6, none⟩ = some (.int .i64 m.r.d) ∧ w'.cell? ⟨Q1, 7, none⟩ = some (.int .i64 m.r.o) ∧ w'.cell? ⟨Q1, 8, none⟩ = some (.int .i64 m.c) ∧ w'.cell? ⟨Q2, 0, none⟩ = some (.int .i64 m.h.n) ∧ w'.cell? ⟨Q2, 1, none⟩ = some (.int .i64 m.h.l) ∧ w'.cell? ⟨Q2, 2, none⟩ = some (.int .i64 m.h.r) ∧ w'.cell? ⟨Q2, 3, none⟩ = some (.int .i64 m.h.a) ∧ w'.cell? ⟨Q2, 4, none⟩ = some (.int .i64 m.h.b) ∧ w'.cell? ⟨Q2, 5, none⟩ = some (.int .i64 m.r.n) ∧ w'.cell? ⟨Q2, 6, none⟩ = some (.int .i64 m.r.d) ∧ w'.cell? ⟨Q2, 7, none⟩ = some (.int .i64 m.r.o) ∧ w'.cell? ⟨Q2, 8, none⟩ = some (.int .i64 m.c) ∧ w'.cell? ⟨Q4, 0, none⟩ = some (.int .i64 k.n) ∧ w'.cell? ⟨Q4, 1, none⟩ = some (.int .i64 k.l) ∧ w'.cell? ⟨Q4, 2, none⟩ = some (.int .i64 k.r) ∧ w'.cell? ⟨Q4, 3, none⟩ = some (.int .i64 k.a) ∧ w'.cell? ⟨Q4, 4, none⟩ = some (.int .i64 k.b) ∧ w'.cell? ⟨Q5, 0, none⟩ = some (.int .i64 k.n) ∧ w'.cell? ⟨Q5, 1, none⟩ = some (.int .i64 k.l) ∧ w'.cell? ⟨Q5, 2, none⟩ = some (.int .i64 k.r) ∧ w'.cell? ⟨Q5, 3, none⟩ = some (.int .i64 k.a) ∧ w'.cell? ⟨Q5, 4, none⟩ = some (.int .i64 k.b) ∧ w'.cell? ⟨Q6, 0, none⟩ = some (.int .i64 r.n) ∧ w'.cell? ⟨Q6, 1, none⟩ = some (.int .i64 r.d) ∧ w'.cell? ⟨Q6, 2, none⟩ = some (.int .i64 r.o))
        (first | with_reducible exact C.out.cells | with_reducible exact C.out.drew.cells)
        (first | (go_at_call 24; refine (HR1.out _).mono ?_; rintro _ V1 ⟨rfl, b1⟩; (first | have C := Go.Lib.hid (C.out.next b1) | have C := Go.Lib.hid (C.out.drew.next b1))) | (go_at_call 25; refine (HR2.out _).mono ?_; rintro _ V2 ⟨rfl, b1⟩; (first | have C := Go.Lib.hid (C.out.next b1) | have C := Go.Lib.hid (C.out.drew.next b1))) | (go_at_call 26; refine (HIW.out _).mono ?_; rintro _ V3 ⟨rfl, b1⟩; (first | have C := Go.Lib.hid (C.out.next b1) | have C := Go.Lib.hid (C.out.drew.next b1))))
      obtain ⟨K90_0, K90_1, K90_2, K90_3, K90_4, K90_5, K90_6, B90⟩ := C.out
      clear C
      cases hh : hubB y
      · have hv : mirrHA y = (zeroH, 1) := by unfold mirrHA; rw [hh]; rfl
        have hf : f = 1 := by have := HK.out; rw [hv] at this; injection this with _ h2; exact h2.symm
        subst hf
        clear hv hh HK
        have k90_1_0 := K90_1.at_ 0 _ rfl
        have k90_1_1 := K90_1.at_ 1 _ rfl
        have k90_1_2 := K90_1.at_ 2 _ rfl
        have k90_1_3 := K90_1.at_ 3 _ rfl
        have k90_1_4 := K90_1.at_ 4 _ rfl
        have k90_1_5 := K90_1.at_ 5 _ rfl
        have k90_1_6 := K90_1.at_ 6 _ rfl
        have k90_1_7 := K90_1.at_ 7 _ rfl
        have k90_1_8 := K90_1.at_ 8 _ rfl
        have k90_1_f := K90_1.fr
        have k90_1_l := K90_1.lt
        go_wp2_with fail
        refine (HW2.out _).mono ?_
        rintro _ W91 ⟨rfl, b91⟩
        have K91_0 := K90_0.below b91
        have K91_1 := K90_1.below b91
        have K91_2 := K90_2.below b91
        have K91_3 := K90_3.below b91
        have K91_4 := K90_4.below b91
        have K91_5 := K90_5.below b91
        have K91_6 := K90_6.below b91
        clear k90_1_0 k90_1_1 k90_1_2 k90_1_3 k90_1_4 k90_1_5 k90_1_6 k90_1_7 k90_1_8 k90_1_f k90_1_l
        have B91 := upB B90 b91
        clear b91 K90_0 K90_1 K90_2 K90_3 K90_4 K90_5 K90_6 B90
        go_upto_region 24 with fail
        refine wp_gen (R := fun w' => Box w' Q0 [.int .i64 x.h.n, .int .i64 x.h.l, .int .i64 x.h.r, .int .i64 x.h.a, .int .i64 x.h.b, .int .i64 x.r.n, .int .i64 x.r.d, .int .i64 x.r.o, .int .i64 x.c] ∧ Box w' Q1 [.int .i64 m.h.n, .int .i64 m.h.l, .int .i64 m.h.r, .int .i64 m.h.a, .int .i64 m.h.b, .int .i64 m.r.n, .int .i64 m.r.d, .int .i64 m.r.o, .int .i64 m.c] ∧ Box w' Q2 [.int .i64 m.h.n, .int .i64 m.h.l, .int .i64 m.h.r, .int .i64 m.h.a, .int .i64 m.h.b, .int .i64 m.r.n, .int .i64 m.r.d, .int .i64 m.r.o, .int .i64 m.c] ∧ Box w' Q3 [.int .i64 y.n, .int .i64 y.l, .int .i64 y.r, .int .i64 y.a, .int .i64 y.b] ∧ Box w' Q4 [.int .i64 k.n, .int .i64 k.l, .int .i64 k.r, .int .i64 k.a, .int .i64 k.b] ∧ Box w' Q5 [.int .i64 k.n, .int .i64 k.l, .int .i64 k.r, .int .i64 k.a, .int .i64 k.b] ∧ Box w' Q6 [.int .i64 r.n, .int .i64 r.d, .int .i64 r.o] ∧ Box w' W91.heap.size [.int .i64 x.h.n, .int .i64 x.h.l, .int .i64 x.h.r, .int .i64 x.h.a, .int .i64 x.h.b, .int .i64 x.r.n, .int .i64 x.r.d, .int .i64 x.r.o, .int .i64 x.c] ∧ Below w.heap.size w w') ⟨K91_0.alloc _, K91_1.alloc _, K91_2.alloc _, K91_3.alloc _, K91_4.alloc _, K91_5.alloc _, K91_6.alloc _, Box.new rfl rfl, B91.alloc B91.size _⟩ ?_
        rintro W92 ⟨K92_0, K92_1, K92_2, K92_3, K92_4, K92_5, K92_6, K92_7, B92⟩
        clear K91_0 K91_1 K91_2 K91_3 K91_4 K91_5 K91_6 B91
        have k92_1_0 := K92_1.at_ 0 _ rfl
        have k92_1_1 := K92_1.at_ 1 _ rfl
        have k92_1_2 := K92_1.at_ 2 _ rfl
        have k92_1_3 := K92_1.at_ 3 _ rfl
        have k92_1_4 := K92_1.at_ 4 _ rfl
        have k92_1_5 := K92_1.at_ 5 _ rfl
        have k92_1_6 := K92_1.at_ 6 _ rfl
        have k92_1_7 := K92_1.at_ 7 _ rfl
        have k92_1_8 := K92_1.at_ 8 _ rfl
        have k92_1_f := K92_1.fr
        have k92_1_l := K92_1.lt
        go_wp2_with fail
        refine (HD2.out _).mono ?_
        rintro _ W93 ⟨rfl, b93⟩
        have K93_0 := K92_0.below b93
        have K93_1 := K92_1.below b93
        have K93_2 := K92_2.below b93
        have K93_3 := K92_3.below b93
        have K93_4 := K92_4.below b93
        have K93_5 := K92_5.below b93
        have K93_6 := K92_6.below b93
        have K93_7 := K92_7.below b93
        clear k92_1_0 k92_1_1 k92_1_2 k92_1_3 k92_1_4 k92_1_5 k92_1_6 k92_1_7 k92_1_8 k92_1_f k92_1_l
        have B93 := upB B92 b93
        clear b93 K92_0 K92_1 K92_2 K92_3 K92_4 K92_5 K92_6 K92_7 B92
        have k93_0_0 := K93_0.at_ 0 _ rfl
        have k93_0_1 := K93_0.at_ 1 _ rfl
        have k93_0_2 := K93_0.at_ 2 _ rfl
        have k93_0_3 := K93_0.at_ 3 _ rfl
        have k93_0_4 := K93_0.at_ 4 _ rfl
        have k93_0_5 := K93_0.at_ 5 _ rfl
        have k93_0_6 := K93_0.at_ 6 _ rfl
        have k93_0_7 := K93_0.at_ 7 _ rfl
        have k93_0_8 := K93_0.at_ 8 _ rfl
        have k93_0_f := K93_0.fr
        have k93_0_l := K93_0.lt
        have k93_7_0 := K93_7.at_ 0 _ rfl
        have k93_7_1 := K93_7.at_ 1 _ rfl
        have k93_7_2 := K93_7.at_ 2 _ rfl
        have k93_7_3 := K93_7.at_ 3 _ rfl
        have k93_7_4 := K93_7.at_ 4 _ rfl
        have k93_7_5 := K93_7.at_ 5 _ rfl
        have k93_7_6 := K93_7.at_ 6 _ rfl
        have k93_7_7 := K93_7.at_ 7 _ rfl
        have k93_7_8 := K93_7.at_ 8 _ rfl
        have k93_7_f := K93_7.fr
        have k93_7_l := K93_7.lt
        go_wp2_with fail
        go_ret
        exact ⟨rfl, B93⟩
      · have hv : mirrHA y = (mirrH y, 0) := by unfold mirrHA; rw [hh]; rfl
        have hf : f = 0 ∧ k = mirrH y := by have := HK.out; rw [hv] at this; injection this with h1 h2; exact ⟨h2.symm, h1.symm⟩
        obtain ⟨rfl, hkk⟩ := hf
        have hv2 : mirrHA k = (y, 0) := by rw [hkk]; unfold mirrHA; rw [hubB_mirr, hh]; rfl
        have HH2 := Go.Lib.hid (fun w0 => implMirrorHub k w0)
        rw [hv2] at HH2
        clear hv hh HK hkk hv2
        have k90_4_0 := K90_4.at_ 0 _ rfl
        have k90_4_1 := K90_4.at_ 1 _ rfl
        have k90_4_2 := K90_4.at_ 2 _ rfl
        have k90_4_3 := K90_4.at_ 3 _ rfl
        have k90_4_4 := K90_4.at_ 4 _ rfl
        have k90_4_f := K90_4.fr
        have k90_4_l := K90_4.lt
        go_wp2_with fail
        refine (HH2.out _).mono ?_
        rintro _ W91 ⟨rfl, b91⟩
        have K91_0 := K90_0.below b91
        have K91_1 := K90_1.below b91
        have K91_2 := K90_2.below b91
        have K91_3 := K90_3.below b91
        have K91_4 := K90_4.below b91
        have K91_5 := K90_5.below b91
        have K91_6 := K90_6.below b91
        clear k90_4_0 k90_4_1 k90_4_2 k90_4_3 k90_4_4 k90_4_f k90_4_l
        have B91 := upB B90 b91
        clear b91 K90_0 K90_1 K90_2 K90_3 K90_4 K90_5 K90_6 B90
        go_upto_region 19 with fail
        refine wp_gen (R := fun w' => Box w' Q0 [.int .i64 x.h.n, .int .i64 x.h.l, .int .i64 x.h.r, .int .i64 x.h.a, .int .i64 x.h.b, .int .i64 x.r.n, .int .i64 x.r.d, .int .i64 x.r.o, .int .i64 x.c] ∧ Box w' Q1 [.int .i64 m.h.n, .int .i64 m.h.l, .int .i64 m.h.r, .int .i64 m.h.a, .int .i64 m.h.b, .int .i64 m.r.n, .int .i64 m.r.d, .int .i64 m.r.o, .int .i64 m.c] ∧ Box w' Q2 [.int .i64 m.h.n, .int .i64 m.h.l, .int .i64 m.h.r, .int .i64 m.h.a, .int .i64 m.h.b, .int .i64 m.r.n, .int .i64 m.r.d, .int .i64 m.r.o, .int .i64 m.c] ∧ Box w' Q3 [.int .i64 y.n, .int .i64 y.l, .int .i64 y.r, .int .i64 y.a, .int .i64 y.b] ∧ Box w' Q4 [.int .i64 k.n, .int .i64 k.l, .int .i64 k.r, .int .i64 k.a, .int .i64 k.b] ∧ Box w' Q5 [.int .i64 k.n, .int .i64 k.l, .int .i64 k.r, .int .i64 k.a, .int .i64 k.b] ∧ Box w' Q6 [.int .i64 r.n, .int .i64 r.d, .int .i64 r.o] ∧ Box w' W91.heap.size [.int .i64 y.n, .int .i64 y.l, .int .i64 y.r, .int .i64 y.a, .int .i64 y.b] ∧ Below w.heap.size w w') ⟨K91_0.alloc _, K91_1.alloc _, K91_2.alloc _, K91_3.alloc _, K91_4.alloc _, K91_5.alloc _, K91_6.alloc _, Box.new rfl rfl, B91.alloc B91.size _⟩ ?_
        rintro W92 ⟨K92_0, K92_1, K92_2, K92_3, K92_4, K92_5, K92_6, K92_7, B92⟩
        clear K91_0 K91_1 K91_2 K91_3 K91_4 K91_5 K91_6 B91
        have k92_3_0 := K92_3.at_ 0 _ rfl
        have k92_3_1 := K92_3.at_ 1 _ rfl
        have k92_3_2 := K92_3.at_ 2 _ rfl
        have k92_3_3 := K92_3.at_ 3 _ rfl
        have k92_3_4 := K92_3.at_ 4 _ rfl
        have k92_3_f := K92_3.fr
        have k92_3_l := K92_3.lt
        have k92_7_0 := K92_7.at_ 0 _ rfl
        have k92_7_1 := K92_7.at_ 1 _ rfl
        have k92_7_2 := K92_7.at_ 2 _ rfl
        have k92_7_3 := K92_7.at_ 3 _ rfl
        have k92_7_4 := K92_7.at_ 4 _ rfl
        have k92_7_f := K92_7.fr
        have k92_7_l := K92_7.lt
        go_upto_region 21 with fail
        clear k92_3_0 k92_3_1 k92_3_2 k92_3_3 k92_3_4 k92_3_f k92_3_l k92_7_0 k92_7_1 k92_7_2 k92_7_3 k92_7_4 k92_7_f k92_7_l
        have k92_1_0 := K92_1.at_ 0 _ rfl
        have k92_1_1 := K92_1.at_ 1 _ rfl
        have k92_1_2 := K92_1.at_ 2 _ rfl
        have k92_1_3 := K92_1.at_ 3 _ rfl
        have k92_1_4 := K92_1.at_ 4 _ rfl
        have k92_1_5 := K92_1.at_ 5 _ rfl
        have k92_1_6 := K92_1.at_ 6 _ rfl
        have k92_1_7 := K92_1.at_ 7 _ rfl
        have k92_1_8 := K92_1.at_ 8 _ rfl
        have k92_1_f := K92_1.fr
        have k92_1_l := K92_1.lt
        go_wp2_with fail
        refine (HW2.out _).mono ?_
        rintro _ W93 ⟨rfl, b93⟩
        have K93_0 := K92_0.below b93
        have K93_1 := K92_1.below b93
        have K93_2 := K92_2.below b93
        have K93_3 := K92_3.below b93
        have K93_4 := K92_4.below b93
        have K93_5 := K92_5.below b93
        have K93_6 := K92_6.below b93
        have K93_7 := K92_7.below b93
        clear k92_1_0 k92_1_1 k92_1_2 k92_1_3 k92_1_4 k92_1_5 k92_1_6 k92_1_7 k92_1_8 k92_1_f k92_1_l
        have B93 := upB B92 b93
        clear b93 K92_0 K92_1 K92_2 K92_3 K92_4 K92_5 K92_6 K92_7 B92
        go_upto_region 24 with fail
        refine wp_gen (R := fun w' => Box w' Q0 [.int .i64 x.h.n, .int .i64 x.h.l, .int .i64 x.h.r, .int .i64 x.h.a, .int .i64 x.h.b, .int .i64 x.r.n, .int .i64 x.r.d, .int .i64 x.r.o, .int .i64 x.c] ∧ Box w' Q1 [.int .i64 m.h.n, .int .i64 m.h.l, .int .i64 m.h.r, .int .i64 m.h.a, .int .i64 m.h.b, .int .i64 m.r.n, .int .i64 m.r.d, .int .i64 m.r.o, .int .i64 m.c] ∧ Box w' Q2 [.int .i64 m.h.n, .int .i64 m.h.l, .int .i64 m.h.r, .int .i64 m.h.a, .int .i64 m.h.b, .int .i64 m.r.n, .int .i64 m.r.d, .int .i64 m.r.o, .int .i64 m.c] ∧ Box w' Q3 [.int .i64 y.n, .int .i64 y.l, .int .i64 y.r, .int .i64 y.a, .int .i64 y.b] ∧ Box w' Q4 [.int .i64 k.n, .int .i64 k.l, .int .i64 k.r, .int .i64 k.a, .int .i64 k.b] ∧ Box w' Q5 [.int .i64 k.n, .int .i64 k.l, .int .i64 k.r, .int .i64 k.a, .int .i64 k.b] ∧ Box w' Q6 [.int .i64 r.n, .int .i64 r.d, .int .i64 r.o] ∧ Box w' W91.heap.size [.int .i64 y.n, .int .i64 y.l, .int .i64 y.r, .int .i64 y.a, .int .i64 y.b] ∧ Box w' W93.heap.size [.int .i64 x.h.n, .int .i64 x.h.l, .int .i64 x.h.r, .int .i64 x.h.a, .int .i64 x.h.b, .int .i64 x.r.n, .int .i64 x.r.d, .int .i64 x.r.o, .int .i64 x.c] ∧ Below w.heap.size w w') ⟨K93_0.alloc _, K93_1.alloc _, K93_2.alloc _, K93_3.alloc _, K93_4.alloc _, K93_5.alloc _, K93_6.alloc _, K93_7.alloc _, Box.new rfl rfl, B93.alloc B93.size _⟩ ?_
        rintro W94 ⟨K94_0, K94_1, K94_2, K94_3, K94_4, K94_5, K94_6, K94_7, K94_8, B94⟩
        clear K93_0 K93_1 K93_2 K93_3 K93_4 K93_5 K93_6 K93_7 B93
        have k94_1_0 := K94_1.at_ 0 _ rfl
        have k94_1_1 := K94_1.at_ 1 _ rfl
        have k94_1_2 := K94_1.at_ 2 _ rfl
        have k94_1_3 := K94_1.at_ 3 _ rfl
        have k94_1_4 := K94_1.at_ 4 _ rfl
        have k94_1_5 := K94_1.at_ 5 _ rfl
        have k94_1_6 := K94_1.at_ 6 _ rfl
        have k94_1_7 := K94_1.at_ 7 _ rfl
        have k94_1_8 := K94_1.at_ 8 _ rfl
        have k94_1_f := K94_1.fr
        have k94_1_l := K94_1.lt
        go_wp2_with fail
        refine (HD2.out _).mono ?_
        rintro _ W95 ⟨rfl, b95⟩
        have K95_0 := K94_0.below b95
        have K95_1 := K94_1.below b95
        have K95_2 := K94_2.below b95
        have K95_3 := K94_3.below b95
        have K95_4 := K94_4.below b95
        have K95_5 := K94_5.below b95
        have K95_6 := K94_6.below b95
        have K95_7 := K94_7.below b95
        have K95_8 := K94_8.below b95
        clear k94_1_0 k94_1_1 k94_1_2 k94_1_3 k94_1_4 k94_1_5 k94_1_6 k94_1_7 k94_1_8 k94_1_f k94_1_l
        have B95 := upB B94 b95
        clear b95 K94_0 K94_1 K94_2 K94_3 K94_4 K94_5 K94_6 K94_7 K94_8 B94
        have k95_0_0 := K95_0.at_ 0 _ rfl
        have k95_0_1 := K95_0.at_ 1 _ rfl
        have k95_0_2 := K95_0.at_ 2 _ rfl
        have k95_0_3 := K95_0.at_ 3 _ rfl
        have k95_0_4 := K95_0.at_ 4 _ rfl
        have k95_0_5 := K95_0.at_ 5 _ rfl
        have k95_0_6 := K95_0.at_ 6 _ rfl
        have k95_0_7 := K95_0.at_ 7 _ rfl
        have k95_0_8 := K95_0.at_ 8 _ rfl
        have k95_0_f := K95_0.fr
        have k95_0_l := K95_0.lt
        have k95_8_0 := K95_8.at_ 0 _ rfl
        have k95_8_1 := K95_8.at_ 1 _ rfl
        have k95_8_2 := K95_8.at_ 2 _ rfl
        have k95_8_3 := K95_8.at_ 3 _ rfl
        have k95_8_4 := K95_8.at_ 4 _ rfl
        have k95_8_5 := K95_8.at_ 5 _ rfl
        have k95_8_6 := K95_8.at_ 6 _ rfl
        have k95_8_7 := K95_8.at_ 7 _ rfl
        have k95_8_8 := K95_8.at_ 8 _ rfl
        have k95_8_f := K95_8.fr
        have k95_8_l := K95_8.lt
        go_wp2_with fail
        go_ret
        exact ⟨rfl, B95⟩

set_option maxRecDepth 100000 in
theorem lifted (os : Os) (started : os.Started) (H : Type) (enc : TypeId × Value → H) :
    ReturnsInHanded {} Try.checked os 3 .any (Rows.fnMirrorsSpec.pre6 enc Try.prog Try.f3 Rows.fnMirrorsRow.domain false) (Rows.fnMirrorsSpec.post enc Try.prog Try.f3 false true false false) := by
  refine returnsInHanded_of_change_sized (C := Try.checked) own started (by kernel_rfl) Try.func3
    (ChangeSpec.witness6 (enc := enc) (C := Try.checked) false ⟨#[], #[.slice none 0 0], []⟩ 8 (by kernel_rfl) (by kernel_rfl) (by kernel_rfl) (by kernel_rfl)) ?_
  intro W base args ds gs before hval0 hW hcnd hsz0 _
  have hsz : (DataW.weightsEach Try.prog (Try.f3.params.toList ++ Rows.fnMirrorsSpec.plain.varTypes Try.prog) (ds ++ gs)).all (· ≤ reachBytes) = true := hsz0
  clear hsz0
  have hval : ∀ (j : Nat) t v, Try.f3.params[j]? = some t → args[j]? = some v → Value.okWide Try.prog W .any base t v := hval0
  clear hval0
  have hW' := hW
  obtain ⟨p, q, hA0, hV, rfl, hfz, hnd⟩ := hW
  have hA : DataW.TrodAll enc Try.prog W 0 (fun _ => true) true Try.f3.params.toList args.toList ds p := hA0
  rw [Try.params3] at hA hval hsz
  obtain ⟨v0, vs0, d0, ds0, p0, q0, hargs, rfl, rfl, h0, r0⟩ := trodAll_cons hA
  obtain ⟨rfl, rfl, rfl⟩ := trodAll_nil r0
  obtain rfl : args = #[v0] := by cases args; simp_all
  obtain ⟨rfl, rfl⟩ := trodVars_none hV
  obtain ⟨a0, len0, cap0, rfl⟩ := okWide_slice Try.underlying22 (hval 0 22 v0 rfl rfl)
  have k0 := h0
  have lt0 : ∀ x ∈ p0, x.block < W.heap.size := by obtain ⟨m, hm⟩ := k0; exact DataW.trod_lt m _ _ _ hm
  obtain ⟨⟨z0, rd0, sz0⟩, hlc0, hp0⟩ := open_list_bytes h0
  have reach0 : len0 * 1 ≤ 140737488351232 := by
    rcases hp0 with hp0 | ⟨E0, S0, rfl, hl0⟩
    · omega
    · have := sized_slice hsz (j := 0) (t := 22) (e := 5) rfl rfl Try.underlying22
      rw [show Try.prog.bytesOf 5 = 1 by kernel_rfl] at this
      simp only [reachBytes] at this
      omega
  clear hA0
  refine (walk a0 len0 cap0 z0 W rd0 reach0 sz0).mono fun e W' ⟨he, bel⟩ => ?_
  subst he
  exact ⟨_, rfl, _, _, _, [], _, [], hW', trodAll_mk1 (shut_bool Try.underlying4 _), (trodAll_cons_mk (Below.trod laidOut (by kernel_rfl) (of_decide_eq_true (by kernel_rfl)) k0 bel lt0) trodAll_mk0), rfl, bel.frame _, fun h => by cases h⟩

theorem over : Rows.fnMirrorsRow.holds Try.pinned (OpenSpec.ofChange Rows.fnMirrorsSpec) :=
  OpenClaim.holds_of_wide 3 Try.f3 rfl rfl rfl rfl rfl rfl rfl ⟨rfl, rfl, rfl, rfl, rfl⟩ rfl rfl rfl rfl rfl (by kernel_rfl) Try.func3 (by kernel_rfl)
    (of_decide_eq_true (by kernel_rfl)) (by unfold Func.isWrapper; first | (rw [if_pos (by decide +kernel)]; kernel_rfl) | (rw [if_neg (by decide +kernel)]; exact ⟨rfl, rfl⟩))
    (fun os started H enc _ => lifted os started H enc)

theorem proved : Rows.FnMirrorsSaid := over
end Go.Proofs.Ytcphhcnomaociab.fnMirrors
