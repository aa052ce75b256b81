/- The laws' helpers on wheels. -/
import Derived.Test.YtifblmcocikopabLawHub
import Derived.Test.YtifblmcocikopabBox
namespace Go.Proofs.Ytifblmcocikopab
open Go.RowKit

set_option maxRecDepth 100000 in
set_option maxHeartbeats 4000000 in
theorem law_toWheel (a : Wh) (w : World) : Calls Try.prog 21 #[wheelV a] w (IsV w (wheelV a)) := by
  have HH := Go.Lib.hid (fun w0 => law_toHub a.h w0)
  have HR := Go.Lib.hid (fun w0 => law_toRim a.r w0)
  go_enter Try.func21, Try.ntmps21
  go_wp2_with fail
  refine calls_gen (R := fun w' => Box w' w.heap.size [.int .i64 a.h.n, .int .i64 a.h.l, .int .i64 a.h.r, .int .i64 a.h.a, .int .i64 a.h.b, .int .i64 a.r.n, .int .i64 a.r.d, .int .i64 a.r.o, .int .i64 a.c] ∧ Box w' (w.heap.size + 1) [.int .i64 0, .int .i64 0, .int .i64 0, .int .i64 0, .int .i64 0, .int .i64 0, .int .i64 0, .int .i64 0, .int .i64 0] ∧ Box w' (w.heap.size + 1 + 1) [.int .i64 0, .int .i64 0, .int .i64 0, .int .i64 0, .int .i64 0, .int .i64 0, .int .i64 0, .int .i64 0, .int .i64 0] ∧ Below w.heap.size w w') ⟨Box.alloc (Box.alloc (Box.new rfl rfl) _) _, Box.alloc (Box.new (by simp) rfl) _, Box.new (by simp) rfl, by go_grown⟩ ?_
  rintro W1 ⟨K1_0, K1_1, K1_2, B1⟩
  refine (HH.out _).mono ?_
  rintro _ W2 ⟨rfl, b2⟩
  have K2_0 := K1_0.below b2
  have K2_1 := K1_1.below b2
  have K2_2 := K1_2.below b2
  have B2 := upB B1 b2
  clear b2 K1_0 K1_1 K1_2 B1
  have k2_0_0 := K2_0.at_ 0 _ rfl
  have k2_0_1 := K2_0.at_ 1 _ rfl
  have k2_0_2 := K2_0.at_ 2 _ rfl
  have k2_0_3 := K2_0.at_ 3 _ rfl
  have k2_0_4 := K2_0.at_ 4 _ rfl
  have k2_0_5 := K2_0.at_ 5 _ rfl
  have k2_0_6 := K2_0.at_ 6 _ rfl
  have k2_0_7 := K2_0.at_ 7 _ rfl
  have k2_0_8 := K2_0.at_ 8 _ rfl
  have k2_0_f := K2_0.fr
  have k2_0_l := K2_0.lt
  have k2_1_0 := K2_1.at_ 0 _ rfl
  have k2_1_1 := K2_1.at_ 1 _ rfl
  have k2_1_2 := K2_1.at_ 2 _ rfl
  have k2_1_3 := K2_1.at_ 3 _ rfl
  have k2_1_4 := K2_1.at_ 4 _ rfl
  have k2_1_5 := K2_1.at_ 5 _ rfl
  have k2_1_6 := K2_1.at_ 6 _ rfl
  have k2_1_7 := K2_1.at_ 7 _ rfl
  have k2_1_8 := K2_1.at_ 8 _ rfl
  have k2_1_f := K2_1.fr
  have k2_1_l := K2_1.lt
  have k2_2_0 := K2_2.at_ 0 _ rfl
  have k2_2_1 := K2_2.at_ 1 _ rfl
  have k2_2_2 := K2_2.at_ 2 _ rfl
  have k2_2_3 := K2_2.at_ 3 _ rfl
  have k2_2_4 := K2_2.at_ 4 _ rfl
  have k2_2_5 := K2_2.at_ 5 _ rfl
  have k2_2_6 := K2_2.at_ 6 _ rfl
  have k2_2_7 := K2_2.at_ 7 _ rfl
  have k2_2_8 := K2_2.at_ 8 _ rfl
  have k2_2_f := K2_2.fr
  have k2_2_l := K2_2.lt
  go_upto_region 3 with fail
  refine wp_gen (R := fun w' => Box w' w.heap.size [.int .i64 a.h.n, .int .i64 a.h.l, .int .i64 a.h.r, .int .i64 a.h.a, .int .i64 a.h.b, .int .i64 a.r.n, .int .i64 a.r.d, .int .i64 a.r.o, .int .i64 a.c] ∧ Box w' (w.heap.size + 1) [.int .i64 0, .int .i64 0, .int .i64 0, .int .i64 0, .int .i64 0, .int .i64 0, .int .i64 0, .int .i64 0, .int .i64 0] ∧ Box w' (w.heap.size + 1 + 1) [.int .i64 a.h.n, .int .i64 a.h.l, .int .i64 a.h.r, .int .i64 a.h.a, .int .i64 a.h.b, .int .i64 0, .int .i64 0, .int .i64 0, .int .i64 0] ∧ Below w.heap.size w w') ⟨(((((K2_0.other (by simp <;> omega) _).other (by simp <;> omega) _).other (by simp <;> omega) _).other (by simp <;> omega) _).other (by simp <;> omega) _), (((((K2_1.other (by simp <;> omega) _).other (by simp <;> omega) _).other (by simp <;> omega) _).other (by simp <;> omega) _).other (by simp <;> omega) _), (((((K2_2.set _ (by simp)).set _ (by simp)).set _ (by simp)).set _ (by simp)).set _ (by simp)), by go_grown⟩ ?_
  clear k2_0_0 k2_0_1 k2_0_2 k2_0_3 k2_0_4 k2_0_5 k2_0_6 k2_0_7 k2_0_8 k2_0_f k2_0_l k2_1_0 k2_1_1 k2_1_2 k2_1_3 k2_1_4 k2_1_5 k2_1_6 k2_1_7 k2_1_8 k2_1_f k2_1_l k2_2_0 k2_2_1 k2_2_2 k2_2_3 k2_2_4 k2_2_5 k2_2_6 k2_2_7 k2_2_8 k2_2_f k2_2_l
  rintro W3 ⟨K3_0, K3_1, K3_2, B3⟩
  clear K2_0 K2_1 K2_2 B2
  have k3_0_0 := K3_0.at_ 0 _ rfl
  have k3_0_1 := K3_0.at_ 1 _ rfl
  have k3_0_2 := K3_0.at_ 2 _ rfl
  have k3_0_3 := K3_0.at_ 3 _ rfl
  have k3_0_4 := K3_0.at_ 4 _ rfl
  have k3_0_5 := K3_0.at_ 5 _ rfl
  have k3_0_6 := K3_0.at_ 6 _ rfl
  have k3_0_7 := K3_0.at_ 7 _ rfl
  have k3_0_8 := K3_0.at_ 8 _ rfl
  have k3_0_f := K3_0.fr
  have k3_0_l := K3_0.lt
  have k3_1_0 := K3_1.at_ 0 _ rfl
  have k3_1_1 := K3_1.at_ 1 _ rfl
  have k3_1_2 := K3_1.at_ 2 _ rfl
  have k3_1_3 := K3_1.at_ 3 _ rfl
  have k3_1_4 := K3_1.at_ 4 _ rfl
  have k3_1_5 := K3_1.at_ 5 _ rfl
  have k3_1_6 := K3_1.at_ 6 _ rfl
  have k3_1_7 := K3_1.at_ 7 _ rfl
  have k3_1_8 := K3_1.at_ 8 _ rfl
  have k3_1_f := K3_1.fr
  have k3_1_l := K3_1.lt
  have k3_2_0 := K3_2.at_ 0 _ rfl
  have k3_2_1 := K3_2.at_ 1 _ rfl
  have k3_2_2 := K3_2.at_ 2 _ rfl
  have k3_2_3 := K3_2.at_ 3 _ rfl
  have k3_2_4 := K3_2.at_ 4 _ rfl
  have k3_2_5 := K3_2.at_ 5 _ rfl
  have k3_2_6 := K3_2.at_ 6 _ rfl
  have k3_2_7 := K3_2.at_ 7 _ rfl
  have k3_2_8 := K3_2.at_ 8 _ rfl
  have k3_2_f := K3_2.fr
  have k3_2_l := K3_2.lt
  go_wp2_with fail
  refine (HR.out _).mono ?_
  rintro _ W4 ⟨rfl, b4⟩
  have K4_0 := K3_0.below b4
  have K4_1 := K3_1.below b4
  have K4_2 := K3_2.below b4
  clear k3_0_0 k3_0_1 k3_0_2 k3_0_3 k3_0_4 k3_0_5 k3_0_6 k3_0_7 k3_0_8 k3_0_f k3_0_l k3_1_0 k3_1_1 k3_1_2 k3_1_3 k3_1_4 k3_1_5 k3_1_6 k3_1_7 k3_1_8 k3_1_f k3_1_l k3_2_0 k3_2_1 k3_2_2 k3_2_3 k3_2_4 k3_2_5 k3_2_6 k3_2_7 k3_2_8 k3_2_f k3_2_l
  have B4 := upB B3 b4
  clear b4 K3_0 K3_1 K3_2 B3
  have k4_0_0 := K4_0.at_ 0 _ rfl
  have k4_0_1 := K4_0.at_ 1 _ rfl
  have k4_0_2 := K4_0.at_ 2 _ rfl
  have k4_0_3 := K4_0.at_ 3 _ rfl
  have k4_0_4 := K4_0.at_ 4 _ rfl
  have k4_0_5 := K4_0.at_ 5 _ rfl
  have k4_0_6 := K4_0.at_ 6 _ rfl
  have k4_0_7 := K4_0.at_ 7 _ rfl
  have k4_0_8 := K4_0.at_ 8 _ rfl
  have k4_0_f := K4_0.fr
  have k4_0_l := K4_0.lt
  have k4_1_0 := K4_1.at_ 0 _ rfl
  have k4_1_1 := K4_1.at_ 1 _ rfl
  have k4_1_2 := K4_1.at_ 2 _ rfl
  have k4_1_3 := K4_1.at_ 3 _ rfl
  have k4_1_4 := K4_1.at_ 4 _ rfl
  have k4_1_5 := K4_1.at_ 5 _ rfl
  have k4_1_6 := K4_1.at_ 6 _ rfl
  have k4_1_7 := K4_1.at_ 7 _ rfl
  have k4_1_8 := K4_1.at_ 8 _ rfl
  have k4_1_f := K4_1.fr
  have k4_1_l := K4_1.lt
  have k4_2_0 := K4_2.at_ 0 _ rfl
  have k4_2_1 := K4_2.at_ 1 _ rfl
  have k4_2_2 := K4_2.at_ 2 _ rfl
  have k4_2_3 := K4_2.at_ 3 _ rfl
  have k4_2_4 := K4_2.at_ 4 _ rfl
  have k4_2_5 := K4_2.at_ 5 _ rfl
  have k4_2_6 := K4_2.at_ 6 _ rfl
  have k4_2_7 := K4_2.at_ 7 _ rfl
  have k4_2_8 := K4_2.at_ 8 _ rfl
  have k4_2_f := K4_2.fr
  have k4_2_l := K4_2.lt
  go_upto_region 4 with fail
  refine wp_gen (R := fun w' => Box w' w.heap.size [.int .i64 a.h.n, .int .i64 a.h.l, .int .i64 a.h.r, .int .i64 a.h.a, .int .i64 a.h.b, .int .i64 a.r.n, .int .i64 a.r.d, .int .i64 a.r.o, .int .i64 a.c] ∧ Box w' (w.heap.size + 1) [.int .i64 0, .int .i64 0, .int .i64 0, .int .i64 0, .int .i64 0, .int .i64 0, .int .i64 0, .int .i64 0, .int .i64 0] ∧ Box w' (w.heap.size + 1 + 1) [.int .i64 a.h.n, .int .i64 a.h.l, .int .i64 a.h.r, .int .i64 a.h.a, .int .i64 a.h.b, .int .i64 a.r.n, .int .i64 a.r.d, .int .i64 a.r.o, .int .i64 0] ∧ Below w.heap.size w w') ⟨(((K4_0.other (by simp <;> omega) _).other (by simp <;> omega) _).other (by simp <;> omega) _), (((K4_1.other (by simp <;> omega) _).other (by simp <;> omega) _).other (by simp <;> omega) _), (((K4_2.set _ (by simp)).set _ (by simp)).set _ (by simp)), by go_grown⟩ ?_
  clear k4_0_0 k4_0_1 k4_0_2 k4_0_3 k4_0_4 k4_0_5 k4_0_6 k4_0_7 k4_0_8 k4_0_f k4_0_l k4_1_0 k4_1_1 k4_1_2 k4_1_3 k4_1_4 k4_1_5 k4_1_6 k4_1_7 k4_1_8 k4_1_f k4_1_l k4_2_0 k4_2_1 k4_2_2 k4_2_3 k4_2_4 k4_2_5 k4_2_6 k4_2_7 k4_2_8 k4_2_f k4_2_l
  rintro W5 ⟨K5_0, K5_1, K5_2, B5⟩
  clear K4_0 K4_1 K4_2 B4
  have k5_0_0 := K5_0.at_ 0 _ rfl
  have k5_0_1 := K5_0.at_ 1 _ rfl
  have k5_0_2 := K5_0.at_ 2 _ rfl
  have k5_0_3 := K5_0.at_ 3 _ rfl
  have k5_0_4 := K5_0.at_ 4 _ rfl
  have k5_0_5 := K5_0.at_ 5 _ rfl
  have k5_0_6 := K5_0.at_ 6 _ rfl
  have k5_0_7 := K5_0.at_ 7 _ rfl
  have k5_0_8 := K5_0.at_ 8 _ rfl
  have k5_0_f := K5_0.fr
  have k5_0_l := K5_0.lt
  have k5_1_0 := K5_1.at_ 0 _ rfl
  have k5_1_1 := K5_1.at_ 1 _ rfl
  have k5_1_2 := K5_1.at_ 2 _ rfl
  have k5_1_3 := K5_1.at_ 3 _ rfl
  have k5_1_4 := K5_1.at_ 4 _ rfl
  have k5_1_5 := K5_1.at_ 5 _ rfl
  have k5_1_6 := K5_1.at_ 6 _ rfl
  have k5_1_7 := K5_1.at_ 7 _ rfl
  have k5_1_8 := K5_1.at_ 8 _ rfl
  have k5_1_f := K5_1.fr
  have k5_1_l := K5_1.lt
  have k5_2_0 := K5_2.at_ 0 _ rfl
  have k5_2_1 := K5_2.at_ 1 _ rfl
  have k5_2_2 := K5_2.at_ 2 _ rfl
  have k5_2_3 := K5_2.at_ 3 _ rfl
  have k5_2_4 := K5_2.at_ 4 _ rfl
  have k5_2_5 := K5_2.at_ 5 _ rfl
  have k5_2_6 := K5_2.at_ 6 _ rfl
  have k5_2_7 := K5_2.at_ 7 _ rfl
  have k5_2_8 := K5_2.at_ 8 _ rfl
  have k5_2_f := K5_2.fr
  have k5_2_l := K5_2.lt
  go_upto_region 5 with fail
  refine wp_gen (R := fun w' => Box w' w.heap.size [.int .i64 a.h.n, .int .i64 a.h.l, .int .i64 a.h.r, .int .i64 a.h.a, .int .i64 a.h.b, .int .i64 a.r.n, .int .i64 a.r.d, .int .i64 a.r.o, .int .i64 a.c] ∧ Box w' (w.heap.size + 1) [.int .i64 0, .int .i64 0, .int .i64 0, .int .i64 0, .int .i64 0, .int .i64 0, .int .i64 0, .int .i64 0, .int .i64 0] ∧ Box w' (w.heap.size + 1 + 1) [.int .i64 a.h.n, .int .i64 a.h.l, .int .i64 a.h.r, .int .i64 a.h.a, .int .i64 a.h.b, .int .i64 a.r.n, .int .i64 a.r.d, .int .i64 a.r.o, .int .i64 a.c] ∧ Below w.heap.size w w') ⟨(K5_0.other (by simp <;> omega) _), (K5_1.other (by simp <;> omega) _), (K5_2.set _ (by simp)), by go_grown⟩ ?_
  clear k5_0_0 k5_0_1 k5_0_2 k5_0_3 k5_0_4 k5_0_5 k5_0_6 k5_0_7 k5_0_8 k5_0_f k5_0_l k5_1_0 k5_1_1 k5_1_2 k5_1_3 k5_1_4 k5_1_5 k5_1_6 k5_1_7 k5_1_8 k5_1_f k5_1_l k5_2_0 k5_2_1 k5_2_2 k5_2_3 k5_2_4 k5_2_5 k5_2_6 k5_2_7 k5_2_8 k5_2_f k5_2_l
  rintro W6 ⟨K6_0, K6_1, K6_2, B6⟩
  clear K5_0 K5_1 K5_2 B5
  have k6_0_0 := K6_0.at_ 0 _ rfl
  have k6_0_1 := K6_0.at_ 1 _ rfl
  have k6_0_2 := K6_0.at_ 2 _ rfl
  have k6_0_3 := K6_0.at_ 3 _ rfl
  have k6_0_4 := K6_0.at_ 4 _ rfl
  have k6_0_5 := K6_0.at_ 5 _ rfl
  have k6_0_6 := K6_0.at_ 6 _ rfl
  have k6_0_7 := K6_0.at_ 7 _ rfl
  have k6_0_8 := K6_0.at_ 8 _ rfl
  have k6_0_f := K6_0.fr
  have k6_0_l := K6_0.lt
  have k6_1_0 := K6_1.at_ 0 _ rfl
  have k6_1_1 := K6_1.at_ 1 _ rfl
  have k6_1_2 := K6_1.at_ 2 _ rfl
  have k6_1_3 := K6_1.at_ 3 _ rfl
  have k6_1_4 := K6_1.at_ 4 _ rfl
  have k6_1_5 := K6_1.at_ 5 _ rfl
  have k6_1_6 := K6_1.at_ 6 _ rfl
  have k6_1_7 := K6_1.at_ 7 _ rfl
  have k6_1_8 := K6_1.at_ 8 _ rfl
  have k6_1_f := K6_1.fr
  have k6_1_l := K6_1.lt
  have k6_2_0 := K6_2.at_ 0 _ rfl
  have k6_2_1 := K6_2.at_ 1 _ rfl
  have k6_2_2 := K6_2.at_ 2 _ rfl
  have k6_2_3 := K6_2.at_ 3 _ rfl
  have k6_2_4 := K6_2.at_ 4 _ rfl
  have k6_2_5 := K6_2.at_ 5 _ rfl
  have k6_2_6 := K6_2.at_ 6 _ rfl
  have k6_2_7 := K6_2.at_ 7 _ rfl
  have k6_2_8 := K6_2.at_ 8 _ rfl
  have k6_2_f := K6_2.fr
  have k6_2_l := K6_2.lt
  go_wp2_with fail
  refine bodyPost_ret (v := wheelV a) (by simp [results, Try.results21, go_sem, *]) rfl ⟨rfl, by go_grown⟩
end Go.Proofs.Ytifblmcocikopab
