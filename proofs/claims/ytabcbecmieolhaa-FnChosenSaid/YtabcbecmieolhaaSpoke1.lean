/- Contracts of the model's offs, squares, lengths and shares of spokes. -/
import Derived.Test.YtabcbecmieolhaaPlainSpoke2
import Derived.Test.YtabcbecmieolhaaCosSq
import Derived.Test.YtabcbecmieolhaaHubS2
import Derived.Test.YtabcbecmieolhaaWB
namespace Go.Proofs.Ytabcbecmieolhaa
open Go.RowKit

theorem specOff (x : Wh) (r : Bool) (w : World) (hx : wheelB x = true) : Calls Try.prog 77 #[wheelV x, .bool r] w (IsV w (.int .i64 (offI x r))) := by
  obtain ⟨⟨n0, n1, n2⟩, ⟨l0, l1⟩, ⟨r0, r1⟩, ⟨a0, a1⟩, ⟨b0, b1⟩, ⟨d0, d1⟩, ⟨o0, o1⟩, c0, c1⟩ := wheel_bd hx
  clear hx
  cases r
  · have HV : Hid (offI x false = x.h.a + x.r.o) := rfl
    go_enter Try.func77, Try.ntmps77
    go_wp2_with fail
    go_ret
    exact ⟨by rw [HV.out]; rfl, by go_grown⟩
  · have HV : Hid (offI x true = x.h.b - x.r.o) := rfl
    go_enter Try.func77, Try.ntmps77
    go_wp2_with fail
    go_ret
    exact ⟨by rw [HV.out]; rfl, by go_grown⟩
set_option maxRecDepth 100000 in
set_option maxHeartbeats 4000000 in
theorem specSq5 (x : Wh) (r : Bool) (w : World) (hx : wheelB x = true) : Calls Try.prog 54 #[wheelV x, .bool r] w (IsV w (.int .i64 (spSq x r))) := by
  have HO := Go.Lib.hid (fun r w0 => specOff x r w0 hx)
  have ho := offI_bd (r := r) hx
  have hs := stI_bd hx
  have hq := spSq_bd (r := r) hx
  have HV : Hid (spSq x r = sqI x.r.d (flI x r) (stI x) + 4 * offI x r * offI x r) := rfl
  have hst : stI x = 1440 * x.c / x.h.n := rfl
  obtain ⟨⟨n0, n1, n2⟩, ⟨l0, l1⟩, ⟨r0, r1⟩, ⟨a0, a1⟩, ⟨b0, b1⟩, ⟨d0, d1⟩, ⟨o0, o1⟩, c0, c1⟩ := wheel_bd hx
  have p4 := off_sq (x := offI x r) (by omega) (by omega)
  have hd : (1440 * x.c).tdiv x.h.n = stI x := by rw [hst]; exact Int.tdiv_eq_ediv_of_nonneg (by omega)
  have hne : (x.h.n == 0) = false := by simp; omega
  have hn0 : ¬ x.h.n = 0 := by omega
  have e0 : IntKind.i64.wrap (1440 * x.c) = 1440 * x.c := IntWalk.i64_in _ (by omega)
  have e1 : IntKind.i64.wrap (stI x) = stI x := IntWalk.i64_in _ (by omega)
  have e2 : IntKind.i64.wrap (4 * offI x r) = 4 * offI x r := IntWalk.i64_in _ (by omega)
  have e3 : IntKind.i64.wrap (4 * offI x r * offI x r) = 4 * offI x r * offI x r := IntWalk.i64_in _ (by omega)
  have e4 : IntKind.i64.wrap (sqI x.r.d (flI x r) (stI x) + 4 * offI x r * offI x r) = sqI x.r.d (flI x r) (stI x) + 4 * offI x r * offI x r := IntWalk.i64_in _ (by rw [← HV.out]; omega)
  cases r
  · have HS := Go.Lib.hid (fun w0 => specSquare x.r.d x.h.l (stI x) w0 (by omega) (by omega) (by omega) (by omega) (by omega) (by omega))
    have HO1 := Go.Lib.hid (HO.out false)
    have hfl : flI x false = x.h.l := rfl
    rw [hfl] at HV e4
    generalize offI x false = o at *
    generalize stI x = st at *
    generalize spSq x false = T at *
    generalize hS : sqI x.r.d x.h.l st = S at *
    clear hst hS hq p4 hfl HO hx ho hs n0 n1 n2 l0 l1 r0 r1 a0 a1 b0 b1 d0 d1 o0 o1 c0 c1
    go_enter Try.func54, Try.ntmps54
    go_wp2_with fail
    refine calls_gen (R := fun w' => Box w' w.heap.size [.int .i64 x.h.n, .int .i64 x.h.l, .int .i64 x.h.r, .int .i64 x.h.a, .int .i64 x.h.b, .int .i64 x.r.n, .int .i64 x.r.d, .int .i64 x.r.o, .int .i64 x.c] ∧ Below w.heap.size w w') ⟨Box.new rfl rfl, by go_grown⟩ ?_
    rintro W1 ⟨K1_0, B1⟩
    refine (HO1.out _).mono ?_
    rintro _ W2 ⟨rfl, b2⟩
    have K2_0 := K1_0.below b2
    have B2 := upB B1 b2
    clear b2 K1_0 B1
    have k2_0_0 := K2_0.at_ 0 _ rfl
    have k2_0_1 := K2_0.at_ 1 _ rfl
    have k2_0_2 := K2_0.at_ 2 _ rfl
    have k2_0_3 := K2_0.at_ 3 _ rfl
    have k2_0_4 := K2_0.at_ 4 _ rfl
    have k2_0_5 := K2_0.at_ 5 _ rfl
    have k2_0_6 := K2_0.at_ 6 _ rfl
    have k2_0_7 := K2_0.at_ 7 _ rfl
    have k2_0_8 := K2_0.at_ 8 _ rfl
    have k2_0_f := K2_0.fr
    have k2_0_l := K2_0.lt
    go_upto_region 5 with fail
    clear k2_0_0 k2_0_1 k2_0_2 k2_0_3 k2_0_4 k2_0_5 k2_0_6 k2_0_7 k2_0_8 k2_0_f k2_0_l
    have C := Go.Lib.hid (WB.mk (w := w) (x := x) K2_0 B2)
    clear K2_0 B2
    generalize w.heap.size = Q0 at C ⊢
    have e0 := C.out.cells
    go_region_held3 (fun w' => w'.cell? ⟨Q0, 0, none⟩ = some (.int .i64 x.h.n) ∧ w'.cell? ⟨Q0, 1, none⟩ = some (.int .i64 x.h.l) ∧ w'.cell? ⟨Q0, 2, none⟩ = some (.int .i64 x.h.r) ∧ w'.cell? ⟨Q0, 3, none⟩ = some (.int .i64 x.h.a) ∧ w'.cell? ⟨Q0, 4, none⟩ = some (.int .i64 x.h.b) ∧ w'.cell? ⟨Q0, 5, none⟩ = some (.int .i64 x.r.n) ∧ w'.cell? ⟨Q0, 6, none⟩ = some (.int .i64 x.r.d) ∧ w'.cell? ⟨Q0, 7, none⟩ = some (.int .i64 x.r.o) ∧ w'.cell? ⟨Q0, 8, none⟩ = some (.int .i64 x.c))
      (first | with_reducible exact C.out.cells | with_reducible exact C.out.drew.cells)
      (first | (go_at_call 88; refine (HS.out _).mono ?_; rintro _ V1 ⟨rfl, b1⟩; (first | have C := Go.Lib.hid (C.out.next b1) | have C := Go.Lib.hid (C.out.drew.next b1))))
    go_wp2_with fail
    go_ret
    exact ⟨by rw [HV.out]; rfl, C.out.below⟩
  · have HS := Go.Lib.hid (fun w0 => specSquare x.r.d x.h.r (stI x) w0 (by omega) (by omega) (by omega) (by omega) (by omega) (by omega))
    have HO1 := Go.Lib.hid (HO.out true)
    have hfl : flI x true = x.h.r := rfl
    rw [hfl] at HV e4
    generalize offI x true = o at *
    generalize stI x = st at *
    generalize spSq x true = T at *
    generalize hS : sqI x.r.d x.h.r st = S at *
    clear hst hS hq p4 hfl HO hx ho hs n0 n1 n2 l0 l1 r0 r1 a0 a1 b0 b1 d0 d1 o0 o1 c0 c1
    go_enter Try.func54, Try.ntmps54
    go_wp2_with fail
    refine calls_gen (R := fun w' => Box w' w.heap.size [.int .i64 x.h.n, .int .i64 x.h.l, .int .i64 x.h.r, .int .i64 x.h.a, .int .i64 x.h.b, .int .i64 x.r.n, .int .i64 x.r.d, .int .i64 x.r.o, .int .i64 x.c] ∧ Below w.heap.size w w') ⟨Box.new rfl rfl, by go_grown⟩ ?_
    rintro W1 ⟨K1_0, B1⟩
    refine (HO1.out _).mono ?_
    rintro _ W2 ⟨rfl, b2⟩
    have K2_0 := K1_0.below b2
    have B2 := upB B1 b2
    clear b2 K1_0 B1
    have k2_0_0 := K2_0.at_ 0 _ rfl
    have k2_0_1 := K2_0.at_ 1 _ rfl
    have k2_0_2 := K2_0.at_ 2 _ rfl
    have k2_0_3 := K2_0.at_ 3 _ rfl
    have k2_0_4 := K2_0.at_ 4 _ rfl
    have k2_0_5 := K2_0.at_ 5 _ rfl
    have k2_0_6 := K2_0.at_ 6 _ rfl
    have k2_0_7 := K2_0.at_ 7 _ rfl
    have k2_0_8 := K2_0.at_ 8 _ rfl
    have k2_0_f := K2_0.fr
    have k2_0_l := K2_0.lt
    go_upto_region 5 with fail
    clear k2_0_0 k2_0_1 k2_0_2 k2_0_3 k2_0_4 k2_0_5 k2_0_6 k2_0_7 k2_0_8 k2_0_f k2_0_l
    have C := Go.Lib.hid (WB.mk (w := w) (x := x) K2_0 B2)
    clear K2_0 B2
    generalize w.heap.size = Q0 at C ⊢
    have e0 := C.out.cells
    go_region_held3 (fun w' => w'.cell? ⟨Q0, 0, none⟩ = some (.int .i64 x.h.n) ∧ w'.cell? ⟨Q0, 1, none⟩ = some (.int .i64 x.h.l) ∧ w'.cell? ⟨Q0, 2, none⟩ = some (.int .i64 x.h.r) ∧ w'.cell? ⟨Q0, 3, none⟩ = some (.int .i64 x.h.a) ∧ w'.cell? ⟨Q0, 4, none⟩ = some (.int .i64 x.h.b) ∧ w'.cell? ⟨Q0, 5, none⟩ = some (.int .i64 x.r.n) ∧ w'.cell? ⟨Q0, 6, none⟩ = some (.int .i64 x.r.d) ∧ w'.cell? ⟨Q0, 7, none⟩ = some (.int .i64 x.r.o) ∧ w'.cell? ⟨Q0, 8, none⟩ = some (.int .i64 x.c))
      (first | with_reducible exact C.out.cells | with_reducible exact C.out.drew.cells)
      (first | (go_at_call 88; refine (HS.out _).mono ?_; rintro _ V1 ⟨rfl, b1⟩; (first | have C := Go.Lib.hid (C.out.next b1) | have C := Go.Lib.hid (C.out.drew.next b1))))
    go_wp2_with fail
    go_ret
    exact ⟨by rw [HV.out]; rfl, C.out.below⟩
theorem specLen5 (x : Wh) (r : Bool) (w : World) (hx : wheelB x = true) : Calls Try.prog 52 #[wheelV x, .bool r] w (IsV w (.int .i64 (spLen x r))) := by
  have HS := Go.Lib.hid (fun w0 => specSq5 x r w0 hx)
  obtain ⟨q0, q1⟩ := spSq_bd (r := r) hx
  have HR := Go.Lib.hid (fun w0 => specRoot (spSq x r) w0 (by omega) (by omega))
  have hr := root_in2 q0 q1
  have HV : Hid (spLen x r = (rootI (spSq x r) + 1) / 2 - 12) := rfl
  generalize spSq x r = S at *
  generalize rootI S = R at *
  have hd : (R + 1).tdiv 2 = (R + 1) / 2 := Int.tdiv_eq_ediv_of_nonneg (by omega)
  clear hx q0 q1
  go_enter Try.func52, Try.ntmps52
  go_wp2_with fail
  refine (HS.out _).mono ?_
  rintro _ W1 ⟨rfl, b1⟩
  go_wp2_with fail
  refine (HR.out _).mono ?_
  rintro _ _ ⟨rfl, rfl⟩
  go_wp2_with fail
  go_ret
  exact ⟨by rw [HV.out]; rfl, by first | exact b1 | exact upB (by go_grown) b1⟩
set_option maxRecDepth 100000 in
set_option maxHeartbeats 4000000 in
theorem specSquareOfSpoke (x : Wh) (r : Bool) (w : World) : Calls Try.prog 19 #[wheelV x, .bool r] w (IsV w (pairI (sqSA x r))) := by
  have HW := Go.Lib.hid (fun w0 => specIsWheel x w0)
  cases hb : wheelB x
  · rw [hb] at HW
    have HV : Hid (sqSA x r = (0, 1)) := by unfold sqSA; rw [hb]; rfl
    clear hb
    go_enter Try.func19, Try.ntmps19
    go_wp2_with fail
    refine calls_gen (R := fun w' => Box w' w.heap.size [.int .i64 x.h.n, .int .i64 x.h.l, .int .i64 x.h.r, .int .i64 x.h.a, .int .i64 x.h.b, .int .i64 x.r.n, .int .i64 x.r.d, .int .i64 x.r.o, .int .i64 x.c] ∧ Below w.heap.size w w') ⟨Box.new rfl rfl, by go_grown⟩ ?_
    rintro W1 ⟨K1_0, B1⟩
    refine (HW.out _).mono ?_
    rintro _ W2 ⟨rfl, b2⟩
    have K2_0 := K1_0.below b2
    have B2 := upB B1 b2
    clear b2 K1_0 B1
    have k2_0_0 := K2_0.at_ 0 _ rfl
    have k2_0_1 := K2_0.at_ 1 _ rfl
    have k2_0_2 := K2_0.at_ 2 _ rfl
    have k2_0_3 := K2_0.at_ 3 _ rfl
    have k2_0_4 := K2_0.at_ 4 _ rfl
    have k2_0_5 := K2_0.at_ 5 _ rfl
    have k2_0_6 := K2_0.at_ 6 _ rfl
    have k2_0_7 := K2_0.at_ 7 _ rfl
    have k2_0_8 := K2_0.at_ 8 _ rfl
    have k2_0_f := K2_0.fr
    have k2_0_l := K2_0.lt
    go_wp2_with fail
    go_ret2
    exact ⟨by rw [HV.out]; rfl, B2⟩
  · rw [hb] at HW
    have HV : Hid (sqSA x r = (spSq x r, 0)) := by unfold sqSA; rw [hb]; rfl
    have HC := Go.Lib.hid (fun w0 => specSq5 x r w0 hb)
    clear hb
    go_enter Try.func19, Try.ntmps19
    go_wp2_with fail
    refine calls_gen (R := fun w' => Box w' w.heap.size [.int .i64 x.h.n, .int .i64 x.h.l, .int .i64 x.h.r, .int .i64 x.h.a, .int .i64 x.h.b, .int .i64 x.r.n, .int .i64 x.r.d, .int .i64 x.r.o, .int .i64 x.c] ∧ Below w.heap.size w w') ⟨Box.new rfl rfl, by go_grown⟩ ?_
    rintro W1 ⟨K1_0, B1⟩
    refine (HW.out _).mono ?_
    rintro _ W2 ⟨rfl, b2⟩
    have K2_0 := K1_0.below b2
    have B2 := upB B1 b2
    clear b2 K1_0 B1
    have k2_0_0 := K2_0.at_ 0 _ rfl
    have k2_0_1 := K2_0.at_ 1 _ rfl
    have k2_0_2 := K2_0.at_ 2 _ rfl
    have k2_0_3 := K2_0.at_ 3 _ rfl
    have k2_0_4 := K2_0.at_ 4 _ rfl
    have k2_0_5 := K2_0.at_ 5 _ rfl
    have k2_0_6 := K2_0.at_ 6 _ rfl
    have k2_0_7 := K2_0.at_ 7 _ rfl
    have k2_0_8 := K2_0.at_ 8 _ rfl
    have k2_0_f := K2_0.fr
    have k2_0_l := K2_0.lt
    go_wp2_with fail
    refine (HC.out _).mono ?_
    rintro _ W3 ⟨rfl, b3⟩
    have K3_0 := K2_0.below b3
    clear k2_0_0 k2_0_1 k2_0_2 k2_0_3 k2_0_4 k2_0_5 k2_0_6 k2_0_7 k2_0_8 k2_0_f k2_0_l
    have B3 := upB B2 b3
    clear b3 K2_0 B2
    go_wp2_with fail
    go_ret2
    exact ⟨by rw [HV.out]; rfl, B3⟩
set_option maxRecDepth 100000 in
set_option maxHeartbeats 4000000 in
theorem specSpokeLength (x : Wh) (r : Bool) (w : World) : Calls Try.prog 17 #[wheelV x, .bool r] w (IsV w (pairI (lenA x r))) := by
  have HW := Go.Lib.hid (fun w0 => specIsWheel x w0)
  cases hb : wheelB x
  · rw [hb] at HW
    have HV : Hid (lenA x r = (0, 1)) := by unfold lenA; rw [hb]; rfl
    clear hb
    go_enter Try.func17, Try.ntmps17
    go_wp2_with fail
    refine calls_gen (R := fun w' => Box w' w.heap.size [.int .i64 x.h.n, .int .i64 x.h.l, .int .i64 x.h.r, .int .i64 x.h.a, .int .i64 x.h.b, .int .i64 x.r.n, .int .i64 x.r.d, .int .i64 x.r.o, .int .i64 x.c] ∧ Below w.heap.size w w') ⟨Box.new rfl rfl, by go_grown⟩ ?_
    rintro W1 ⟨K1_0, B1⟩
    refine (HW.out _).mono ?_
    rintro _ W2 ⟨rfl, b2⟩
    have K2_0 := K1_0.below b2
    have B2 := upB B1 b2
    clear b2 K1_0 B1
    have k2_0_0 := K2_0.at_ 0 _ rfl
    have k2_0_1 := K2_0.at_ 1 _ rfl
    have k2_0_2 := K2_0.at_ 2 _ rfl
    have k2_0_3 := K2_0.at_ 3 _ rfl
    have k2_0_4 := K2_0.at_ 4 _ rfl
    have k2_0_5 := K2_0.at_ 5 _ rfl
    have k2_0_6 := K2_0.at_ 6 _ rfl
    have k2_0_7 := K2_0.at_ 7 _ rfl
    have k2_0_8 := K2_0.at_ 8 _ rfl
    have k2_0_f := K2_0.fr
    have k2_0_l := K2_0.lt
    go_wp2_with fail
    go_ret2
    exact ⟨by rw [HV.out]; rfl, B2⟩
  · rw [hb] at HW
    have HV : Hid (lenA x r = (spLen x r, 0)) := by unfold lenA; rw [hb]; rfl
    have HC := Go.Lib.hid (fun w0 => specLen5 x r w0 hb)
    clear hb
    go_enter Try.func17, Try.ntmps17
    go_wp2_with fail
    refine calls_gen (R := fun w' => Box w' w.heap.size [.int .i64 x.h.n, .int .i64 x.h.l, .int .i64 x.h.r, .int .i64 x.h.a, .int .i64 x.h.b, .int .i64 x.r.n, .int .i64 x.r.d, .int .i64 x.r.o, .int .i64 x.c] ∧ Below w.heap.size w w') ⟨Box.new rfl rfl, by go_grown⟩ ?_
    rintro W1 ⟨K1_0, B1⟩
    refine (HW.out _).mono ?_
    rintro _ W2 ⟨rfl, b2⟩
    have K2_0 := K1_0.below b2
    have B2 := upB B1 b2
    clear b2 K1_0 B1
    have k2_0_0 := K2_0.at_ 0 _ rfl
    have k2_0_1 := K2_0.at_ 1 _ rfl
    have k2_0_2 := K2_0.at_ 2 _ rfl
    have k2_0_3 := K2_0.at_ 3 _ rfl
    have k2_0_4 := K2_0.at_ 4 _ rfl
    have k2_0_5 := K2_0.at_ 5 _ rfl
    have k2_0_6 := K2_0.at_ 6 _ rfl
    have k2_0_7 := K2_0.at_ 7 _ rfl
    have k2_0_8 := K2_0.at_ 8 _ rfl
    have k2_0_f := K2_0.fr
    have k2_0_l := K2_0.lt
    go_wp2_with fail
    refine (HC.out _).mono ?_
    rintro _ W3 ⟨rfl, b3⟩
    have K3_0 := K2_0.below b3
    clear k2_0_0 k2_0_1 k2_0_2 k2_0_3 k2_0_4 k2_0_5 k2_0_6 k2_0_7 k2_0_8 k2_0_f k2_0_l
    have B3 := upB B2 b3
    clear b3 K2_0 B2
    go_wp2_with fail
    go_ret2
    exact ⟨by rw [HV.out]; rfl, B3⟩
set_option maxRecDepth 100000 in
set_option maxHeartbeats 4000000 in
theorem specTensionShare (x : Wh) (w : World) : Calls Try.prog 40 #[wheelV x] w (IsV w (pairI (shrA x))) := by
  have HW := Go.Lib.hid (fun w0 => specIsWheel x w0)
  cases hb : wheelB x
  · rw [hb] at HW
    have HV : Hid (shrA x = (0, 1)) := by unfold shrA; rw [hb]; rfl
    clear hb
    go_enter Try.func40, Try.ntmps40
    go_wp2_with fail
    refine calls_gen (R := fun w' => Box w' w.heap.size [.int .i64 x.h.n, .int .i64 x.h.l, .int .i64 x.h.r, .int .i64 x.h.a, .int .i64 x.h.b, .int .i64 x.r.n, .int .i64 x.r.d, .int .i64 x.r.o, .int .i64 x.c] ∧ Below w.heap.size w w') ⟨Box.new rfl rfl, by go_grown⟩ ?_
    rintro W1 ⟨K1_0, B1⟩
    refine (HW.out _).mono ?_
    rintro _ W2 ⟨rfl, b2⟩
    have K2_0 := K1_0.below b2
    have B2 := upB B1 b2
    clear b2 K1_0 B1
    have k2_0_0 := K2_0.at_ 0 _ rfl
    have k2_0_1 := K2_0.at_ 1 _ rfl
    have k2_0_2 := K2_0.at_ 2 _ rfl
    have k2_0_3 := K2_0.at_ 3 _ rfl
    have k2_0_4 := K2_0.at_ 4 _ rfl
    have k2_0_5 := K2_0.at_ 5 _ rfl
    have k2_0_6 := K2_0.at_ 6 _ rfl
    have k2_0_7 := K2_0.at_ 7 _ rfl
    have k2_0_8 := K2_0.at_ 8 _ rfl
    have k2_0_f := K2_0.fr
    have k2_0_l := K2_0.lt
    go_wp2_with fail
    go_ret2
    exact ⟨by rw [HV.out]; rfl, B2⟩
  · rw [hb] at HW
    have HO := Go.Lib.hid (fun r w0 => specOff x r w0 hb)
    have HL := Go.Lib.hid (fun r w0 => specLen5 x r w0 hb)
    have ho1 := offI_bd (r := false) hb
    have ho2 := offI_bd (r := true) hb
    have hl1 := spLen_bd (r := false) hb
    have hl2 := spLen_bd (r := true) hb
    by_cases h1 : offI x false < 1
    · have HV : Hid (shrA x = (0, 5)) := by unfold shrA; rw [hb, if_pos rfl, if_pos (.inl h1)]; rfl
      clear hb
      have hO : ∀ w0, Calls Try.prog 77 #[wheelV x, .bool false] w0 (IsV w0 (.int .i64 (offI x false))) := HO.out false
      clear hO
      go_enter Try.func40, Try.ntmps40
      go_wp2_with fail
      refine calls_gen (R := fun w' => Box w' w.heap.size [.int .i64 x.h.n, .int .i64 x.h.l, .int .i64 x.h.r, .int .i64 x.h.a, .int .i64 x.h.b, .int .i64 x.r.n, .int .i64 x.r.d, .int .i64 x.r.o, .int .i64 x.c] ∧ Below w.heap.size w w') ⟨Box.new rfl rfl, by go_grown⟩ ?_
      rintro W1 ⟨K1_0, B1⟩
      refine (HW.out _).mono ?_
      rintro _ W2 ⟨rfl, b2⟩
      have K2_0 := K1_0.below b2
      have B2 := upB B1 b2
      clear b2 K1_0 B1
      have k2_0_0 := K2_0.at_ 0 _ rfl
      have k2_0_1 := K2_0.at_ 1 _ rfl
      have k2_0_2 := K2_0.at_ 2 _ rfl
      have k2_0_3 := K2_0.at_ 3 _ rfl
      have k2_0_4 := K2_0.at_ 4 _ rfl
      have k2_0_5 := K2_0.at_ 5 _ rfl
      have k2_0_6 := K2_0.at_ 6 _ rfl
      have k2_0_7 := K2_0.at_ 7 _ rfl
      have k2_0_8 := K2_0.at_ 8 _ rfl
      have k2_0_f := K2_0.fr
      have k2_0_l := K2_0.lt
      go_upto_region 3 with fail
      clear k2_0_0 k2_0_1 k2_0_2 k2_0_3 k2_0_4 k2_0_5 k2_0_6 k2_0_7 k2_0_8 k2_0_f k2_0_l
      have C := Go.Lib.hid (WB.mk (w := w) (x := x) K2_0 B2)
      clear K2_0 B2
      generalize w.heap.size = Q0 at C ⊢
      have e0 := C.out.cells
      go_region_held3 (fun w' => w'.cell? ⟨Q0, 0, none⟩ = some (.int .i64 x.h.n) ∧ w'.cell? ⟨Q0, 1, none⟩ = some (.int .i64 x.h.l) ∧ w'.cell? ⟨Q0, 2, none⟩ = some (.int .i64 x.h.r) ∧ w'.cell? ⟨Q0, 3, none⟩ = some (.int .i64 x.h.a) ∧ w'.cell? ⟨Q0, 4, none⟩ = some (.int .i64 x.h.b) ∧ w'.cell? ⟨Q0, 5, none⟩ = some (.int .i64 x.r.n) ∧ w'.cell? ⟨Q0, 6, none⟩ = some (.int .i64 x.r.d) ∧ w'.cell? ⟨Q0, 7, none⟩ = some (.int .i64 x.r.o) ∧ w'.cell? ⟨Q0, 8, none⟩ = some (.int .i64 x.c))
        (first | with_reducible exact C.out.cells | with_reducible exact C.out.drew.cells)
        (first | (go_at_call 77; refine (HO.out _ _).mono ?_; rintro _ V1 ⟨rfl, b1⟩; (first | have C := Go.Lib.hid (C.out.next b1) | have C := Go.Lib.hid (C.out.drew.next b1))))
      clear e0
      go_upto_region 4 with fail
      have e0 := C.out.cells
      go_region_held3 (fun w' => w'.cell? ⟨Q0, 0, none⟩ = some (.int .i64 x.h.n) ∧ w'.cell? ⟨Q0, 1, none⟩ = some (.int .i64 x.h.l) ∧ w'.cell? ⟨Q0, 2, none⟩ = some (.int .i64 x.h.r) ∧ w'.cell? ⟨Q0, 3, none⟩ = some (.int .i64 x.h.a) ∧ w'.cell? ⟨Q0, 4, none⟩ = some (.int .i64 x.h.b) ∧ w'.cell? ⟨Q0, 5, none⟩ = some (.int .i64 x.r.n) ∧ w'.cell? ⟨Q0, 6, none⟩ = some (.int .i64 x.r.d) ∧ w'.cell? ⟨Q0, 7, none⟩ = some (.int .i64 x.r.o) ∧ w'.cell? ⟨Q0, 8, none⟩ = some (.int .i64 x.c))
        (first | with_reducible exact C.out.cells | with_reducible exact C.out.drew.cells)
        (first | (go_at_call 52; refine (HL.out _ _).mono ?_; rintro _ V1 ⟨rfl, b1⟩; (first | have C := Go.Lib.hid (C.out.next b1) | have C := Go.Lib.hid (C.out.drew.next b1))))
      clear e0
      go_wp2_with fail
      go_ret2
      exact ⟨by rw [HV.out]; rfl, C.out.below⟩
    · by_cases h2 : offI x true < 1
      · have HV : Hid (shrA x = (0, 5)) := by unfold shrA; rw [hb, if_pos rfl, if_pos (.inr h2)]; rfl
        clear hb
        go_enter Try.func40, Try.ntmps40
        go_wp2_with fail
        refine calls_gen (R := fun w' => Box w' w.heap.size [.int .i64 x.h.n, .int .i64 x.h.l, .int .i64 x.h.r, .int .i64 x.h.a, .int .i64 x.h.b, .int .i64 x.r.n, .int .i64 x.r.d, .int .i64 x.r.o, .int .i64 x.c] ∧ Below w.heap.size w w') ⟨Box.new rfl rfl, by go_grown⟩ ?_
        rintro W1 ⟨K1_0, B1⟩
        refine (HW.out _).mono ?_
        rintro _ W2 ⟨rfl, b2⟩
        have K2_0 := K1_0.below b2
        have B2 := upB B1 b2
        clear b2 K1_0 B1
        have k2_0_0 := K2_0.at_ 0 _ rfl
        have k2_0_1 := K2_0.at_ 1 _ rfl
        have k2_0_2 := K2_0.at_ 2 _ rfl
        have k2_0_3 := K2_0.at_ 3 _ rfl
        have k2_0_4 := K2_0.at_ 4 _ rfl
        have k2_0_5 := K2_0.at_ 5 _ rfl
        have k2_0_6 := K2_0.at_ 6 _ rfl
        have k2_0_7 := K2_0.at_ 7 _ rfl
        have k2_0_8 := K2_0.at_ 8 _ rfl
        have k2_0_f := K2_0.fr
        have k2_0_l := K2_0.lt
        go_upto_region 3 with fail
        clear k2_0_0 k2_0_1 k2_0_2 k2_0_3 k2_0_4 k2_0_5 k2_0_6 k2_0_7 k2_0_8 k2_0_f k2_0_l
        have C := Go.Lib.hid (WB.mk (w := w) (x := x) K2_0 B2)
        clear K2_0 B2
        generalize w.heap.size = Q0 at C ⊢
        have e0 := C.out.cells
        go_region_held3 (fun w' => w'.cell? ⟨Q0, 0, none⟩ = some (.int .i64 x.h.n) ∧ w'.cell? ⟨Q0, 1, none⟩ = some (.int .i64 x.h.l) ∧ w'.cell? ⟨Q0, 2, none⟩ = some (.int .i64 x.h.r) ∧ w'.cell? ⟨Q0, 3, none⟩ = some (.int .i64 x.h.a) ∧ w'.cell? ⟨Q0, 4, none⟩ = some (.int .i64 x.h.b) ∧ w'.cell? ⟨Q0, 5, none⟩ = some (.int .i64 x.r.n) ∧ w'.cell? ⟨Q0, 6, none⟩ = some (.int .i64 x.r.d) ∧ w'.cell? ⟨Q0, 7, none⟩ = some (.int .i64 x.r.o) ∧ w'.cell? ⟨Q0, 8, none⟩ = some (.int .i64 x.c))
          (first | with_reducible exact C.out.cells | with_reducible exact C.out.drew.cells)
          (first | (go_at_call 77; refine (HO.out _ _).mono ?_; rintro _ V1 ⟨rfl, b1⟩; (first | have C := Go.Lib.hid (C.out.next b1) | have C := Go.Lib.hid (C.out.drew.next b1))))
        clear e0
        go_upto_region 4 with fail
        have e0 := C.out.cells
        go_region_held3 (fun w' => w'.cell? ⟨Q0, 0, none⟩ = some (.int .i64 x.h.n) ∧ w'.cell? ⟨Q0, 1, none⟩ = some (.int .i64 x.h.l) ∧ w'.cell? ⟨Q0, 2, none⟩ = some (.int .i64 x.h.r) ∧ w'.cell? ⟨Q0, 3, none⟩ = some (.int .i64 x.h.a) ∧ w'.cell? ⟨Q0, 4, none⟩ = some (.int .i64 x.h.b) ∧ w'.cell? ⟨Q0, 5, none⟩ = some (.int .i64 x.r.n) ∧ w'.cell? ⟨Q0, 6, none⟩ = some (.int .i64 x.r.d) ∧ w'.cell? ⟨Q0, 7, none⟩ = some (.int .i64 x.r.o) ∧ w'.cell? ⟨Q0, 8, none⟩ = some (.int .i64 x.c))
          (first | with_reducible exact C.out.cells | with_reducible exact C.out.drew.cells)
          (first | (go_at_call 52; refine (HL.out _ _).mono ?_; rintro _ V1 ⟨rfl, b1⟩; (first | have C := Go.Lib.hid (C.out.next b1) | have C := Go.Lib.hid (C.out.drew.next b1))))
        clear e0
        go_wp2_with fail
        go_ret2
        exact ⟨by rw [HV.out]; rfl, C.out.below⟩
      · have HV : Hid (shrA x = (nearQ (1000 * offI x true * spLen x false) (offI x false * spLen x true), 0)) := by unfold shrA; rw [hb, if_pos rfl, if_neg (by omega)]; rfl
        have m1 := pos_mul (a := 1000 * offI x true) (b := spLen x false) (p := 600000) (q := 4132) (by omega) (by omega) (by omega) (by omega)
        have m2 := pos_mul (a := offI x false) (b := spLen x true) (p := 600) (q := 4132) (by omega) (by omega) (by omega) (by omega)
        have HN := Go.Lib.hid (fun w0 => specNearest (1000 * offI x true * spLen x false) (offI x false * spLen x true) w0 (by omega) (by omega) (by omega) (by omega))
        have e1 : IntKind.i64.wrap (1000 * offI x true) = 1000 * offI x true := IntWalk.i64_in _ (by omega)
        have e2 : IntKind.i64.wrap (1000 * offI x true * spLen x false) = 1000 * offI x true * spLen x false := IntWalk.i64_in _ (by omega)
        have e3 : IntKind.i64.wrap (offI x false * spLen x true) = offI x false * spLen x true := IntWalk.i64_in _ (by omega)
        clear hb m1 m2
        go_enter Try.func40, Try.ntmps40
        go_wp2_with fail
        refine calls_gen (R := fun w' => Box w' w.heap.size [.int .i64 x.h.n, .int .i64 x.h.l, .int .i64 x.h.r, .int .i64 x.h.a, .int .i64 x.h.b, .int .i64 x.r.n, .int .i64 x.r.d, .int .i64 x.r.o, .int .i64 x.c] ∧ Below w.heap.size w w') ⟨Box.new rfl rfl, by go_grown⟩ ?_
        rintro W1 ⟨K1_0, B1⟩
        refine (HW.out _).mono ?_
        rintro _ W2 ⟨rfl, b2⟩
        have K2_0 := K1_0.below b2
        have B2 := upB B1 b2
        clear b2 K1_0 B1
        have k2_0_0 := K2_0.at_ 0 _ rfl
        have k2_0_1 := K2_0.at_ 1 _ rfl
        have k2_0_2 := K2_0.at_ 2 _ rfl
        have k2_0_3 := K2_0.at_ 3 _ rfl
        have k2_0_4 := K2_0.at_ 4 _ rfl
        have k2_0_5 := K2_0.at_ 5 _ rfl
        have k2_0_6 := K2_0.at_ 6 _ rfl
        have k2_0_7 := K2_0.at_ 7 _ rfl
        have k2_0_8 := K2_0.at_ 8 _ rfl
        have k2_0_f := K2_0.fr
        have k2_0_l := K2_0.lt
        go_upto_region 3 with fail
        clear k2_0_0 k2_0_1 k2_0_2 k2_0_3 k2_0_4 k2_0_5 k2_0_6 k2_0_7 k2_0_8 k2_0_f k2_0_l
        have C := Go.Lib.hid (WB.mk (w := w) (x := x) K2_0 B2)
        clear K2_0 B2
        generalize w.heap.size = Q0 at C ⊢
        have e0 := C.out.cells
        go_region_held3 (fun w' => w'.cell? ⟨Q0, 0, none⟩ = some (.int .i64 x.h.n) ∧ w'.cell? ⟨Q0, 1, none⟩ = some (.int .i64 x.h.l) ∧ w'.cell? ⟨Q0, 2, none⟩ = some (.int .i64 x.h.r) ∧ w'.cell? ⟨Q0, 3, none⟩ = some (.int .i64 x.h.a) ∧ w'.cell? ⟨Q0, 4, none⟩ = some (.int .i64 x.h.b) ∧ w'.cell? ⟨Q0, 5, none⟩ = some (.int .i64 x.r.n) ∧ w'.cell? ⟨Q0, 6, none⟩ = some (.int .i64 x.r.d) ∧ w'.cell? ⟨Q0, 7, none⟩ = some (.int .i64 x.r.o) ∧ w'.cell? ⟨Q0, 8, none⟩ = some (.int .i64 x.c))
          (first | with_reducible exact C.out.cells | with_reducible exact C.out.drew.cells)
          (first | (go_at_call 77; refine (HO.out _ _).mono ?_; rintro _ V1 ⟨rfl, b1⟩; (first | have C := Go.Lib.hid (C.out.next b1) | have C := Go.Lib.hid (C.out.drew.next b1))))
        clear e0
        go_upto_region 4 with fail
        have e0 := C.out.cells
        go_region_held3 (fun w' => w'.cell? ⟨Q0, 0, none⟩ = some (.int .i64 x.h.n) ∧ w'.cell? ⟨Q0, 1, none⟩ = some (.int .i64 x.h.l) ∧ w'.cell? ⟨Q0, 2, none⟩ = some (.int .i64 x.h.r) ∧ w'.cell? ⟨Q0, 3, none⟩ = some (.int .i64 x.h.a) ∧ w'.cell? ⟨Q0, 4, none⟩ = some (.int .i64 x.h.b) ∧ w'.cell? ⟨Q0, 5, none⟩ = some (.int .i64 x.r.n) ∧ w'.cell? ⟨Q0, 6, none⟩ = some (.int .i64 x.r.d) ∧ w'.cell? ⟨Q0, 7, none⟩ = some (.int .i64 x.r.o) ∧ w'.cell? ⟨Q0, 8, none⟩ = some (.int .i64 x.c))
          (first | with_reducible exact C.out.cells | with_reducible exact C.out.drew.cells)
          (first | (go_at_call 52; refine (HL.out _ _).mono ?_; rintro _ V1 ⟨rfl, b1⟩; (first | have C := Go.Lib.hid (C.out.next b1) | have C := Go.Lib.hid (C.out.drew.next b1))))
        clear e0
        go_wp2_with fail
        refine (HN.out _).mono ?_
        rintro _ _ ⟨rfl, rfl⟩
        go_wp2_with fail
        go_ret2
        exact ⟨by rw [HV.out]; rfl, C.out.below⟩
end Go.Proofs.Ytabcbecmieolhaa
