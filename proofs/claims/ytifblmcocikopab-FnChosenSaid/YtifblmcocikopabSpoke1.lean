/- Contracts of the model's offs, squares, lengths and shares of spokes. -/
import Derived.Test.YtifblmcocikopabPlainSpoke2
import Derived.Test.YtifblmcocikopabCosSq
import Derived.Test.YtifblmcocikopabHubS2
import Derived.Test.YtifblmcocikopabWB
namespace Go.Proofs.Ytifblmcocikopab
open Go.RowKit
section
end

theorem specOff (x : Wh) (r : Bool) (w : World) (hx : wheelB x = true) : Calls Try.prog 59 #[wheelV x, .bool r] w (IsV w (.int .i64 (offI x r))) := by
  obtain ⟨⟨n0, n1, n2⟩, ⟨l0, l1⟩, ⟨r0, r1⟩, ⟨a0, a1⟩, ⟨b0, b1⟩, ⟨d0, d1⟩, ⟨o0, o1⟩, c0, c1⟩ := wheel_bd hx
  clear hx
  cases r
  · have HV : Hid (offI x false = x.h.a + x.r.o) := rfl
    go_enter Try.func59, Try.ntmps59
    go_wp2_with fail
    go_ret
    exact ⟨by rw [HV.out]; rfl, by go_grown⟩
  · have HV : Hid (offI x true = x.h.b - x.r.o) := rfl
    go_enter Try.func59, Try.ntmps59
    go_wp2_with fail
    go_ret
    exact ⟨by rw [HV.out]; rfl, by go_grown⟩
set_option maxRecDepth 100000 in
set_option maxHeartbeats 4000000 in
theorem specSq5 (x : Wh) (r : Bool) (w : World) (hx : wheelB x = true) : Calls Try.prog 49 #[wheelV x, .bool r] w (IsV w (.int .i64 (spSq x r))) := by
  have HO := Go.Lib.hid (fun r w0 => specOff x r w0 hx)
  have ho := offI_bd (r := r) hx
  have hs := stI_bd hx
  have hq := spSq_bd (r := r) hx
  have HV : Hid (spSq x r = sqI x.r.d (flI x r) (stI x) + 4 * offI x r * offI x r) := rfl
  have hst : stI x = 1440 * x.c / x.h.n := rfl
  obtain ⟨⟨n0, n1, n2⟩, ⟨l0, l1⟩, ⟨r0, r1⟩, ⟨a0, a1⟩, ⟨b0, b1⟩, ⟨d0, d1⟩, ⟨o0, o1⟩, c0, c1⟩ := wheel_bd hx
  have p4 := off_sq (x := offI x r) (by omega) (by omega)
  have hd : (1440 * x.c).tdiv x.h.n = stI x := by rw [hst]; exact Int.tdiv_eq_ediv_of_nonneg (by omega)
  have hne : (x.h.n == 0) = false := by simp; omega
  have hn0 : ¬ x.h.n = 0 := by omega
  have e0 : IntKind.i64.wrap (1440 * x.c) = 1440 * x.c := IntWalk.i64_in _ (by omega)
  have e1 : IntKind.i64.wrap (stI x) = stI x := IntWalk.i64_in _ (by omega)
  have e2 : IntKind.i64.wrap (4 * offI x r) = 4 * offI x r := IntWalk.i64_in _ (by omega)
  have e3 : IntKind.i64.wrap (4 * offI x r * offI x r) = 4 * offI x r * offI x r := IntWalk.i64_in _ (by omega)
  have e4 : IntKind.i64.wrap (sqI x.r.d (flI x r) (stI x) + 4 * offI x r * offI x r) = sqI x.r.d (flI x r) (stI x) + 4 * offI x r * offI x r := IntWalk.i64_in _ (by rw [← HV.out]; omega)
  cases r
  · have HS := Go.Lib.hid (fun w0 => specSquare x.r.d x.h.l (stI x) w0 (by omega) (by omega) (by omega) (by omega) (by omega) (by omega))
    have HO1 := Go.Lib.hid (HO.out false)
    have hfl : flI x false = x.h.l := rfl
    rw [hfl] at HV e4
    generalize offI x false = o at *
    generalize stI x = st at *
    generalize spSq x false = T at *
    generalize hS : sqI x.r.d x.h.l st = S at *
    clear hst hS hq p4 hfl HO hx ho hs n0 n1 n2 l0 l1 r0 r1 a0 a1 b0 b1 d0 d1 o0 o1 c0 c1
    go_enter Try.func49, Try.ntmps49
    go_wp2_with fail
    refine calls_gen (R := fun w' => Box w' w.heap.size [.int .i64 x.h.n, .int .i64 x.h.l, .int .i64 x.h.r, .int .i64 x.h.a, .int .i64 x.h.b, .int .i64 x.r.n, .int .i64 x.r.d, .int .i64 x.r.o, .int .i64 x.c] ∧ Below w.heap.size w w') ⟨Box.new rfl rfl, by go_grown⟩ ?_
    rintro W1 ⟨K1_0, B1⟩
    refine (HO1.out _).mono ?_
    rintro _ W2 ⟨rfl, b2⟩
    have K2_0 := K1_0.below b2
    have B2 := upB B1 b2
    clear b2 K1_0 B1
    have k2_0_0 := K2_0.at_ 0 _ rfl
    have k2_0_1 := K2_0.at_ 1 _ rfl
    have k2_0_2 := K2_0.at_ 2 _ rfl
    have k2_0_3 := K2_0.at_ 3 _ rfl
    have k2_0_4 := K2_0.at_ 4 _ rfl
    have k2_0_5 := K2_0.at_ 5 _ rfl
    have k2_0_6 := K2_0.at_ 6 _ rfl
    have k2_0_7 := K2_0.at_ 7 _ rfl
    have k2_0_8 := K2_0.at_ 8 _ rfl
    have k2_0_f := K2_0.fr
    have k2_0_l := K2_0.lt
    go_upto_region 5 with fail
    clear k2_0_0 k2_0_1 k2_0_2 k2_0_3 k2_0_4 k2_0_5 k2_0_6 k2_0_7 k2_0_8 k2_0_f k2_0_l
    have C := Go.Lib.hid (WB.mk (w := w) (x := x) K2_0 B2)
    clear K2_0 B2
    generalize w.heap.size = Q0 at C ⊢
    have e0 := C.out.cells
    go_region_held3 (fun w' => w'.cell? ⟨Q0, 0, none⟩ = some (.int .i64 x.h.n) ∧ w'.cell? ⟨Q0, 1, none⟩ = some (.int .i64 x.h.l) ∧ w'.cell? ⟨Q0, 2, none⟩ = some (.int .i64 x.h.r) ∧ w'.cell? ⟨Q0, 3, none⟩ = some (.int .i64 x.h.a) ∧ w'.cell? ⟨Q0, 4, none⟩ = some (.int .i64 x.h.b) ∧ w'.cell? ⟨Q0, 5, none⟩ = some (.int .i64 x.r.n) ∧ w'.cell? ⟨Q0, 6, none⟩ = some (.int .i64 x.r.d) ∧ w'.cell? ⟨Q0, 7, none⟩ = some (.int .i64 x.r.o) ∧ w'.cell? ⟨Q0, 8, none⟩ = some (.int .i64 x.c))
      (first | with_reducible exact C.out.cells | with_reducible exact C.out.drew.cells)
      (first | (go_at_call 60; refine (HS.out _).mono ?_; rintro _ V1 ⟨rfl, b1⟩; (first | have C := Go.Lib.hid (C.out.next b1) | have C := Go.Lib.hid (C.out.drew.next b1))))
    go_wp2_with fail
    go_ret
    exact ⟨by rw [HV.out]; rfl, C.out.below⟩
  · have HS := Go.Lib.hid (fun w0 => specSquare x.r.d x.h.r (stI x) w0 (by omega) (by omega) (by omega) (by omega) (by omega) (by omega))
    have HO1 := Go.Lib.hid (HO.out true)
    have hfl : flI x true = x.h.r := rfl
    rw [hfl] at HV e4
    generalize offI x true = o at *
    generalize stI x = st at *
    generalize spSq x true = T at *
    generalize hS : sqI x.r.d x.h.r st = S at *
    clear hst hS hq p4 hfl HO hx ho hs n0 n1 n2 l0 l1 r0 r1 a0 a1 b0 b1 d0 d1 o0 o1 c0 c1
    go_enter Try.func49, Try.ntmps49
    go_wp2_with fail
    refine calls_gen (R := fun w' => Box w' w.heap.size [.int .i64 x.h.n, .int .i64 x.h.l, .int .i64 x.h.r, .int .i64 x.h.a, .int .i64 x.h.b, .int .i64 x.r.n, .int .i64 x.r.d, .int .i64 x.r.o, .int .i64 x.c] ∧ Below w.heap.size w w') ⟨Box.new rfl rfl, by go_grown⟩ ?_
    rintro W1 ⟨K1_0, B1⟩
    refine (HO1.out _).mono ?_
    rintro _ W2 ⟨rfl, b2⟩
    have K2_0 := K1_0.below b2
    have B2 := upB B1 b2
    clear b2 K1_0 B1
    have k2_0_0 := K2_0.at_ 0 _ rfl
    have k2_0_1 := K2_0.at_ 1 _ rfl
    have k2_0_2 := K2_0.at_ 2 _ rfl
    have k2_0_3 := K2_0.at_ 3 _ rfl
    have k2_0_4 := K2_0.at_ 4 _ rfl
    have k2_0_5 := K2_0.at_ 5 _ rfl
    have k2_0_6 := K2_0.at_ 6 _ rfl
    have k2_0_7 := K2_0.at_ 7 _ rfl
    have k2_0_8 := K2_0.at_ 8 _ rfl
    have k2_0_f := K2_0.fr
    have k2_0_l := K2_0.lt
    go_upto_region 5 with fail
    clear k2_0_0 k2_0_1 k2_0_2 k2_0_3 k2_0_4 k2_0_5 k2_0_6 k2_0_7 k2_0_8 k2_0_f k2_0_l
    have C := Go.Lib.hid (WB.mk (w := w) (x := x) K2_0 B2)
    clear K2_0 B2
    generalize w.heap.size = Q0 at C ⊢
    have e0 := C.out.cells
    go_region_held3 (fun w' => w'.cell? ⟨Q0, 0, none⟩ = some (.int .i64 x.h.n) ∧ w'.cell? ⟨Q0, 1, none⟩ = some (.int .i64 x.h.l) ∧ w'.cell? ⟨Q0, 2, none⟩ = some (.int .i64 x.h.r) ∧ w'.cell? ⟨Q0, 3, none⟩ = some (.int .i64 x.h.a) ∧ w'.cell? ⟨Q0, 4, none⟩ = some (.int .i64 x.h.b) ∧ w'.cell? ⟨Q0, 5, none⟩ = some (.int .i64 x.r.n) ∧ w'.cell? ⟨Q0, 6, none⟩ = some (.int .i64 x.r.d) ∧ w'.cell? ⟨Q0, 7, none⟩ = some (.int .i64 x.r.o) ∧ w'.cell? ⟨Q0, 8, none⟩ = some (.int .i64 x.c))
      (first | with_reducible exact C.out.cells | with_reducible exact C.out.drew.cells)
      (first | (go_at_call 60; refine (HS.out _).mono ?_; rintro _ V1 ⟨rfl, b1⟩; (first | have C := Go.Lib.hid (C.out.next b1) | have C := Go.Lib.hid (C.out.drew.next b1))))
    go_wp2_with fail
    go_ret
    exact ⟨by rw [HV.out]; rfl, C.out.below⟩
theorem specLen5 (x : Wh) (r : Bool) (w : World) (hx : wheelB x = true) : Calls Try.prog 34 #[wheelV x, .bool r] w (IsV w (.int .i64 (spLen x r))) := by
  have HS := Go.Lib.hid (fun w0 => specSq5 x r w0 hx)
  obtain ⟨q0, q1⟩ := spSq_bd (r := r) hx
  have HR := Go.Lib.hid (fun w0 => specRoot (spSq x r) w0 (by omega) (by omega))
  have hr := root_in2 q0 q1
  have HV : Hid (spLen x r = (rootI (spSq x r) + 1) / 2 - 12) := rfl
  generalize spSq x r = S at *
  generalize rootI S = R at *
  have hd : (R + 1).tdiv 2 = (R + 1) / 2 := Int.tdiv_eq_ediv_of_nonneg (by omega)
  clear hx q0 q1
  go_enter Try.func34, Try.ntmps34
  go_wp2_with fail
  refine (HS.out _).mono ?_
  rintro _ W1 ⟨rfl, b1⟩
  go_wp2_with fail
  refine (HR.out _).mono ?_
  rintro _ _ ⟨rfl, rfl⟩
  go_wp2_with fail
  go_ret
  exact ⟨by rw [HV.out]; rfl, by first | exact b1 | exact upB (by go_grown) b1⟩
end Go.Proofs.Ytifblmcocikopab
