/- The program's SquareOfSpoke, SpokeLength, TensionShare, SpokeCounts. -/
import Derived.Test.YtabcbecmieolhaaSpA
import Derived.Test.YtabcbecmieolhaaSpoke5
namespace Go.Proofs.Ytabcbecmieolhaa
open Go.RowKit

theorem implNearQ (n d : Int) (w : World) (hd : 0 < d) (hd2 : d ≤ 1000000000000) (h0 : 0 ≤ n) (h1 : n ≤ 2000000000000000000) : Calls Try.prog 76 #[.int .i64 n, .int .i64 d] w (Just (.int .i64 (nearQ n d)) w) := by
  have HD := Go.Lib.hid (implDown (n + d / 2) d w (by omega) (by omega) (by omega) (by omega))
  have hv : nearQ n d = (n + d / 2) / d := by
    unfold nearQ
    rw [← Int.ediv_ediv_of_nonneg (by omega)]
    congr 1
    omega
  have HV := Go.Lib.hid hv
  have h2 : d.tdiv 2 = d / 2 := Int.tdiv_eq_ediv_of_nonneg (by omega)
  have e1 : IntKind.i64.wrap (d / 2) = d / 2 := IntWalk.i64_in _ (by omega)
  have e2 : IntKind.i64.wrap (n + d / 2) = n + d / 2 := IntWalk.i64_in _ (by omega)
  clear hv hd hd2 h0 h1
  go_enter Try.func76, Try.ntmps76
  go_wp2_with fail
  refine HD.out.mono ?_
  rintro _ _ ⟨rfl, rfl⟩
  go_wp2_with fail
  go_ret
  exact ⟨by rw [HV.out]; rfl, rfl⟩
set_option maxRecDepth 100000 in
set_option maxHeartbeats 4000000 in
theorem implSquareOfSpoke (x : Wh) (r : Bool) (w : World) : Calls Try.prog 18 #[wheelV x, .bool r] w (IsV w (pairI (sqSA x r))) := by
  have HW := Go.Lib.hid (fun w0 => implIsWheel x w0)
  cases hb : wheelB x
  · rw [hb] at HW
    have HV : Hid (sqSA x r = (0, 1)) := by unfold sqSA; rw [hb]; rfl
    clear hb
    go_enter Try.func18, Try.ntmps18
    go_wp2_with fail
    refine calls_gen (R := fun w' => Box w' w.heap.size [.int .i64 x.h.n, .int .i64 x.h.l, .int .i64 x.h.r, .int .i64 x.h.a, .int .i64 x.h.b, .int .i64 x.r.n, .int .i64 x.r.d, .int .i64 x.r.o, .int .i64 x.c] ∧ Below w.heap.size w w') ⟨Box.new rfl rfl, by go_grown⟩ ?_
    rintro W1 ⟨K1_0, B1⟩
    refine (HW.out _).mono ?_
    rintro _ W2 ⟨rfl, b2⟩
    have K2_0 := K1_0.below b2
    have B2 := upB B1 b2
    clear b2 K1_0 B1
    have k2_0_0 := K2_0.at_ 0 _ rfl
    have k2_0_1 := K2_0.at_ 1 _ rfl
    have k2_0_2 := K2_0.at_ 2 _ rfl
    have k2_0_3 := K2_0.at_ 3 _ rfl
    have k2_0_4 := K2_0.at_ 4 _ rfl
    have k2_0_5 := K2_0.at_ 5 _ rfl
    have k2_0_6 := K2_0.at_ 6 _ rfl
    have k2_0_7 := K2_0.at_ 7 _ rfl
    have k2_0_8 := K2_0.at_ 8 _ rfl
    have k2_0_f := K2_0.fr
    have k2_0_l := K2_0.lt
    go_wp2_with fail
    go_ret2
    exact ⟨by rw [HV.out]; rfl, B2⟩
  · rw [hb] at HW
    have HV : Hid (sqSA x r = (spSq x r, 0)) := by unfold sqSA; rw [hb]; rfl
    have HS := Go.Lib.hid (fun w0 => implSideOf x r w0 hb)
    have HT := Go.Lib.hid (fun q f o w0 hs => implSideAt x x r q f o w0 hs hb hb rfl rfl)
    clear hb
    go_enter Try.func18, Try.ntmps18
    go_wp2_with fail
    refine calls_gen (R := fun w' => Box w' w.heap.size [.int .i64 x.h.n, .int .i64 x.h.l, .int .i64 x.h.r, .int .i64 x.h.a, .int .i64 x.h.b, .int .i64 x.r.n, .int .i64 x.r.d, .int .i64 x.r.o, .int .i64 x.c] ∧ Below w.heap.size w w') ⟨Box.new rfl rfl, by go_grown⟩ ?_
    rintro W1 ⟨K1_0, B1⟩
    refine (HW.out _).mono ?_
    rintro _ W2 ⟨rfl, b2⟩
    have K2_0 := K1_0.below b2
    have B2 := upB B1 b2
    clear b2 K1_0 B1
    have k2_0_0 := K2_0.at_ 0 _ rfl
    have k2_0_1 := K2_0.at_ 1 _ rfl
    have k2_0_2 := K2_0.at_ 2 _ rfl
    have k2_0_3 := K2_0.at_ 3 _ rfl
    have k2_0_4 := K2_0.at_ 4 _ rfl
    have k2_0_5 := K2_0.at_ 5 _ rfl
    have k2_0_6 := K2_0.at_ 6 _ rfl
    have k2_0_7 := K2_0.at_ 7 _ rfl
    have k2_0_8 := K2_0.at_ 8 _ rfl
    have k2_0_f := K2_0.fr
    have k2_0_l := K2_0.lt
    go_wp2_with fail
    refine (HS.out _).mono ?_
    rintro _ W3 ⟨q, f, o, rfl, S, -, b3⟩
    have K3_0 := K2_0.below b3
    clear k2_0_0 k2_0_1 k2_0_2 k2_0_3 k2_0_4 k2_0_5 k2_0_6 k2_0_7 k2_0_8 k2_0_f k2_0_l
    have B3 := upB B2 b3
    clear b3 K2_0 B2
    have k3_0_0 := K3_0.at_ 0 _ rfl
    have k3_0_1 := K3_0.at_ 1 _ rfl
    have k3_0_2 := K3_0.at_ 2 _ rfl
    have k3_0_3 := K3_0.at_ 3 _ rfl
    have k3_0_4 := K3_0.at_ 4 _ rfl
    have k3_0_5 := K3_0.at_ 5 _ rfl
    have k3_0_6 := K3_0.at_ 6 _ rfl
    have k3_0_7 := K3_0.at_ 7 _ rfl
    have k3_0_8 := K3_0.at_ 8 _ rfl
    have k3_0_f := K3_0.fr
    have k3_0_l := K3_0.lt
    go_wp2_with fail
    refine (HT.out q f o _ S).mono ?_
    rintro _ W4 ⟨rfl, b4⟩
    have K4_0 := K3_0.below b4
    clear k3_0_0 k3_0_1 k3_0_2 k3_0_3 k3_0_4 k3_0_5 k3_0_6 k3_0_7 k3_0_8 k3_0_f k3_0_l
    have B4 := upB B3 b4
    clear b4 K3_0 B3
    clear S
    go_wp2_with fail
    go_ret2
    exact ⟨by rw [HV.out]; rfl, B4⟩
set_option maxRecDepth 100000 in
set_option maxHeartbeats 4000000 in
theorem implSpokeLength (x : Wh) (r : Bool) (w : World) : Calls Try.prog 16 #[wheelV x, .bool r] w (IsV w (pairI (lenA x r))) := by
  have HW := Go.Lib.hid (fun w0 => implIsWheel x w0)
  cases hb : wheelB x
  · rw [hb] at HW
    have HV : Hid (lenA x r = (0, 1)) := by unfold lenA; rw [hb]; rfl
    clear hb
    go_enter Try.func16, Try.ntmps16
    go_wp2_with fail
    refine calls_gen (R := fun w' => Box w' w.heap.size [.int .i64 x.h.n, .int .i64 x.h.l, .int .i64 x.h.r, .int .i64 x.h.a, .int .i64 x.h.b, .int .i64 x.r.n, .int .i64 x.r.d, .int .i64 x.r.o, .int .i64 x.c] ∧ Below w.heap.size w w') ⟨Box.new rfl rfl, by go_grown⟩ ?_
    rintro W1 ⟨K1_0, B1⟩
    refine (HW.out _).mono ?_
    rintro _ W2 ⟨rfl, b2⟩
    have K2_0 := K1_0.below b2
    have B2 := upB B1 b2
    clear b2 K1_0 B1
    have k2_0_0 := K2_0.at_ 0 _ rfl
    have k2_0_1 := K2_0.at_ 1 _ rfl
    have k2_0_2 := K2_0.at_ 2 _ rfl
    have k2_0_3 := K2_0.at_ 3 _ rfl
    have k2_0_4 := K2_0.at_ 4 _ rfl
    have k2_0_5 := K2_0.at_ 5 _ rfl
    have k2_0_6 := K2_0.at_ 6 _ rfl
    have k2_0_7 := K2_0.at_ 7 _ rfl
    have k2_0_8 := K2_0.at_ 8 _ rfl
    have k2_0_f := K2_0.fr
    have k2_0_l := K2_0.lt
    go_wp2_with fail
    go_ret2
    exact ⟨by rw [HV.out]; rfl, B2⟩
  · rw [hb] at HW
    have HV : Hid (lenA x r = (spLen x r, 0)) := by unfold lenA; rw [hb]; rfl
    have HC := Go.Lib.hid (fun w0 => implLen x r w0 hb)
    clear hb
    go_enter Try.func16, Try.ntmps16
    go_wp2_with fail
    refine calls_gen (R := fun w' => Box w' w.heap.size [.int .i64 x.h.n, .int .i64 x.h.l, .int .i64 x.h.r, .int .i64 x.h.a, .int .i64 x.h.b, .int .i64 x.r.n, .int .i64 x.r.d, .int .i64 x.r.o, .int .i64 x.c] ∧ Below w.heap.size w w') ⟨Box.new rfl rfl, by go_grown⟩ ?_
    rintro W1 ⟨K1_0, B1⟩
    refine (HW.out _).mono ?_
    rintro _ W2 ⟨rfl, b2⟩
    have K2_0 := K1_0.below b2
    have B2 := upB B1 b2
    clear b2 K1_0 B1
    have k2_0_0 := K2_0.at_ 0 _ rfl
    have k2_0_1 := K2_0.at_ 1 _ rfl
    have k2_0_2 := K2_0.at_ 2 _ rfl
    have k2_0_3 := K2_0.at_ 3 _ rfl
    have k2_0_4 := K2_0.at_ 4 _ rfl
    have k2_0_5 := K2_0.at_ 5 _ rfl
    have k2_0_6 := K2_0.at_ 6 _ rfl
    have k2_0_7 := K2_0.at_ 7 _ rfl
    have k2_0_8 := K2_0.at_ 8 _ rfl
    have k2_0_f := K2_0.fr
    have k2_0_l := K2_0.lt
    go_wp2_with fail
    refine (HC.out _).mono ?_
    rintro _ W3 ⟨rfl, b3⟩
    have K3_0 := K2_0.below b3
    clear k2_0_0 k2_0_1 k2_0_2 k2_0_3 k2_0_4 k2_0_5 k2_0_6 k2_0_7 k2_0_8 k2_0_f k2_0_l
    have B3 := upB B2 b3
    clear b3 K2_0 B2
    go_wp2_with fail
    go_ret2
    exact ⟨by rw [HV.out]; rfl, B3⟩
set_option maxRecDepth 100000 in
set_option maxHeartbeats 4000000 in
theorem implTensionShare (x : Wh) (w : World) : Calls Try.prog 39 #[wheelV x] w (IsV w (pairI (shrA x))) := by
  have HW := Go.Lib.hid (fun w0 => implIsWheel x w0)
  cases hb : wheelB x
  · rw [hb] at HW
    have HV : Hid (shrA x = (0, 1)) := by unfold shrA; rw [hb]; rfl
    clear hb
    go_enter Try.func39, Try.ntmps39
    go_wp2_with fail
    refine calls_gen (R := fun w' => Box w' w.heap.size [.int .i64 x.h.n, .int .i64 x.h.l, .int .i64 x.h.r, .int .i64 x.h.a, .int .i64 x.h.b, .int .i64 x.r.n, .int .i64 x.r.d, .int .i64 x.r.o, .int .i64 x.c] ∧ Below w.heap.size w w') ⟨Box.new rfl rfl, by go_grown⟩ ?_
    rintro W1 ⟨K1_0, B1⟩
    refine (HW.out _).mono ?_
    rintro _ W2 ⟨rfl, b2⟩
    have K2_0 := K1_0.below b2
    have B2 := upB B1 b2
    clear b2 K1_0 B1
    have k2_0_0 := K2_0.at_ 0 _ rfl
    have k2_0_1 := K2_0.at_ 1 _ rfl
    have k2_0_2 := K2_0.at_ 2 _ rfl
    have k2_0_3 := K2_0.at_ 3 _ rfl
    have k2_0_4 := K2_0.at_ 4 _ rfl
    have k2_0_5 := K2_0.at_ 5 _ rfl
    have k2_0_6 := K2_0.at_ 6 _ rfl
    have k2_0_7 := K2_0.at_ 7 _ rfl
    have k2_0_8 := K2_0.at_ 8 _ rfl
    have k2_0_f := K2_0.fr
    have k2_0_l := K2_0.lt
    go_wp2_with fail
    go_ret2
    exact ⟨by rw [HV.out]; rfl, B2⟩
  · rw [hb] at HW
    have HO := Go.Lib.hid (fun r w0 => implOff x r w0 hb)
    have HL := Go.Lib.hid (fun r w0 => implLen x r w0 hb)
    have ho1 := offI_bd (r := false) hb
    have ho2 := offI_bd (r := true) hb
    have hl1 := spLen_bd (r := false) hb
    have hl2 := spLen_bd (r := true) hb
    by_cases h1 : offI x false < 1
    · have HV : Hid (shrA x = (0, 5)) := by unfold shrA; rw [hb, if_pos rfl, if_pos (.inl h1)]; rfl
      clear hb ho1 ho2 hl1 hl2
      go_enter Try.func39, Try.ntmps39
      go_wp2_with fail
      refine calls_gen (R := fun w' => Box w' w.heap.size [.int .i64 x.h.n, .int .i64 x.h.l, .int .i64 x.h.r, .int .i64 x.h.a, .int .i64 x.h.b, .int .i64 x.r.n, .int .i64 x.r.d, .int .i64 x.r.o, .int .i64 x.c] ∧ Below w.heap.size w w') ⟨Box.new rfl rfl, by go_grown⟩ ?_
      rintro W1 ⟨K1_0, B1⟩
      refine (HW.out _).mono ?_
      rintro _ W2 ⟨rfl, b2⟩
      have K2_0 := K1_0.below b2
      have B2 := upB B1 b2
      clear b2 K1_0 B1
      have k2_0_0 := K2_0.at_ 0 _ rfl
      have k2_0_1 := K2_0.at_ 1 _ rfl
      have k2_0_2 := K2_0.at_ 2 _ rfl
      have k2_0_3 := K2_0.at_ 3 _ rfl
      have k2_0_4 := K2_0.at_ 4 _ rfl
      have k2_0_5 := K2_0.at_ 5 _ rfl
      have k2_0_6 := K2_0.at_ 6 _ rfl
      have k2_0_7 := K2_0.at_ 7 _ rfl
      have k2_0_8 := K2_0.at_ 8 _ rfl
      have k2_0_f := K2_0.fr
      have k2_0_l := K2_0.lt
      go_upto_region 3 with fail
      clear k2_0_0 k2_0_1 k2_0_2 k2_0_3 k2_0_4 k2_0_5 k2_0_6 k2_0_7 k2_0_8 k2_0_f k2_0_l
      have C := Go.Lib.hid (WB.mk (w := w) (x := x) K2_0 B2)
      clear K2_0 B2
      generalize w.heap.size = Q0 at C ⊢
      have e0 := C.out.cells
      go_region_held3 (fun w' => w'.cell? ⟨Q0, 0, none⟩ = some (.int .i64 x.h.n) ∧ w'.cell? ⟨Q0, 1, none⟩ = some (.int .i64 x.h.l) ∧ w'.cell? ⟨Q0, 2, none⟩ = some (.int .i64 x.h.r) ∧ w'.cell? ⟨Q0, 3, none⟩ = some (.int .i64 x.h.a) ∧ w'.cell? ⟨Q0, 4, none⟩ = some (.int .i64 x.h.b) ∧ w'.cell? ⟨Q0, 5, none⟩ = some (.int .i64 x.r.n) ∧ w'.cell? ⟨Q0, 6, none⟩ = some (.int .i64 x.r.d) ∧ w'.cell? ⟨Q0, 7, none⟩ = some (.int .i64 x.r.o) ∧ w'.cell? ⟨Q0, 8, none⟩ = some (.int .i64 x.c))
        (first | with_reducible exact C.out.cells | with_reducible exact C.out.drew.cells)
        (first | (go_at_call 75; refine (HO.out _ _).mono ?_; rintro _ V1 ⟨rfl, b1⟩; (first | have C := Go.Lib.hid (C.out.next b1) | have C := Go.Lib.hid (C.out.drew.next b1))))
      clear e0
      go_wp2_with fail
      go_ret2
      exact ⟨by rw [HV.out]; rfl, C.out.below⟩
    · by_cases h2 : offI x true < 1
      · have HV : Hid (shrA x = (0, 5)) := by unfold shrA; rw [hb, if_pos rfl, if_pos (.inr h2)]; rfl
        clear hb ho1 ho2 hl1 hl2
        go_enter Try.func39, Try.ntmps39
        go_wp2_with fail
        refine calls_gen (R := fun w' => Box w' w.heap.size [.int .i64 x.h.n, .int .i64 x.h.l, .int .i64 x.h.r, .int .i64 x.h.a, .int .i64 x.h.b, .int .i64 x.r.n, .int .i64 x.r.d, .int .i64 x.r.o, .int .i64 x.c] ∧ Below w.heap.size w w') ⟨Box.new rfl rfl, by go_grown⟩ ?_
        rintro W1 ⟨K1_0, B1⟩
        refine (HW.out _).mono ?_
        rintro _ W2 ⟨rfl, b2⟩
        have K2_0 := K1_0.below b2
        have B2 := upB B1 b2
        clear b2 K1_0 B1
        have k2_0_0 := K2_0.at_ 0 _ rfl
        have k2_0_1 := K2_0.at_ 1 _ rfl
        have k2_0_2 := K2_0.at_ 2 _ rfl
        have k2_0_3 := K2_0.at_ 3 _ rfl
        have k2_0_4 := K2_0.at_ 4 _ rfl
        have k2_0_5 := K2_0.at_ 5 _ rfl
        have k2_0_6 := K2_0.at_ 6 _ rfl
        have k2_0_7 := K2_0.at_ 7 _ rfl
        have k2_0_8 := K2_0.at_ 8 _ rfl
        have k2_0_f := K2_0.fr
        have k2_0_l := K2_0.lt
        go_upto_region 3 with fail
        clear k2_0_0 k2_0_1 k2_0_2 k2_0_3 k2_0_4 k2_0_5 k2_0_6 k2_0_7 k2_0_8 k2_0_f k2_0_l
        have C := Go.Lib.hid (WB.mk (w := w) (x := x) K2_0 B2)
        clear K2_0 B2
        generalize w.heap.size = Q0 at C ⊢
        have e0 := C.out.cells
        go_region_held3 (fun w' => w'.cell? ⟨Q0, 0, none⟩ = some (.int .i64 x.h.n) ∧ w'.cell? ⟨Q0, 1, none⟩ = some (.int .i64 x.h.l) ∧ w'.cell? ⟨Q0, 2, none⟩ = some (.int .i64 x.h.r) ∧ w'.cell? ⟨Q0, 3, none⟩ = some (.int .i64 x.h.a) ∧ w'.cell? ⟨Q0, 4, none⟩ = some (.int .i64 x.h.b) ∧ w'.cell? ⟨Q0, 5, none⟩ = some (.int .i64 x.r.n) ∧ w'.cell? ⟨Q0, 6, none⟩ = some (.int .i64 x.r.d) ∧ w'.cell? ⟨Q0, 7, none⟩ = some (.int .i64 x.r.o) ∧ w'.cell? ⟨Q0, 8, none⟩ = some (.int .i64 x.c))
          (first | with_reducible exact C.out.cells | with_reducible exact C.out.drew.cells)
          (first | (go_at_call 75; refine (HO.out _ _).mono ?_; rintro _ V1 ⟨rfl, b1⟩; (first | have C := Go.Lib.hid (C.out.next b1) | have C := Go.Lib.hid (C.out.drew.next b1))))
        clear e0
        go_wp2_with fail
        go_ret2
        exact ⟨by rw [HV.out]; rfl, C.out.below⟩
      · have HV : Hid (shrA x = (nearQ (1000 * offI x true * spLen x false) (offI x false * spLen x true), 0)) := by unfold shrA; rw [hb, if_pos rfl, if_neg (by omega)]; rfl
        have m1 := pos_mul (a := 1000 * offI x true) (b := spLen x false) (p := 600000) (q := 4132) (by omega) (by omega) (by omega) (by omega)
        have m2 := pos_mul (a := offI x false) (b := spLen x true) (p := 600) (q := 4132) (by omega) (by omega) (by omega) (by omega)
        have HN := Go.Lib.hid (fun w0 => implNearQ (1000 * offI x true * spLen x false) (offI x false * spLen x true) w0 (by omega) (by omega) (by omega) (by omega))
        have e1 : IntKind.i64.wrap (1000 * offI x true) = 1000 * offI x true := IntWalk.i64_in _ (by omega)
        have e2 : IntKind.i64.wrap (1000 * offI x true * spLen x false) = 1000 * offI x true * spLen x false := IntWalk.i64_in _ (by omega)
        have e3 : IntKind.i64.wrap (offI x false * spLen x true) = offI x false * spLen x true := IntWalk.i64_in _ (by omega)
        clear hb m1 m2 ho1 ho2 hl1 hl2
        go_enter Try.func39, Try.ntmps39
        go_wp2_with fail
        refine calls_gen (R := fun w' => Box w' w.heap.size [.int .i64 x.h.n, .int .i64 x.h.l, .int .i64 x.h.r, .int .i64 x.h.a, .int .i64 x.h.b, .int .i64 x.r.n, .int .i64 x.r.d, .int .i64 x.r.o, .int .i64 x.c] ∧ Below w.heap.size w w') ⟨Box.new rfl rfl, by go_grown⟩ ?_
        rintro W1 ⟨K1_0, B1⟩
        refine (HW.out _).mono ?_
        rintro _ W2 ⟨rfl, b2⟩
        have K2_0 := K1_0.below b2
        have B2 := upB B1 b2
        clear b2 K1_0 B1
        have k2_0_0 := K2_0.at_ 0 _ rfl
        have k2_0_1 := K2_0.at_ 1 _ rfl
        have k2_0_2 := K2_0.at_ 2 _ rfl
        have k2_0_3 := K2_0.at_ 3 _ rfl
        have k2_0_4 := K2_0.at_ 4 _ rfl
        have k2_0_5 := K2_0.at_ 5 _ rfl
        have k2_0_6 := K2_0.at_ 6 _ rfl
        have k2_0_7 := K2_0.at_ 7 _ rfl
        have k2_0_8 := K2_0.at_ 8 _ rfl
        have k2_0_f := K2_0.fr
        have k2_0_l := K2_0.lt
        go_upto_region 3 with fail
        clear k2_0_0 k2_0_1 k2_0_2 k2_0_3 k2_0_4 k2_0_5 k2_0_6 k2_0_7 k2_0_8 k2_0_f k2_0_l
        have C := Go.Lib.hid (WB.mk (w := w) (x := x) K2_0 B2)
        clear K2_0 B2
        generalize w.heap.size = Q0 at C ⊢
        have e0 := C.out.cells
        go_region_held3 (fun w' => w'.cell? ⟨Q0, 0, none⟩ = some (.int .i64 x.h.n) ∧ w'.cell? ⟨Q0, 1, none⟩ = some (.int .i64 x.h.l) ∧ w'.cell? ⟨Q0, 2, none⟩ = some (.int .i64 x.h.r) ∧ w'.cell? ⟨Q0, 3, none⟩ = some (.int .i64 x.h.a) ∧ w'.cell? ⟨Q0, 4, none⟩ = some (.int .i64 x.h.b) ∧ w'.cell? ⟨Q0, 5, none⟩ = some (.int .i64 x.r.n) ∧ w'.cell? ⟨Q0, 6, none⟩ = some (.int .i64 x.r.d) ∧ w'.cell? ⟨Q0, 7, none⟩ = some (.int .i64 x.r.o) ∧ w'.cell? ⟨Q0, 8, none⟩ = some (.int .i64 x.c))
          (first | with_reducible exact C.out.cells | with_reducible exact C.out.drew.cells)
          (first | (go_at_call 75; refine (HO.out _ _).mono ?_; rintro _ V1 ⟨rfl, b1⟩; (first | have C := Go.Lib.hid (C.out.next b1) | have C := Go.Lib.hid (C.out.drew.next b1))))
        clear e0
        go_upto_region 6 with fail
        have e0 := C.out.cells
        go_region_held3 (fun w' => w'.cell? ⟨Q0, 0, none⟩ = some (.int .i64 x.h.n) ∧ w'.cell? ⟨Q0, 1, none⟩ = some (.int .i64 x.h.l) ∧ w'.cell? ⟨Q0, 2, none⟩ = some (.int .i64 x.h.r) ∧ w'.cell? ⟨Q0, 3, none⟩ = some (.int .i64 x.h.a) ∧ w'.cell? ⟨Q0, 4, none⟩ = some (.int .i64 x.h.b) ∧ w'.cell? ⟨Q0, 5, none⟩ = some (.int .i64 x.r.n) ∧ w'.cell? ⟨Q0, 6, none⟩ = some (.int .i64 x.r.d) ∧ w'.cell? ⟨Q0, 7, none⟩ = some (.int .i64 x.r.o) ∧ w'.cell? ⟨Q0, 8, none⟩ = some (.int .i64 x.c))
          (first | with_reducible exact C.out.cells | with_reducible exact C.out.drew.cells)
          (first | (go_at_call 50; refine (HL.out _ _).mono ?_; rintro _ V1 ⟨rfl, b1⟩; (first | have C := Go.Lib.hid (C.out.next b1) | have C := Go.Lib.hid (C.out.drew.next b1))))
        clear e0
        generalize spLen x false = a1 at *
        generalize spLen x true = a2 at *
        go_wp2_with fail
        refine (HN.out _).mono ?_
        rintro _ _ ⟨rfl, rfl⟩
        go_wp2_with fail
        go_ret2
        exact ⟨by rw [HV.out]; rfl, C.out.below⟩
set_option maxRecDepth 100000 in
set_option maxHeartbeats 4000000 in
theorem implSpokeCounts (x : Wh) (w : World) : Calls Try.prog 20 #[wheelV x] w (RowsEnd (cntA x) w) := by
  have HW := Go.Lib.hid (fun w0 => implIsWheel x w0)
  cases hb : wheelB x
  · rw [hb] at HW
    have HV : Hid (cntA x = ([], 1)) := by unfold cntA; rw [hb]; rfl
    clear hb
    go_enter Try.func20, Try.ntmps20
    go_wp2_with fail
    refine calls_gen (R := fun w' => Box w' w.heap.size [.int .i64 x.h.n, .int .i64 x.h.l, .int .i64 x.h.r, .int .i64 x.h.a, .int .i64 x.h.b, .int .i64 x.r.n, .int .i64 x.r.d, .int .i64 x.r.o, .int .i64 x.c] ∧ Below w.heap.size w w') ⟨Box.new rfl rfl, by go_grown⟩ ?_
    rintro W1 ⟨K1_0, B1⟩
    refine (HW.out _).mono ?_
    rintro _ W2 ⟨rfl, b2⟩
    have K2_0 := K1_0.below b2
    have B2 := upB B1 b2
    clear b2 K1_0 B1
    have k2_0_0 := K2_0.at_ 0 _ rfl
    have k2_0_1 := K2_0.at_ 1 _ rfl
    have k2_0_2 := K2_0.at_ 2 _ rfl
    have k2_0_3 := K2_0.at_ 3 _ rfl
    have k2_0_4 := K2_0.at_ 4 _ rfl
    have k2_0_5 := K2_0.at_ 5 _ rfl
    have k2_0_6 := K2_0.at_ 6 _ rfl
    have k2_0_7 := K2_0.at_ 7 _ rfl
    have k2_0_8 := K2_0.at_ 8 _ rfl
    have k2_0_f := K2_0.fr
    have k2_0_l := K2_0.lt
    go_wp2_with fail
    go_ret2
    exact RowsEnd.of HV.out rfl (grid0 _ _ _ _) B2
  · rw [hb] at HW
    have HL := Go.Lib.hid (fun r w0 => implLen x r w0 hb)
    have hv : cntA x = (countsL x, 0) := by unfold cntA; rw [hb]; rfl
    unfold countsL at hv
    obtain ⟨⟨n0, n1, n2⟩, -⟩ := wheel_bd hb
    have hd : x.h.n.tdiv 2 = x.h.n / 2 := Int.tdiv_eq_ediv_of_nonneg (by omega)
    have e1 : IntKind.i64.wrap (x.h.n / 2) = x.h.n / 2 := IntWalk.i64_in _ (by omega)
    have e2 : 2 * (x.h.n / 2) = x.h.n := by omega
    rw [e2] at hv
    clear n0 n1 n2 hb e2
    obtain ⟨a, ha⟩ : ∃ a, a = spLen x false := ⟨_, rfl⟩
    obtain ⟨b, hbb⟩ : ∃ b, b = spLen x true := ⟨_, rfl⟩
    rw [← ha, ← hbb] at hv
    have HA := Go.Lib.hid ha
    have HB := Go.Lib.hid hbb
    clear ha hbb
    by_cases hab : a = b
    · rw [if_pos hab] at hv
      have HV := Go.Lib.hid hv
      have hq : (a == b) = true := by simp [hab]
      clear hv
      go_enter Try.func20, Try.ntmps20
      go_wp2_with fail
      refine calls_gen (R := fun w' => Box w' w.heap.size [.int .i64 x.h.n, .int .i64 x.h.l, .int .i64 x.h.r, .int .i64 x.h.a, .int .i64 x.h.b, .int .i64 x.r.n, .int .i64 x.r.d, .int .i64 x.r.o, .int .i64 x.c] ∧ Below w.heap.size w w') ⟨Box.new rfl rfl, by go_grown⟩ ?_
      rintro W1 ⟨K1_0, B1⟩
      refine (HW.out _).mono ?_
      rintro _ W2 ⟨rfl, b2⟩
      have K2_0 := K1_0.below b2
      have B2 := upB B1 b2
      clear b2 K1_0 B1
      have k2_0_0 := K2_0.at_ 0 _ rfl
      have k2_0_1 := K2_0.at_ 1 _ rfl
      have k2_0_2 := K2_0.at_ 2 _ rfl
      have k2_0_3 := K2_0.at_ 3 _ rfl
      have k2_0_4 := K2_0.at_ 4 _ rfl
      have k2_0_5 := K2_0.at_ 5 _ rfl
      have k2_0_6 := K2_0.at_ 6 _ rfl
      have k2_0_7 := K2_0.at_ 7 _ rfl
      have k2_0_8 := K2_0.at_ 8 _ rfl
      have k2_0_f := K2_0.fr
      have k2_0_l := K2_0.lt
      go_upto_region 3 with fail
      clear k2_0_0 k2_0_1 k2_0_2 k2_0_3 k2_0_4 k2_0_5 k2_0_6 k2_0_7 k2_0_8 k2_0_f k2_0_l
      have C := Go.Lib.hid (WB.mk (w := w) (x := x) K2_0 B2)
      clear K2_0 B2
      generalize w.heap.size = Q0 at C ⊢
      have e0 := C.out.cells
      go_region_held3 (fun w' => w'.cell? ⟨Q0, 0, none⟩ = some (.int .i64 x.h.n) ∧ w'.cell? ⟨Q0, 1, none⟩ = some (.int .i64 x.h.l) ∧ w'.cell? ⟨Q0, 2, none⟩ = some (.int .i64 x.h.r) ∧ w'.cell? ⟨Q0, 3, none⟩ = some (.int .i64 x.h.a) ∧ w'.cell? ⟨Q0, 4, none⟩ = some (.int .i64 x.h.b) ∧ w'.cell? ⟨Q0, 5, none⟩ = some (.int .i64 x.r.n) ∧ w'.cell? ⟨Q0, 6, none⟩ = some (.int .i64 x.r.d) ∧ w'.cell? ⟨Q0, 7, none⟩ = some (.int .i64 x.r.o) ∧ w'.cell? ⟨Q0, 8, none⟩ = some (.int .i64 x.c))
        (first | with_reducible exact C.out.cells | with_reducible exact C.out.drew.cells)
        (first | (go_at_call 50; refine (HL.out _ _).mono ?_; rintro _ V1 ⟨rfl, b1⟩; (first | have C := Go.Lib.hid (C.out.next b1) | have C := Go.Lib.hid (C.out.drew.next b1))))
      clear e0
      go_upto_region 4 with fail
      have HA2 := HA.out
      have HB2 := HB.out
      rw [← HA2, ← HB2]
      clear HA2 HB2
      refine wp_gen (R := fun w' => WB w Q0 x w') C.out ?_
      clear C
      rintro V CV
      have kc := CV.cells.1
      have kf := CV.box.fr
      have kl := CV.box.lt
      have BV := CV.below
      clear CV
      go_wp2_with fail
      subst hab
      have BS := BV.size
      go_ret2
      exact RowsEnd.of HV.out rfl ((grid1 V _ _ _ _ _ rfl).mono BS (by simp)) (by go_grown)
    · rw [if_neg hab] at hv
      have hq : (a == b) = false := by simp [hab]
      by_cases hlt : a < b
      · have hgt : ¬ b < a := by omega
        rw [show min a b = a by omega, show max a b = b by omega] at hv
        have HV := Go.Lib.hid hv
        clear hv hab
        go_enter Try.func20, Try.ntmps20
        go_wp2_with fail
        refine calls_gen (R := fun w' => Box w' w.heap.size [.int .i64 x.h.n, .int .i64 x.h.l, .int .i64 x.h.r, .int .i64 x.h.a, .int .i64 x.h.b, .int .i64 x.r.n, .int .i64 x.r.d, .int .i64 x.r.o, .int .i64 x.c] ∧ Below w.heap.size w w') ⟨Box.new rfl rfl, by go_grown⟩ ?_
        rintro W1 ⟨K1_0, B1⟩
        refine (HW.out _).mono ?_
        rintro _ W2 ⟨rfl, b2⟩
        have K2_0 := K1_0.below b2
        have B2 := upB B1 b2
        clear b2 K1_0 B1
        have k2_0_0 := K2_0.at_ 0 _ rfl
        have k2_0_1 := K2_0.at_ 1 _ rfl
        have k2_0_2 := K2_0.at_ 2 _ rfl
        have k2_0_3 := K2_0.at_ 3 _ rfl
        have k2_0_4 := K2_0.at_ 4 _ rfl
        have k2_0_5 := K2_0.at_ 5 _ rfl
        have k2_0_6 := K2_0.at_ 6 _ rfl
        have k2_0_7 := K2_0.at_ 7 _ rfl
        have k2_0_8 := K2_0.at_ 8 _ rfl
        have k2_0_f := K2_0.fr
        have k2_0_l := K2_0.lt
        go_upto_region 3 with fail
        clear k2_0_0 k2_0_1 k2_0_2 k2_0_3 k2_0_4 k2_0_5 k2_0_6 k2_0_7 k2_0_8 k2_0_f k2_0_l
        have C := Go.Lib.hid (WB.mk (w := w) (x := x) K2_0 B2)
        clear K2_0 B2
        generalize w.heap.size = Q0 at C ⊢
        have e0 := C.out.cells
        go_region_held3 (fun w' => w'.cell? ⟨Q0, 0, none⟩ = some (.int .i64 x.h.n) ∧ w'.cell? ⟨Q0, 1, none⟩ = some (.int .i64 x.h.l) ∧ w'.cell? ⟨Q0, 2, none⟩ = some (.int .i64 x.h.r) ∧ w'.cell? ⟨Q0, 3, none⟩ = some (.int .i64 x.h.a) ∧ w'.cell? ⟨Q0, 4, none⟩ = some (.int .i64 x.h.b) ∧ w'.cell? ⟨Q0, 5, none⟩ = some (.int .i64 x.r.n) ∧ w'.cell? ⟨Q0, 6, none⟩ = some (.int .i64 x.r.d) ∧ w'.cell? ⟨Q0, 7, none⟩ = some (.int .i64 x.r.o) ∧ w'.cell? ⟨Q0, 8, none⟩ = some (.int .i64 x.c))
          (first | with_reducible exact C.out.cells | with_reducible exact C.out.drew.cells)
          (first | (go_at_call 50; refine (HL.out _ _).mono ?_; rintro _ V1 ⟨rfl, b1⟩; (first | have C := Go.Lib.hid (C.out.next b1) | have C := Go.Lib.hid (C.out.drew.next b1))))
        clear e0
        go_upto_region 4 with fail
        have HA2 := HA.out
        have HB2 := HB.out
        rw [← HA2, ← HB2]
        clear HA2 HB2
        refine wp_gen (R := fun w' => WB w Q0 x w') C.out ?_
        clear C
        rintro V CV
        have kc := CV.cells.1
        have kf := CV.box.fr
        have kl := CV.box.lt
        have BV := CV.below
        clear CV
        go_wp2_with fail
        have BS := BV.size
        go_ret2
        exact RowsEnd.of HV.out rfl ((grid2 V _ _ _ _ _ _ _ rfl).mono BS (by simp)) (by go_grown)
      · have hgt : b < a := by omega
        rw [show min a b = b by omega, show max a b = a by omega] at hv
        have HV := Go.Lib.hid hv
        clear hv hab
        go_enter Try.func20, Try.ntmps20
        go_wp2_with fail
        refine calls_gen (R := fun w' => Box w' w.heap.size [.int .i64 x.h.n, .int .i64 x.h.l, .int .i64 x.h.r, .int .i64 x.h.a, .int .i64 x.h.b, .int .i64 x.r.n, .int .i64 x.r.d, .int .i64 x.r.o, .int .i64 x.c] ∧ Below w.heap.size w w') ⟨Box.new rfl rfl, by go_grown⟩ ?_
        rintro W1 ⟨K1_0, B1⟩
        refine (HW.out _).mono ?_
        rintro _ W2 ⟨rfl, b2⟩
        have K2_0 := K1_0.below b2
        have B2 := upB B1 b2
        clear b2 K1_0 B1
        have k2_0_0 := K2_0.at_ 0 _ rfl
        have k2_0_1 := K2_0.at_ 1 _ rfl
        have k2_0_2 := K2_0.at_ 2 _ rfl
        have k2_0_3 := K2_0.at_ 3 _ rfl
        have k2_0_4 := K2_0.at_ 4 _ rfl
        have k2_0_5 := K2_0.at_ 5 _ rfl
        have k2_0_6 := K2_0.at_ 6 _ rfl
        have k2_0_7 := K2_0.at_ 7 _ rfl
        have k2_0_8 := K2_0.at_ 8 _ rfl
        have k2_0_f := K2_0.fr
        have k2_0_l := K2_0.lt
        go_upto_region 3 with fail
        clear k2_0_0 k2_0_1 k2_0_2 k2_0_3 k2_0_4 k2_0_5 k2_0_6 k2_0_7 k2_0_8 k2_0_f k2_0_l
        have C := Go.Lib.hid (WB.mk (w := w) (x := x) K2_0 B2)
        clear K2_0 B2
        generalize w.heap.size = Q0 at C ⊢
        have e0 := C.out.cells
        go_region_held3 (fun w' => w'.cell? ⟨Q0, 0, none⟩ = some (.int .i64 x.h.n) ∧ w'.cell? ⟨Q0, 1, none⟩ = some (.int .i64 x.h.l) ∧ w'.cell? ⟨Q0, 2, none⟩ = some (.int .i64 x.h.r) ∧ w'.cell? ⟨Q0, 3, none⟩ = some (.int .i64 x.h.a) ∧ w'.cell? ⟨Q0, 4, none⟩ = some (.int .i64 x.h.b) ∧ w'.cell? ⟨Q0, 5, none⟩ = some (.int .i64 x.r.n) ∧ w'.cell? ⟨Q0, 6, none⟩ = some (.int .i64 x.r.d) ∧ w'.cell? ⟨Q0, 7, none⟩ = some (.int .i64 x.r.o) ∧ w'.cell? ⟨Q0, 8, none⟩ = some (.int .i64 x.c))
          (first | with_reducible exact C.out.cells | with_reducible exact C.out.drew.cells)
          (first | (go_at_call 50; refine (HL.out _ _).mono ?_; rintro _ V1 ⟨rfl, b1⟩; (first | have C := Go.Lib.hid (C.out.next b1) | have C := Go.Lib.hid (C.out.drew.next b1))))
        clear e0
        go_upto_region 4 with fail
        have HA2 := HA.out
        have HB2 := HB.out
        rw [← HA2, ← HB2]
        clear HA2 HB2
        refine wp_gen (R := fun w' => WB w Q0 x w') C.out ?_
        clear C
        rintro V CV
        have kc := CV.cells.1
        have kf := CV.box.fr
        have kl := CV.box.lt
        have BV := CV.below
        clear CV
        go_wp2_with fail
        have BS := BV.size
        go_ret2
        exact RowsEnd.of HV.out rfl ((grid2 V _ _ _ _ _ _ _ rfl).mono BS (by simp)) (by go_grown)
end Go.Proofs.Ytabcbecmieolhaa
