/- Contracts of the model's SpokesFor, CrossesFor. -/
import Derived.Test.YtifblmcocikopabSpoke2
namespace Go.Proofs.Ytifblmcocikopab
open Go.RowKit
section
end

abbrev tripI (p : Int × Int × Int) : Value := .tuple #[.int .i64 p.1, .int .i64 p.2.1, .int .i64 p.2.2]
set_option maxRecDepth 100000 in
set_option maxHeartbeats 4000000 in
theorem specSpokesFor (x : Wh) (A : Option Addr) (n cap : Nat) (zs : List Int) (lo : Nat) (w : World) (h : Rd w lo w.heap.size A n (ints zs)) (hn : n ≤ 1048576) : Calls Try.prog 12 #[wheelV x, .slice A n cap] w (IsV w (tripI (forA x zs))) := by
  have HW := Go.Lib.hid (fun w0 => specIsWheel x w0)
  cases hb : wheelB x
  · rw [hb] at HW
    have HV : Hid (forA x zs = (0, 0, 1)) := by unfold forA; rw [hb]; rfl
    clear hb
    go_enter Try.func12, Try.ntmps12
    go_wp2_with fail
    refine calls_gen (R := fun w' => Box w' w.heap.size [.int .i64 x.h.n, .int .i64 x.h.l, .int .i64 x.h.r, .int .i64 x.h.a, .int .i64 x.h.b, .int .i64 x.r.n, .int .i64 x.r.d, .int .i64 x.r.o, .int .i64 x.c] ∧ Below w.heap.size w w') ⟨Box.new rfl rfl, by go_grown⟩ ?_
    rintro W1 ⟨K1_0, B1⟩
    refine (HW.out _).mono ?_
    rintro _ W2 ⟨rfl, b2⟩
    have K2_0 := K1_0.below b2
    have B2 := upB B1 b2
    clear b2 K1_0 B1
    have k2_0_0 := K2_0.at_ 0 _ rfl
    have k2_0_1 := K2_0.at_ 1 _ rfl
    have k2_0_2 := K2_0.at_ 2 _ rfl
    have k2_0_3 := K2_0.at_ 3 _ rfl
    have k2_0_4 := K2_0.at_ 4 _ rfl
    have k2_0_5 := K2_0.at_ 5 _ rfl
    have k2_0_6 := K2_0.at_ 6 _ rfl
    have k2_0_7 := K2_0.at_ 7 _ rfl
    have k2_0_8 := K2_0.at_ 8 _ rfl
    have k2_0_f := K2_0.fr
    have k2_0_l := K2_0.lt
    go_wp2_with fail
    go_ret3
    exact ⟨by rw [HV.out]; rfl, B2⟩
  · rw [hb] at HW
    have HS := Go.Lib.hid (fun w0 (h0 : Rd w0 lo w.heap.size A n (ints zs)) => specStock A n cap zs lo w.heap.size w0 h0 hn)
    have HH := Go.Lib.hid h
    cases hs : stockB zs
    · rw [hs] at HS
      have HV : Hid (forA x zs = (0, 0, 1)) := by unfold forA; rw [hb, hs]; rfl
      clear hb hs h
      go_enter Try.func12, Try.ntmps12
      go_wp2_with fail
      refine calls_gen (R := fun w' => Box w' w.heap.size [.int .i64 x.h.n, .int .i64 x.h.l, .int .i64 x.h.r, .int .i64 x.h.a, .int .i64 x.h.b, .int .i64 x.r.n, .int .i64 x.r.d, .int .i64 x.r.o, .int .i64 x.c] ∧ Below w.heap.size w w') ⟨Box.new rfl rfl, by go_grown⟩ ?_
      rintro W1 ⟨K1_0, B1⟩
      refine (HW.out _).mono ?_
      rintro _ W2 ⟨rfl, b2⟩
      have K2_0 := K1_0.below b2
      have B2 := upB B1 b2
      clear b2 K1_0 B1
      have k2_0_0 := K2_0.at_ 0 _ rfl
      have k2_0_1 := K2_0.at_ 1 _ rfl
      have k2_0_2 := K2_0.at_ 2 _ rfl
      have k2_0_3 := K2_0.at_ 3 _ rfl
      have k2_0_4 := K2_0.at_ 4 _ rfl
      have k2_0_5 := K2_0.at_ 5 _ rfl
      have k2_0_6 := K2_0.at_ 6 _ rfl
      have k2_0_7 := K2_0.at_ 7 _ rfl
      have k2_0_8 := K2_0.at_ 8 _ rfl
      have k2_0_f := K2_0.fr
      have k2_0_l := K2_0.lt
      go_wp2_with fail
      refine (HS.out _ (HH.out.below B2 (Nat.le_refl _))).mono ?_
      rintro _ _ ⟨rfl, d, rfl⟩
      go_wp2_with fail
      go_ret3
      exact ⟨by rw [HV.out]; rfl, below_drewN B2 d⟩
    · rw [hs] at HS
      have HL := Go.Lib.hid (fun r w0 => specLen5 x r w0 hb)
      have hl1 := spLen_bd (r := false) hb
      have hl2 := spLen_bd (r := true) hb
      have HC := Go.Lib.hid (fun m w0 (h0 : Rd w0 lo w.heap.size A n (ints zs)) (m0 : -1000000 ≤ m) (m1 : m ≤ 1000000) => specChoose A n cap zs m lo w.heap.size w0 h0 hn m0 m1)
      have hv : forA x zs = if choL zs (spLen x false) < 0 ∨ choL zs (spLen x true) < 0 then (0, 0, 4) else (choL zs (spLen x false), choL zs (spLen x true), 0) := by unfold forA; rw [hb, hs]; rfl
      have HVV := Go.Lib.hid hv
      clear hv
      have HC1 := Go.Lib.hid (fun w0 h0 => HC.out (spLen x false) w0 h0 (by omega) (by omega))
      have HC2 := Go.Lib.hid (fun w0 h0 => HC.out (spLen x true) w0 h0 (by omega) (by omega))
      clear hb hs h HC hl1 hl2
      go_enter Try.func12, Try.ntmps12
      go_wp2_with fail
      refine calls_gen (R := fun w' => Box w' w.heap.size [.int .i64 x.h.n, .int .i64 x.h.l, .int .i64 x.h.r, .int .i64 x.h.a, .int .i64 x.h.b, .int .i64 x.r.n, .int .i64 x.r.d, .int .i64 x.r.o, .int .i64 x.c] ∧ Below w.heap.size w w') ⟨Box.new rfl rfl, by go_grown⟩ ?_
      rintro W1 ⟨K1_0, B1⟩
      refine (HW.out _).mono ?_
      rintro _ W2 ⟨rfl, b2⟩
      have K2_0 := K1_0.below b2
      have B2 := upB B1 b2
      clear b2 K1_0 B1
      have k2_0_0 := K2_0.at_ 0 _ rfl
      have k2_0_1 := K2_0.at_ 1 _ rfl
      have k2_0_2 := K2_0.at_ 2 _ rfl
      have k2_0_3 := K2_0.at_ 3 _ rfl
      have k2_0_4 := K2_0.at_ 4 _ rfl
      have k2_0_5 := K2_0.at_ 5 _ rfl
      have k2_0_6 := K2_0.at_ 6 _ rfl
      have k2_0_7 := K2_0.at_ 7 _ rfl
      have k2_0_8 := K2_0.at_ 8 _ rfl
      have k2_0_f := K2_0.fr
      have k2_0_l := K2_0.lt
      go_wp2_with fail
      refine (HS.out _ (HH.out.below B2 (Nat.le_refl _))).mono ?_
      rintro _ _ ⟨rfl, d, rfl⟩
      go_upto_region 3 with fail
      clear k2_0_0 k2_0_1 k2_0_2 k2_0_3 k2_0_4 k2_0_5 k2_0_6 k2_0_7 k2_0_8 k2_0_f k2_0_l
      refine wp_gen (R := WB w w.heap.size x) ⟨K2_0.drewN d, below_drewN B2 d⟩ ?_
      clear K2_0 B2
      rintro W4 c0
      have BH := Go.Lib.hid (Nat.le_refl w.heap.size)
      obtain ⟨Q0, hQ0⟩ : ∃ q, q = w.heap.size := ⟨_, rfl⟩
      rw [← hQ0] at c0 ⊢
      clear hQ0
      have C := Go.Lib.hid c0
      clear c0
      have e0 := C.out.cells
      go_region_held3 (fun w' => w'.cell? ⟨Q0, 0, none⟩ = some (.int .i64 x.h.n) ∧ w'.cell? ⟨Q0, 1, none⟩ = some (.int .i64 x.h.l) ∧ w'.cell? ⟨Q0, 2, none⟩ = some (.int .i64 x.h.r) ∧ w'.cell? ⟨Q0, 3, none⟩ = some (.int .i64 x.h.a) ∧ w'.cell? ⟨Q0, 4, none⟩ = some (.int .i64 x.h.b) ∧ w'.cell? ⟨Q0, 5, none⟩ = some (.int .i64 x.r.n) ∧ w'.cell? ⟨Q0, 6, none⟩ = some (.int .i64 x.r.d) ∧ w'.cell? ⟨Q0, 7, none⟩ = some (.int .i64 x.r.o) ∧ w'.cell? ⟨Q0, 8, none⟩ = some (.int .i64 x.c))
        (first | with_reducible exact C.out.cells | with_reducible exact C.out.drew.cells)
        (first | (go_at_call 34; refine (HL.out _ _).mono ?_; rintro _ V1 ⟨rfl, b1⟩; (first | have C := Go.Lib.hid (C.out.next b1) | have C := Go.Lib.hid (C.out.drew.next b1))))
      clear e0
      generalize spLen x false = p1 at *
      generalize spLen x true = p2 at *
      generalize choL zs p1 = c1 at *
      generalize choL zs p2 = c2 at *
      go_wp2_with fail
      refine (HC1.out _ (HH.out.below C.out.below (Nat.le_refl _))).mono ?_
      rintro _ _ ⟨rfl, d1, rfl⟩
      go_wp2_with fail
      refine (HC2.out _ ((HH.out.below C.out.below (Nat.le_refl _)).drewN d1)).mono ?_
      rintro _ _ ⟨rfl, d2, rfl⟩
      by_cases h1 : c1 < 0
      · have HV : Hid ((if c1 < 0 ∨ c2 < 0 then ((0 : Int), (0 : Int), (4 : Int)) else (c1, c2, 0)) = (0, 0, 4)) := if_pos (.inl h1)
        go_wp2_with fail
        go_ret3
        exact ⟨by rw [HVV.out, HV.out]; rfl, below_drewN C.out.below (d1 + d2)⟩
      · by_cases h2 : c2 < 0
        · have HV : Hid ((if c1 < 0 ∨ c2 < 0 then ((0 : Int), (0 : Int), (4 : Int)) else (c1, c2, 0)) = (0, 0, 4)) := if_pos (.inr h2)
          go_wp2_with fail
          go_ret3
          exact ⟨by rw [HVV.out, HV.out]; rfl, below_drewN C.out.below (d1 + d2)⟩
        · have HV : Hid ((if c1 < 0 ∨ c2 < 0 then ((0 : Int), (0 : Int), (4 : Int)) else (c1, c2, 0)) = (c1, c2, 0)) := if_neg (by omega)
          go_wp2_with fail
          go_ret3
          exact ⟨by rw [HVV.out, HV.out]; rfl, below_drewN C.out.below (d1 + d2)⟩
end Go.Proofs.Ytifblmcocikopab
