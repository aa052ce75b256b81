/- Contracts of the model's SpokesFor, CrossesFor. -/
import Derived.Test.YtabcbecmieolhaaSpoke2
namespace Go.Proofs.Ytabcbecmieolhaa
open Go.RowKit

abbrev tripI (p : Int × Int × Int) : Value := .tuple #[.int .i64 p.1, .int .i64 p.2.1, .int .i64 p.2.2]
set_option maxRecDepth 100000 in
set_option maxHeartbeats 4000000 in
theorem specSpokesFor (x : Wh) (A : Option Addr) (n cap : Nat) (zs : List Int) (lo : Nat) (w : World) (h : Rd w lo w.heap.size A n (ints zs)) (hn : n ≤ 1048576) : Calls Try.prog 29 #[wheelV x, .slice A n cap] w (IsV w (tripI (forA x zs))) := by
  have HW := Go.Lib.hid (fun w0 => specIsWheel x w0)
  cases hb : wheelB x
  · rw [hb] at HW
    have HV : Hid (forA x zs = (0, 0, 1)) := by unfold forA; rw [hb]; rfl
    clear hb
    go_enter Try.func29, Try.ntmps29
    go_wp2_with fail
    refine calls_gen (R := fun w' => Box w' w.heap.size [.int .i64 x.h.n, .int .i64 x.h.l, .int .i64 x.h.r, .int .i64 x.h.a, .int .i64 x.h.b, .int .i64 x.r.n, .int .i64 x.r.d, .int .i64 x.r.o, .int .i64 x.c] ∧ Below w.heap.size w w') ⟨Box.new rfl rfl, by go_grown⟩ ?_
    rintro W1 ⟨K1_0, B1⟩
    refine (HW.out _).mono ?_
    rintro _ W2 ⟨rfl, b2⟩
    have K2_0 := K1_0.below b2
    have B2 := upB B1 b2
    clear b2 K1_0 B1
    have k2_0_0 := K2_0.at_ 0 _ rfl
    have k2_0_1 := K2_0.at_ 1 _ rfl
    have k2_0_2 := K2_0.at_ 2 _ rfl
    have k2_0_3 := K2_0.at_ 3 _ rfl
    have k2_0_4 := K2_0.at_ 4 _ rfl
    have k2_0_5 := K2_0.at_ 5 _ rfl
    have k2_0_6 := K2_0.at_ 6 _ rfl
    have k2_0_7 := K2_0.at_ 7 _ rfl
    have k2_0_8 := K2_0.at_ 8 _ rfl
    have k2_0_f := K2_0.fr
    have k2_0_l := K2_0.lt
    go_wp2_with fail
    go_ret3
    exact ⟨by rw [HV.out]; rfl, B2⟩
  · rw [hb] at HW
    have HS := Go.Lib.hid (fun w0 (h0 : Rd w0 lo w.heap.size A n (ints zs)) => specStock A n cap zs lo w.heap.size w0 h0 hn)
    have HH := Go.Lib.hid h
    cases hs : stockB zs
    · rw [hs] at HS
      have HV : Hid (forA x zs = (0, 0, 1)) := by unfold forA; rw [hb, hs]; rfl
      clear hb hs h
      go_enter Try.func29, Try.ntmps29
      go_wp2_with fail
      refine calls_gen (R := fun w' => Box w' w.heap.size [.int .i64 x.h.n, .int .i64 x.h.l, .int .i64 x.h.r, .int .i64 x.h.a, .int .i64 x.h.b, .int .i64 x.r.n, .int .i64 x.r.d, .int .i64 x.r.o, .int .i64 x.c] ∧ Below w.heap.size w w') ⟨Box.new rfl rfl, by go_grown⟩ ?_
      rintro W1 ⟨K1_0, B1⟩
      refine (HW.out _).mono ?_
      rintro _ W2 ⟨rfl, b2⟩
      have K2_0 := K1_0.below b2
      have B2 := upB B1 b2
      clear b2 K1_0 B1
      have k2_0_0 := K2_0.at_ 0 _ rfl
      have k2_0_1 := K2_0.at_ 1 _ rfl
      have k2_0_2 := K2_0.at_ 2 _ rfl
      have k2_0_3 := K2_0.at_ 3 _ rfl
      have k2_0_4 := K2_0.at_ 4 _ rfl
      have k2_0_5 := K2_0.at_ 5 _ rfl
      have k2_0_6 := K2_0.at_ 6 _ rfl
      have k2_0_7 := K2_0.at_ 7 _ rfl
      have k2_0_8 := K2_0.at_ 8 _ rfl
      have k2_0_f := K2_0.fr
      have k2_0_l := K2_0.lt
      go_wp2_with fail
      refine (HS.out _ (HH.out.below B2 (Nat.le_refl _))).mono ?_
      rintro _ _ ⟨rfl, d, rfl⟩
      go_wp2_with fail
      go_ret3
      exact ⟨by rw [HV.out]; rfl, below_drewN B2 d⟩
    · rw [hs] at HS
      have HL := Go.Lib.hid (fun r w0 => specLen5 x r w0 hb)
      have hl1 := spLen_bd (r := false) hb
      have hl2 := spLen_bd (r := true) hb
      have HC := Go.Lib.hid (fun m w0 (h0 : Rd w0 lo w.heap.size A n (ints zs)) (m0 : -1000000 ≤ m) (m1 : m ≤ 1000000) => specChoose A n cap zs m lo w.heap.size w0 h0 hn m0 m1)
      have hv : forA x zs = if choL zs (spLen x false) < 0 ∨ choL zs (spLen x true) < 0 then (0, 0, 4) else (choL zs (spLen x false), choL zs (spLen x true), 0) := by unfold forA; rw [hb, hs]; rfl
      have HVV := Go.Lib.hid hv
      clear hv
      have HC1 := Go.Lib.hid (fun w0 h0 => HC.out (spLen x false) w0 h0 (by omega) (by omega))
      have HC2 := Go.Lib.hid (fun w0 h0 => HC.out (spLen x true) w0 h0 (by omega) (by omega))
      clear hb hs h HC hl1 hl2
      go_enter Try.func29, Try.ntmps29
      go_wp2_with fail
      refine calls_gen (R := fun w' => Box w' w.heap.size [.int .i64 x.h.n, .int .i64 x.h.l, .int .i64 x.h.r, .int .i64 x.h.a, .int .i64 x.h.b, .int .i64 x.r.n, .int .i64 x.r.d, .int .i64 x.r.o, .int .i64 x.c] ∧ Below w.heap.size w w') ⟨Box.new rfl rfl, by go_grown⟩ ?_
      rintro W1 ⟨K1_0, B1⟩
      refine (HW.out _).mono ?_
      rintro _ W2 ⟨rfl, b2⟩
      have K2_0 := K1_0.below b2
      have B2 := upB B1 b2
      clear b2 K1_0 B1
      have k2_0_0 := K2_0.at_ 0 _ rfl
      have k2_0_1 := K2_0.at_ 1 _ rfl
      have k2_0_2 := K2_0.at_ 2 _ rfl
      have k2_0_3 := K2_0.at_ 3 _ rfl
      have k2_0_4 := K2_0.at_ 4 _ rfl
      have k2_0_5 := K2_0.at_ 5 _ rfl
      have k2_0_6 := K2_0.at_ 6 _ rfl
      have k2_0_7 := K2_0.at_ 7 _ rfl
      have k2_0_8 := K2_0.at_ 8 _ rfl
      have k2_0_f := K2_0.fr
      have k2_0_l := K2_0.lt
      go_wp2_with fail
      refine (HS.out _ (HH.out.below B2 (Nat.le_refl _))).mono ?_
      rintro _ _ ⟨rfl, d, rfl⟩
      go_upto_region 3 with fail
      clear k2_0_0 k2_0_1 k2_0_2 k2_0_3 k2_0_4 k2_0_5 k2_0_6 k2_0_7 k2_0_8 k2_0_f k2_0_l
      refine wp_gen (R := WB w w.heap.size x) ⟨K2_0.drewN d, below_drewN B2 d⟩ ?_
      clear K2_0 B2
      rintro W4 c0
      have BH := Go.Lib.hid (Nat.le_refl w.heap.size)
      obtain ⟨Q0, hQ0⟩ : ∃ q, q = w.heap.size := ⟨_, rfl⟩
      rw [← hQ0] at c0 ⊢
      clear hQ0
      have C := Go.Lib.hid c0
      clear c0
      have e0 := C.out.cells
      go_region_held3 (fun w' => w'.cell? ⟨Q0, 0, none⟩ = some (.int .i64 x.h.n) ∧ w'.cell? ⟨Q0, 1, none⟩ = some (.int .i64 x.h.l) ∧ w'.cell? ⟨Q0, 2, none⟩ = some (.int .i64 x.h.r) ∧ w'.cell? ⟨Q0, 3, none⟩ = some (.int .i64 x.h.a) ∧ w'.cell? ⟨Q0, 4, none⟩ = some (.int .i64 x.h.b) ∧ w'.cell? ⟨Q0, 5, none⟩ = some (.int .i64 x.r.n) ∧ w'.cell? ⟨Q0, 6, none⟩ = some (.int .i64 x.r.d) ∧ w'.cell? ⟨Q0, 7, none⟩ = some (.int .i64 x.r.o) ∧ w'.cell? ⟨Q0, 8, none⟩ = some (.int .i64 x.c))
        (first | with_reducible exact C.out.cells | with_reducible exact C.out.drew.cells)
        (first | (go_at_call 52; refine (HL.out _ _).mono ?_; rintro _ V1 ⟨rfl, b1⟩; (first | have C := Go.Lib.hid (C.out.next b1) | have C := Go.Lib.hid (C.out.drew.next b1))))
      clear e0
      generalize spLen x false = p1 at *
      generalize spLen x true = p2 at *
      generalize choL zs p1 = c1 at *
      generalize choL zs p2 = c2 at *
      go_wp2_with fail
      refine (HC1.out _ (HH.out.below C.out.below (Nat.le_refl _))).mono ?_
      rintro _ _ ⟨rfl, d1, rfl⟩
      go_wp2_with fail
      refine (HC2.out _ ((HH.out.below C.out.below (Nat.le_refl _)).drewN d1)).mono ?_
      rintro _ _ ⟨rfl, d2, rfl⟩
      by_cases h1 : c1 < 0
      · have HV : Hid ((if c1 < 0 ∨ c2 < 0 then ((0 : Int), (0 : Int), (4 : Int)) else (c1, c2, 0)) = (0, 0, 4)) := if_pos (.inl h1)
        go_wp2_with fail
        go_ret3
        exact ⟨by rw [HVV.out, HV.out]; rfl, below_drewN C.out.below (d1 + d2)⟩
      · by_cases h2 : c2 < 0
        · have HV : Hid ((if c1 < 0 ∨ c2 < 0 then ((0 : Int), (0 : Int), (4 : Int)) else (c1, c2, 0)) = (0, 0, 4)) := if_pos (.inr h2)
          go_wp2_with fail
          go_ret3
          exact ⟨by rw [HVV.out, HV.out]; rfl, below_drewN C.out.below (d1 + d2)⟩
        · have HV : Hid ((if c1 < 0 ∨ c2 < 0 then ((0 : Int), (0 : Int), (4 : Int)) else (c1, c2, 0)) = (c1, c2, 0)) := if_neg (by omega)
          go_wp2_with fail
          go_ret3
          exact ⟨by rw [HVV.out, HV.out]; rfl, below_drewN C.out.below (d1 + d2)⟩
set_option maxRecDepth 100000 in
set_option maxHeartbeats 4000000 in
theorem specCrossesFor (x : Wh) (r : Bool) (m : Int) (w : World) : Calls Try.prog 37 #[wheelV x, .bool r, .int .i64 m] w (IsV w (pairI (crsA x r m))) := by
  have HW := Go.Lib.hid (fun w0 => specIsWheel x w0)
  cases hb : wheelB x
  · rw [hb] at HW
    have HV : Hid (crsA x r m = (0, 1)) := by unfold crsA; rw [hb]; rfl
    clear hb
    go_enter Try.func37, Try.ntmps37
    go_wp2_with fail
    refine calls_gen (R := fun w' => Box w' w.heap.size [.int .i64 x.h.n, .int .i64 x.h.l, .int .i64 x.h.r, .int .i64 x.h.a, .int .i64 x.h.b, .int .i64 x.r.n, .int .i64 x.r.d, .int .i64 x.r.o, .int .i64 x.c] ∧ Below w.heap.size w w') ⟨Box.new rfl rfl, by go_grown⟩ ?_
    rintro W1 ⟨K1_0, B1⟩
    refine (HW.out _).mono ?_
    rintro _ W2 ⟨rfl, b2⟩
    have K2_0 := K1_0.below b2
    have B2 := upB B1 b2
    clear b2 K1_0 B1
    have k2_0_0 := K2_0.at_ 0 _ rfl
    have k2_0_1 := K2_0.at_ 1 _ rfl
    have k2_0_2 := K2_0.at_ 2 _ rfl
    have k2_0_3 := K2_0.at_ 3 _ rfl
    have k2_0_4 := K2_0.at_ 4 _ rfl
    have k2_0_5 := K2_0.at_ 5 _ rfl
    have k2_0_6 := K2_0.at_ 6 _ rfl
    have k2_0_7 := K2_0.at_ 7 _ rfl
    have k2_0_8 := K2_0.at_ 8 _ rfl
    have k2_0_f := K2_0.fr
    have k2_0_l := K2_0.lt
    go_wp2_with fail
    go_ret2
    exact ⟨by rw [HV.out]; rfl, B2⟩
  · rw [hb] at HW
    have HI := Go.Lib.hid (fun w0 => inN2 m 0 5000 w0)
    cases hi2 : inB m 0 5000
    · rw [hi2] at HI
      have HV : Hid (crsA x r m = (0, 2)) := by unfold crsA; rw [hb, hi2]; rfl
      clear hb hi2
      go_enter Try.func37, Try.ntmps37
      go_wp2_with fail
      refine calls_gen (R := fun w' => Box w' w.heap.size [.int .i64 x.h.n, .int .i64 x.h.l, .int .i64 x.h.r, .int .i64 x.h.a, .int .i64 x.h.b, .int .i64 x.r.n, .int .i64 x.r.d, .int .i64 x.r.o, .int .i64 x.c] ∧ Below w.heap.size w w') ⟨Box.new rfl rfl, by go_grown⟩ ?_
      rintro W1 ⟨K1_0, B1⟩
      refine (HW.out _).mono ?_
      rintro _ W2 ⟨rfl, b2⟩
      have K2_0 := K1_0.below b2
      have B2 := upB B1 b2
      clear b2 K1_0 B1
      have k2_0_0 := K2_0.at_ 0 _ rfl
      have k2_0_1 := K2_0.at_ 1 _ rfl
      have k2_0_2 := K2_0.at_ 2 _ rfl
      have k2_0_3 := K2_0.at_ 3 _ rfl
      have k2_0_4 := K2_0.at_ 4 _ rfl
      have k2_0_5 := K2_0.at_ 5 _ rfl
      have k2_0_6 := K2_0.at_ 6 _ rfl
      have k2_0_7 := K2_0.at_ 7 _ rfl
      have k2_0_8 := K2_0.at_ 8 _ rfl
      have k2_0_f := K2_0.fr
      have k2_0_l := K2_0.lt
      go_wp2_with fail
      refine (HI.out _).mono ?_
      rintro _ _ ⟨rfl, rfl⟩
      go_wp2_with fail
      go_ret2
      exact ⟨by rw [HV.out]; rfl, B2⟩
    · rw [hi2] at HI
      obtain ⟨m0, m1⟩ := inB_iff.1 hi2
      have HV : Hid (crsA x r m = ((bestTo x r m (x.h.n / 4).toNat).1, 0)) := by unfold crsA; rw [hb, hi2]; rfl
      have HL := Go.Lib.hid (fun c w0 (h0 : 0 ≤ c) (h1 : c < x.h.n / 4) => specLen5 (setC x c) r w0 (wheelB_setC hb h0 h1))
      have HLB := Go.Lib.hid (fun c (h0 : 0 ≤ c) (h1 : c < x.h.n / 4) => spLen_bd (r := r) (wheelB_setC hb h0 h1))
      obtain ⟨⟨n0, n1, -⟩, -⟩ := wheel_bd hb
      have hq : x.h.n.tdiv 4 = x.h.n / 4 := Int.tdiv_eq_ediv_of_nonneg (by omega)
      obtain ⟨K, hK⟩ : ∃ K, K = (x.h.n / 4).toNat := ⟨_, rfl⟩
      have hK2 : x.h.n / 4 = (K : Int) := by omega
      have hK3 : K ≤ 12 := by omega
      rw [← hK] at HV
      rw [hK2] at hq HL HLB
      clear hb hi2 hK hK2 n0 n1
      go_enter Try.func37, Try.ntmps37
      go_wp2_with fail
      refine calls_gen (R := fun w' => Box w' w.heap.size [.int .i64 x.h.n, .int .i64 x.h.l, .int .i64 x.h.r, .int .i64 x.h.a, .int .i64 x.h.b, .int .i64 x.r.n, .int .i64 x.r.d, .int .i64 x.r.o, .int .i64 x.c] ∧ Below w.heap.size w w') ⟨Box.new rfl rfl, by go_grown⟩ ?_
      rintro W1 ⟨K1_0, B1⟩
      refine (HW.out _).mono ?_
      rintro _ W2 ⟨rfl, b2⟩
      have K2_0 := K1_0.below b2
      have B2 := upB B1 b2
      clear b2 K1_0 B1
      have k2_0_0 := K2_0.at_ 0 _ rfl
      have k2_0_1 := K2_0.at_ 1 _ rfl
      have k2_0_2 := K2_0.at_ 2 _ rfl
      have k2_0_3 := K2_0.at_ 3 _ rfl
      have k2_0_4 := K2_0.at_ 4 _ rfl
      have k2_0_5 := K2_0.at_ 5 _ rfl
      have k2_0_6 := K2_0.at_ 6 _ rfl
      have k2_0_7 := K2_0.at_ 7 _ rfl
      have k2_0_8 := K2_0.at_ 8 _ rfl
      have k2_0_f := K2_0.fr
      have k2_0_l := K2_0.lt
      go_wp2_with fail
      refine (HI.out _).mono ?_
      rintro _ _ ⟨rfl, rfl⟩
      clear k2_0_0 k2_0_1 k2_0_2 k2_0_3 k2_0_4 k2_0_5 k2_0_6 k2_0_7 k2_0_8 k2_0_f k2_0_l
      go_wp2_with fail
      have c0 : WB w w.heap.size x W2 := ⟨K2_0, B2⟩
      clear K2_0 B2
      have hQ : w.heap.size ≤ w.heap.size := Nat.le_refl _
      obtain ⟨Q0, hQ0⟩ : ∃ q, q = w.heap.size := ⟨_, rfl⟩
      skip
      have C0 := Go.Lib.hid c0
      clear c0 hQ hQ0
      go_loopw [8, 9, 10] (fun b l c wr => ∃ k : Nat, k ≤ K ∧ c = .int .i64 k ∧ b = .int .i64 (bestTo x r m k).1 ∧ l = .int .i64 (bestTo x r m k).2 ∧ WB w w.heap.size x wr) (fun _ _ c _ => K - (intOf c).toNat)
      case atStart => exact ⟨0, Nat.zero_le _, rfl, rfl, rfl, C0.out⟩
      case round =>
        clear C0 HW HI
        obtain ⟨k, hk, rfl, rfl, rfl, hC⟩ := hrel
        have K0 := hC.box
        have B0 := hC.below
        clear hC
        by_cases hlt : k < K
        · have hltI : (k : Int) < (K : Int) := by omega
          have k0_0 := K0.at_ 0 _ rfl
          have k0_1 := K0.at_ 1 _ rfl
          have k0_2 := K0.at_ 2 _ rfl
          have k0_3 := K0.at_ 3 _ rfl
          have k0_4 := K0.at_ 4 _ rfl
          have k0_5 := K0.at_ 5 _ rfl
          have k0_6 := K0.at_ 6 _ rfl
          have k0_7 := K0.at_ 7 _ rfl
          have k0_8 := K0.at_ 8 _ rfl
          have k0_f := K0.fr
          have k0_l := K0.lt
          have nq := K0.lt
          go_upto_region 10 with fail
          clear k0_0 k0_1 k0_2 k0_3 k0_4 k0_5 k0_6 k0_7 k0_8 k0_f k0_l
          refine wp_gen (R := fun w' => Box w' w.heap.size [.int .i64 x.h.n, .int .i64 x.h.l, .int .i64 x.h.r, .int .i64 x.h.a, .int .i64 x.h.b, .int .i64 x.r.n, .int .i64 x.r.d, .int .i64 x.r.o, .int .i64 x.c] ∧ Box w' wr.heap.size [.int .i64 x.h.n, .int .i64 x.h.l, .int .i64 x.h.r, .int .i64 x.h.a, .int .i64 x.h.b, .int .i64 x.r.n, .int .i64 x.r.d, .int .i64 x.r.o, .int .i64 x.c] ∧ Below w.heap.size w w') ⟨K0.alloc _, Box.new rfl rfl, B0.alloc B0.size _⟩ ?_
          rintro W1 ⟨K1_0, K1_1, B1⟩
          clear K0
          have k1_0_0 := K1_0.at_ 0 _ rfl
          have k1_0_1 := K1_0.at_ 1 _ rfl
          have k1_0_2 := K1_0.at_ 2 _ rfl
          have k1_0_3 := K1_0.at_ 3 _ rfl
          have k1_0_4 := K1_0.at_ 4 _ rfl
          have k1_0_5 := K1_0.at_ 5 _ rfl
          have k1_0_6 := K1_0.at_ 6 _ rfl
          have k1_0_7 := K1_0.at_ 7 _ rfl
          have k1_0_8 := K1_0.at_ 8 _ rfl
          have k1_0_f := K1_0.fr
          have k1_0_l := K1_0.lt
          have k1_1_0 := K1_1.at_ 0 _ rfl
          have k1_1_1 := K1_1.at_ 1 _ rfl
          have k1_1_2 := K1_1.at_ 2 _ rfl
          have k1_1_3 := K1_1.at_ 3 _ rfl
          have k1_1_4 := K1_1.at_ 4 _ rfl
          have k1_1_5 := K1_1.at_ 5 _ rfl
          have k1_1_6 := K1_1.at_ 6 _ rfl
          have k1_1_7 := K1_1.at_ 7 _ rfl
          have k1_1_8 := K1_1.at_ 8 _ rfl
          have k1_1_f := K1_1.fr
          have k1_1_l := K1_1.lt
          go_upto_region 11 with fail
          refine wp_gen (R := fun w' => Box w' w.heap.size [.int .i64 x.h.n, .int .i64 x.h.l, .int .i64 x.h.r, .int .i64 x.h.a, .int .i64 x.h.b, .int .i64 x.r.n, .int .i64 x.r.d, .int .i64 x.r.o, .int .i64 x.c] ∧ Box w' wr.heap.size [.int .i64 x.h.n, .int .i64 x.h.l, .int .i64 x.h.r, .int .i64 x.h.a, .int .i64 x.h.b, .int .i64 x.r.n, .int .i64 x.r.d, .int .i64 x.r.o, .int .i64 k] ∧ Below w.heap.size w w') ⟨(K1_0.other (by simp <;> omega) _), (K1_1.set _ (by simp)), by go_grown⟩ ?_
          clear k1_0_0 k1_0_1 k1_0_2 k1_0_3 k1_0_4 k1_0_5 k1_0_6 k1_0_7 k1_0_8 k1_0_f k1_0_l k1_1_0 k1_1_1 k1_1_2 k1_1_3 k1_1_4 k1_1_5 k1_1_6 k1_1_7 k1_1_8 k1_1_f k1_1_l
          rintro W2 ⟨K2_0, K2_1, B2⟩
          clear K1_0 K1_1 B1
          have k2_0_0 := K2_0.at_ 0 _ rfl
          have k2_0_1 := K2_0.at_ 1 _ rfl
          have k2_0_2 := K2_0.at_ 2 _ rfl
          have k2_0_3 := K2_0.at_ 3 _ rfl
          have k2_0_4 := K2_0.at_ 4 _ rfl
          have k2_0_5 := K2_0.at_ 5 _ rfl
          have k2_0_6 := K2_0.at_ 6 _ rfl
          have k2_0_7 := K2_0.at_ 7 _ rfl
          have k2_0_8 := K2_0.at_ 8 _ rfl
          have k2_0_f := K2_0.fr
          have k2_0_l := K2_0.lt
          have k2_1_0 := K2_1.at_ 0 _ rfl
          have k2_1_1 := K2_1.at_ 1 _ rfl
          have k2_1_2 := K2_1.at_ 2 _ rfl
          have k2_1_3 := K2_1.at_ 3 _ rfl
          have k2_1_4 := K2_1.at_ 4 _ rfl
          have k2_1_5 := K2_1.at_ 5 _ rfl
          have k2_1_6 := K2_1.at_ 6 _ rfl
          have k2_1_7 := K2_1.at_ 7 _ rfl
          have k2_1_8 := K2_1.at_ 8 _ rfl
          have k2_1_f := K2_1.fr
          have k2_1_l := K2_1.lt
          go_wp2_with fail
          refine (HL.out k _ (by omega) hltI).mono ?_
          rintro _ W3 ⟨rfl, b3⟩
          have K3_0 := K2_0.below b3
          have K3_1 := K2_1.below b3
          clear k2_0_0 k2_0_1 k2_0_2 k2_0_3 k2_0_4 k2_0_5 k2_0_6 k2_0_7 k2_0_8 k2_0_f k2_0_l k2_1_0 k2_1_1 k2_1_2 k2_1_3 k2_1_4 k2_1_5 k2_1_6 k2_1_7 k2_1_8 k2_1_f k2_1_l
          have B3 := upB B2 b3
          clear b3 K2_0 K2_1 B2
          have hlb := HLB.out k (by omega) hltI
          have HA := Go.Lib.hid (fun w0 => specAbs (spLen (setC x k) r - m) w0 (by omega) (by omega))
          have e1 : IntKind.i64.wrap (spLen (setC x k) r - m) = spLen (setC x k) r - m := IntWalk.i64_in _ (by omega)
          have hst : bestTo x r m (k + 1) = if (bestTo x r m k).2 < 0 ∨ awayI x r m k < (bestTo x r m k).2 then ((k : Int), awayI x r m k) else bestTo x r m k := rfl
          have haw : awayI x r m k = max (spLen (setC x k) r - m) (-(spLen (setC x k) r - m)) := rfl
          rw [← haw] at HA
          clear haw
          go_wp2_with fail
          refine (HA.out _).mono ?_
          rintro _ _ ⟨rfl, rfl⟩
          generalize awayI x r m k = aw at *
          generalize bestTo x r m k = p at *
          have CN := Go.Lib.hid (WB.mk (w := w) (x := x) K3_0 B3)
          clear K3_0 K3_1 B3 nq HA hlb
          by_cases h1 : p.2 < 0
          · have HN : Hid (bestTo x r m (k + 1) = ((k : Int), aw)) := by rw [hst, if_pos (.inl h1)]; rfl
            clear hst
            go_wp2_with fail
            go_roundw
            case rel => exact ⟨k + 1, by omega, by go_num, by rw [HN.out], by rw [HN.out], CN.out⟩
            case measure => simp [intOf]; omega
          · by_cases h2 : aw < p.2
            · have HN : Hid (bestTo x r m (k + 1) = ((k : Int), aw)) := by rw [hst, if_pos (.inr h2)]; rfl
              clear hst
              go_wp2_with fail
              go_roundw
              case rel => exact ⟨k + 1, by omega, by go_num, by rw [HN.out], by rw [HN.out], CN.out⟩
              case measure => simp [intOf]; omega
            · have HN : Hid (bestTo x r m (k + 1) = p) := by rw [hst, if_neg (by omega)]; rfl
              clear hst
              go_wp2_with fail
              go_roundw
              case rel => exact ⟨k + 1, by omega, by go_num, by rw [HN.out], by rw [HN.out], CN.out⟩
              case measure => simp [intOf]; omega
        · obtain rfl : k = K := by omega
          have k0_0 := K0.at_ 0 _ rfl
          have k0_1 := K0.at_ 1 _ rfl
          have k0_2 := K0.at_ 2 _ rfl
          have k0_3 := K0.at_ 3 _ rfl
          have k0_4 := K0.at_ 4 _ rfl
          have k0_5 := K0.at_ 5 _ rfl
          have k0_6 := K0.at_ 6 _ rfl
          have k0_7 := K0.at_ 7 _ rfl
          have k0_8 := K0.at_ 8 _ rfl
          have k0_f := K0.fr
          have k0_l := K0.lt
          go_wp2_with fail
          go_ret2
          exact ⟨by rw [HV.out]; rfl, B0⟩
end Go.Proofs.Ytabcbecmieolhaa
