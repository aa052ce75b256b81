/- The contract of the model's LengthRange. -/
import Derived.Test.YtifblmcocikopabSpoke3
namespace Go.Proofs.Ytifblmcocikopab
open Go.RowKit

abbrev ivP (p : Int × Int) : Value := .agg #[.int .i64 p.1, .int .i64 p.2]
abbrev rngV (p : (Int × Int) × Int) : Value := .tuple #[ivP p.1, .int .i64 p.2]
theorem setD_valid {x : Wh} {d : Int} (hb : wheelB x = true) (h : wheelB (setD x d) = true) : 2000 ≤ d ∧ d ≤ 7000 := by
  rw [wheelB_setD d hb] at h
  exact inB_iff.1 h
theorem loTo_bd {x : Wh} {r : Bool} {t : Int} : ∀ {k : Nat}, (∀ j : Nat, j < k → wheelB (setD x (x.r.d + (-t + j))) = true) → (-1000000000 ≤ loTo x r t k ∧ loTo x r t k ≤ 1000000000) ∧ -1000000000 ≤ hiTo x r t k ∧ hiTo x r t k ≤ 1000000000
  | 0, _ => by unfold loTo hiTo; omega
  | k + 1, h => by
    have h1 := loTo_bd (x := x) (r := r) (t := t) (k := k) fun j hj => h j (by omega)
    have h2 := spLen_bd (r := r) (h k (by omega))
    unfold loTo hiTo
    omega
structure LB (w : World) (qo : Nat) (x : Wh) (lo hi : Int) (W : World) : Prop where
  par : Box W w.heap.size [.int .i64 x.h.n, .int .i64 x.h.l, .int .i64 x.h.r, .int .i64 x.h.a, .int .i64 x.h.b, .int .i64 x.r.n, .int .i64 x.r.d, .int .i64 x.r.o, .int .i64 x.c]
  res : Box W (w.heap.size + 1) [.int .i64 0, .int .i64 0]
  out : Box W qo [.int .i64 lo, .int .i64 hi]
  below : Below w.heap.size w W
  lt : w.heap.size + 1 < qo
set_option maxRecDepth 100000 in
set_option maxHeartbeats 4000000 in
theorem specLengthRange (x : Wh) (r : Bool) (t : Int) (w : World) : Calls Try.prog 15 #[wheelV x, .bool r, .int .i64 t] w (IsV w (rngV (rngA x r t))) := by
  have HW := Go.Lib.hid (fun x w0 => specIsWheel x w0)
  cases hb : wheelB x
  · have HV : Hid (rngA x r t = ((0, 0), 1)) := by unfold rngA; rw [hb]; rfl
    have HW := Go.Lib.hid (HW.out x)
    rw [hb] at HW
    clear hb
    go_enter Try.func15, Try.ntmps15
    go_wp2_with fail
    refine calls_gen (R := fun w' => Box w' w.heap.size [.int .i64 x.h.n, .int .i64 x.h.l, .int .i64 x.h.r, .int .i64 x.h.a, .int .i64 x.h.b, .int .i64 x.r.n, .int .i64 x.r.d, .int .i64 x.r.o, .int .i64 x.c] ∧ Box w' (w.heap.size + 1) [.int .i64 0, .int .i64 0] ∧ Below w.heap.size w w') ⟨Box.alloc (Box.new rfl rfl) _, Box.new (by simp) rfl, by go_grown⟩ ?_
    rintro W1 ⟨K1_0, K1_1, B1⟩
    refine (HW.out _).mono ?_
    rintro _ W2 ⟨rfl, b2⟩
    have K2_0 := K1_0.below b2
    have K2_1 := K1_1.below b2
    have B2 := upB B1 b2
    clear b2 K1_0 K1_1 B1
    have k2_0_0 := K2_0.at_ 0 _ rfl
    have k2_0_1 := K2_0.at_ 1 _ rfl
    have k2_0_2 := K2_0.at_ 2 _ rfl
    have k2_0_3 := K2_0.at_ 3 _ rfl
    have k2_0_4 := K2_0.at_ 4 _ rfl
    have k2_0_5 := K2_0.at_ 5 _ rfl
    have k2_0_6 := K2_0.at_ 6 _ rfl
    have k2_0_7 := K2_0.at_ 7 _ rfl
    have k2_0_8 := K2_0.at_ 8 _ rfl
    have k2_0_f := K2_0.fr
    have k2_0_l := K2_0.lt
    have k2_1_0 := K2_1.at_ 0 _ rfl
    have k2_1_1 := K2_1.at_ 1 _ rfl
    have k2_1_f := K2_1.fr
    have k2_1_l := K2_1.lt
    go_wp2_with fail
    refine bodyPost_ret (v := rngV ((0, 0), 1)) (by simp [results, Try.results15, go_sem, *]) rfl ⟨by rw [HV.out], by go_grown⟩
  · have HWX := HW
    have HW := Go.Lib.hid (HW.out x)
    rw [hb] at HW
    have HI := Go.Lib.hid (fun w0 => inN2 t 0 20 w0)
    cases hi2 : inB t 0 20
    · rw [hi2] at HI
      have HV : Hid (rngA x r t = ((0, 0), 2)) := by unfold rngA; rw [hb, hi2]; rfl
      clear hb hi2
      go_enter Try.func15, Try.ntmps15
      go_wp2_with fail
      refine calls_gen (R := fun w' => Box w' w.heap.size [.int .i64 x.h.n, .int .i64 x.h.l, .int .i64 x.h.r, .int .i64 x.h.a, .int .i64 x.h.b, .int .i64 x.r.n, .int .i64 x.r.d, .int .i64 x.r.o, .int .i64 x.c] ∧ Box w' (w.heap.size + 1) [.int .i64 0, .int .i64 0] ∧ Below w.heap.size w w') ⟨Box.alloc (Box.new rfl rfl) _, Box.new (by simp) rfl, by go_grown⟩ ?_
      rintro W1 ⟨K1_0, K1_1, B1⟩
      refine (HW.out _).mono ?_
      rintro _ W2 ⟨rfl, b2⟩
      have K2_0 := K1_0.below b2
      have K2_1 := K1_1.below b2
      have B2 := upB B1 b2
      clear b2 K1_0 K1_1 B1
      have k2_0_0 := K2_0.at_ 0 _ rfl
      have k2_0_1 := K2_0.at_ 1 _ rfl
      have k2_0_2 := K2_0.at_ 2 _ rfl
      have k2_0_3 := K2_0.at_ 3 _ rfl
      have k2_0_4 := K2_0.at_ 4 _ rfl
      have k2_0_5 := K2_0.at_ 5 _ rfl
      have k2_0_6 := K2_0.at_ 6 _ rfl
      have k2_0_7 := K2_0.at_ 7 _ rfl
      have k2_0_8 := K2_0.at_ 8 _ rfl
      have k2_0_f := K2_0.fr
      have k2_0_l := K2_0.lt
      have k2_1_0 := K2_1.at_ 0 _ rfl
      have k2_1_1 := K2_1.at_ 1 _ rfl
      have k2_1_f := K2_1.fr
      have k2_1_l := K2_1.lt
      go_wp2_with fail
      refine (HI.out _).mono ?_
      rintro _ _ ⟨rfl, rfl⟩
      go_wp2_with fail
      refine bodyPost_ret (v := rngV ((0, 0), 2)) (by simp [results, Try.results15, go_sem, *]) rfl ⟨by rw [HV.out], by go_grown⟩
    · rw [hi2] at HI
      obtain ⟨t0, t1⟩ := inB_iff.1 hi2
      have hv : rngA x r t = if 2000 ≤ x.r.d - t ∧ x.r.d + t ≤ 7000 then ((loTo x r t (2 * t + 1).toNat, hiTo x r t (2 * t + 1).toNat), 0) else ((0, 0), 5) := by unfold rngA; rw [hb, hi2]; rfl
      have HVV := Go.Lib.hid hv
      obtain ⟨-, -, -, -, -, ⟨d0, d1⟩, -⟩ := wheel_bd hb
      have HB := Go.Lib.hid hb
      have e0 : IntKind.i64.wrap (-t) = -t := IntWalk.i64_in _ (by omega)
      clear hv hb hi2
      go_enter Try.func15, Try.ntmps15
      go_wp2_with fail
      refine calls_gen (R := fun w' => Box w' w.heap.size [.int .i64 x.h.n, .int .i64 x.h.l, .int .i64 x.h.r, .int .i64 x.h.a, .int .i64 x.h.b, .int .i64 x.r.n, .int .i64 x.r.d, .int .i64 x.r.o, .int .i64 x.c] ∧ Box w' (w.heap.size + 1) [.int .i64 0, .int .i64 0] ∧ Below w.heap.size w w') ⟨Box.alloc (Box.new rfl rfl) _, Box.new (by simp) rfl, by go_grown⟩ ?_
      rintro W1 ⟨K1_0, K1_1, B1⟩
      refine (HW.out _).mono ?_
      rintro _ W2 ⟨rfl, b2⟩
      have K2_0 := K1_0.below b2
      have K2_1 := K1_1.below b2
      have B2 := upB B1 b2
      clear b2 K1_0 K1_1 B1
      have k2_0_0 := K2_0.at_ 0 _ rfl
      have k2_0_1 := K2_0.at_ 1 _ rfl
      have k2_0_2 := K2_0.at_ 2 _ rfl
      have k2_0_3 := K2_0.at_ 3 _ rfl
      have k2_0_4 := K2_0.at_ 4 _ rfl
      have k2_0_5 := K2_0.at_ 5 _ rfl
      have k2_0_6 := K2_0.at_ 6 _ rfl
      have k2_0_7 := K2_0.at_ 7 _ rfl
      have k2_0_8 := K2_0.at_ 8 _ rfl
      have k2_0_f := K2_0.fr
      have k2_0_l := K2_0.lt
      have k2_1_0 := K2_1.at_ 0 _ rfl
      have k2_1_1 := K2_1.at_ 1 _ rfl
      have k2_1_f := K2_1.fr
      have k2_1_l := K2_1.lt
      go_wp2_with fail
      refine (HI.out _).mono ?_
      rintro _ _ ⟨rfl, rfl⟩
      have nq := K2_1.lt
      go_upto_region 6 with fail
      clear k2_0_0 k2_0_1 k2_0_2 k2_0_3 k2_0_4 k2_0_5 k2_0_6 k2_0_7 k2_0_8 k2_0_f k2_0_l k2_1_0 k2_1_1 k2_1_f k2_1_l
      refine wp_gen (R := fun w' => Box w' w.heap.size [.int .i64 x.h.n, .int .i64 x.h.l, .int .i64 x.h.r, .int .i64 x.h.a, .int .i64 x.h.b, .int .i64 x.r.n, .int .i64 x.r.d, .int .i64 x.r.o, .int .i64 x.c] ∧ Box w' (w.heap.size + 1) [.int .i64 0, .int .i64 0] ∧ Box w' W2.heap.size [.int .i64 1000000000, .int .i64 (-1000000000)] ∧ Below w.heap.size w w') ⟨K2_0.alloc _, K2_1.alloc _, Box.new rfl rfl, B2.alloc B2.size _⟩ ?_
      rintro W3 ⟨K3_0, K3_1, K3_2, B3⟩
      clear K2_0 K2_1 B2
      have C0 := Go.Lib.hid (LB.mk (w := w) (x := x) K3_0 K3_1 K3_2 B3 nq)
      clear K3_0 K3_1 K3_2 B3 nq
      generalize W2.heap.size = qo at C0 ⊢
      go_wp2_with fail
      go_loopw [9] (fun d wr => ∃ k : Nat, (k : Int) ≤ 2 * t + 1 ∧ d = .int .i64 (-t + k) ∧ (∀ j : Nat, j < k → wheelB (setD x (x.r.d + (-t + j))) = true) ∧ LB w qo x (loTo x r t k) (hiTo x r t k) wr) (fun d _ => (t + 1 - intOf d).toNat)
      case atStart => exact ⟨0, by omega, by simp, fun j hj => absurd hj (by omega), C0.out⟩
      case round =>
        clear C0 HW HI
        obtain ⟨k, hk, rfl, hok, hC⟩ := hrel
        have HOK := Go.Lib.hid hok
        have hbd := loTo_bd (r := r) hok
        clear hok
        have K0 := hC.par
        have K1 := hC.res
        have K2 := hC.out
        have B0 := hC.below
        have nq := hC.lt
        clear hC
        by_cases hlt : -t + (k : Int) ≤ t
        · have kq := K2.lt
          have e1 : IntKind.i64.wrap (x.r.d + (-t + (k : Int))) = x.r.d + (-t + (k : Int)) := IntWalk.i64_in _ (by omega)
          have e2 : IntKind.i64.wrap (-t + (k : Int) + 1) = -t + (k : Int) + 1 := IntWalk.i64_in _ (by omega)
          have k0_0 := K0.at_ 0 _ rfl
          have k0_1 := K0.at_ 1 _ rfl
          have k0_2 := K0.at_ 2 _ rfl
          have k0_3 := K0.at_ 3 _ rfl
          have k0_4 := K0.at_ 4 _ rfl
          have k0_5 := K0.at_ 5 _ rfl
          have k0_6 := K0.at_ 6 _ rfl
          have k0_7 := K0.at_ 7 _ rfl
          have k0_8 := K0.at_ 8 _ rfl
          have k0_f := K0.fr
          have k0_l := K0.lt
          go_upto_region 10 with fail
          clear k0_0 k0_1 k0_2 k0_3 k0_4 k0_5 k0_6 k0_7 k0_8 k0_f k0_l
          refine wp_gen (R := fun w' => Box w' w.heap.size [.int .i64 x.h.n, .int .i64 x.h.l, .int .i64 x.h.r, .int .i64 x.h.a, .int .i64 x.h.b, .int .i64 x.r.n, .int .i64 x.r.d, .int .i64 x.r.o, .int .i64 x.c] ∧ Box w' (w.heap.size + 1) [.int .i64 0, .int .i64 0] ∧ Box w' qo [.int .i64 ((loTo x r t k)), .int .i64 ((hiTo x r t k))] ∧ Box w' wr.heap.size [.int .i64 x.h.n, .int .i64 x.h.l, .int .i64 x.h.r, .int .i64 x.h.a, .int .i64 x.h.b, .int .i64 x.r.n, .int .i64 x.r.d, .int .i64 x.r.o, .int .i64 x.c] ∧ Below w.heap.size w w') ⟨K0.alloc _, K1.alloc _, K2.alloc _, Box.new rfl rfl, B0.alloc B0.size _⟩ ?_
          rintro W1 ⟨K1_0, K1_1, K1_2, K1_3, B1⟩
          clear K0 K1 K2
          generalize hD : x.r.d + (-t + (k : Int)) = D at *
          have k1_0_0 := K1_0.at_ 0 _ rfl
          have k1_0_1 := K1_0.at_ 1 _ rfl
          have k1_0_2 := K1_0.at_ 2 _ rfl
          have k1_0_3 := K1_0.at_ 3 _ rfl
          have k1_0_4 := K1_0.at_ 4 _ rfl
          have k1_0_5 := K1_0.at_ 5 _ rfl
          have k1_0_6 := K1_0.at_ 6 _ rfl
          have k1_0_7 := K1_0.at_ 7 _ rfl
          have k1_0_8 := K1_0.at_ 8 _ rfl
          have k1_0_f := K1_0.fr
          have k1_0_l := K1_0.lt
          have k1_3_0 := K1_3.at_ 0 _ rfl
          have k1_3_1 := K1_3.at_ 1 _ rfl
          have k1_3_2 := K1_3.at_ 2 _ rfl
          have k1_3_3 := K1_3.at_ 3 _ rfl
          have k1_3_4 := K1_3.at_ 4 _ rfl
          have k1_3_5 := K1_3.at_ 5 _ rfl
          have k1_3_6 := K1_3.at_ 6 _ rfl
          have k1_3_7 := K1_3.at_ 7 _ rfl
          have k1_3_8 := K1_3.at_ 8 _ rfl
          have k1_3_f := K1_3.fr
          have k1_3_l := K1_3.lt
          go_upto_region 11 with fail
          refine wp_gen (R := fun w' => Box w' w.heap.size [.int .i64 x.h.n, .int .i64 x.h.l, .int .i64 x.h.r, .int .i64 x.h.a, .int .i64 x.h.b, .int .i64 x.r.n, .int .i64 x.r.d, .int .i64 x.r.o, .int .i64 x.c] ∧ Box w' (w.heap.size + 1) [.int .i64 0, .int .i64 0] ∧ Box w' qo [.int .i64 ((loTo x r t k)), .int .i64 ((hiTo x r t k))] ∧ Box w' wr.heap.size [.int .i64 x.h.n, .int .i64 x.h.l, .int .i64 x.h.r, .int .i64 x.h.a, .int .i64 x.h.b, .int .i64 x.r.n, .int .i64 D, .int .i64 x.r.o, .int .i64 x.c] ∧ Below w.heap.size w w') ⟨(K1_0.other (by simp <;> omega) _), (K1_1.other (by simp <;> omega) _), (K1_2.other (by simp <;> omega) _), (K1_3.set _ (by simp)), by go_grown⟩ ?_
          clear k1_0_0 k1_0_1 k1_0_2 k1_0_3 k1_0_4 k1_0_5 k1_0_6 k1_0_7 k1_0_8 k1_0_f k1_0_l k1_3_0 k1_3_1 k1_3_2 k1_3_3 k1_3_4 k1_3_5 k1_3_6 k1_3_7 k1_3_8 k1_3_f k1_3_l
          rintro W2 ⟨K2_0, K2_1, K2_2, K2_3, B2⟩
          clear K1_0 K1_1 K1_2 K1_3 B1
          have k2_3_0 := K2_3.at_ 0 _ rfl
          have k2_3_1 := K2_3.at_ 1 _ rfl
          have k2_3_2 := K2_3.at_ 2 _ rfl
          have k2_3_3 := K2_3.at_ 3 _ rfl
          have k2_3_4 := K2_3.at_ 4 _ rfl
          have k2_3_5 := K2_3.at_ 5 _ rfl
          have k2_3_6 := K2_3.at_ 6 _ rfl
          have k2_3_7 := K2_3.at_ 7 _ rfl
          have k2_3_8 := K2_3.at_ 8 _ rfl
          have k2_3_f := K2_3.fr
          have k2_3_l := K2_3.lt
          go_wp2_with fail
          refine (HWX.out (setD x D) _).mono ?_
          rintro _ W3 ⟨rfl, b3⟩
          have K3_0 := K2_0.below b3
          have K3_1 := K2_1.below b3
          have K3_2 := K2_2.below b3
          have K3_3 := K2_3.below b3
          clear k2_3_0 k2_3_1 k2_3_2 k2_3_3 k2_3_4 k2_3_5 k2_3_6 k2_3_7 k2_3_8 k2_3_f k2_3_l
          have B3 := upB B2 b3
          clear b3 K2_0 K2_1 K2_2 K2_3 B2
          cases hw : wheelB (setD x D)
          · have k3_1_0 := K3_1.at_ 0 _ rfl
            have k3_1_1 := K3_1.at_ 1 _ rfl
            have k3_1_f := K3_1.fr
            have k3_1_l := K3_1.lt
            have k3_3_0 := K3_3.at_ 0 _ rfl
            have k3_3_1 := K3_3.at_ 1 _ rfl
            have k3_3_2 := K3_3.at_ 2 _ rfl
            have k3_3_3 := K3_3.at_ 3 _ rfl
            have k3_3_4 := K3_3.at_ 4 _ rfl
            have k3_3_5 := K3_3.at_ 5 _ rfl
            have k3_3_6 := K3_3.at_ 6 _ rfl
            have k3_3_7 := K3_3.at_ 7 _ rfl
            have k3_3_8 := K3_3.at_ 8 _ rfl
            have k3_3_f := K3_3.fr
            have k3_3_l := K3_3.lt
            have HV : Hid (rngA x r t = ((0, 0), 5)) := by
              rw [HVV.out, if_neg ?_]
              · rfl
              · intro ⟨h1, h2⟩
                rw [wheelB_setD D HB.out] at hw
                have : inB D 2000 7000 = true := inB_iff.2 (by omega)
                rw [this] at hw
                cases hw
            clear hw
            go_wp2_with fail
            refine bodyPost_ret (v := rngV ((0, 0), 5)) (by simp [results, Try.results15, go_sem, *]) rfl ⟨by rw [HV.out], by go_grown⟩
          · have HL := Go.Lib.hid (fun w0 => specLen5 (setD x D) r w0 hw)
            have hlb := spLen_bd (r := r) hw
            have k3_3_0 := K3_3.at_ 0 _ rfl
            have k3_3_1 := K3_3.at_ 1 _ rfl
            have k3_3_2 := K3_3.at_ 2 _ rfl
            have k3_3_3 := K3_3.at_ 3 _ rfl
            have k3_3_4 := K3_3.at_ 4 _ rfl
            have k3_3_5 := K3_3.at_ 5 _ rfl
            have k3_3_6 := K3_3.at_ 6 _ rfl
            have k3_3_7 := K3_3.at_ 7 _ rfl
            have k3_3_8 := K3_3.at_ 8 _ rfl
            have k3_3_f := K3_3.fr
            have k3_3_l := K3_3.lt
            go_wp2_with fail
            refine (HL.out _).mono ?_
            rintro _ W4 ⟨rfl, b4⟩
            have K4_0 := K3_0.below b4
            have K4_1 := K3_1.below b4
            have K4_2 := K3_2.below b4
            have K4_3 := K3_3.below b4
            clear k3_3_0 k3_3_1 k3_3_2 k3_3_3 k3_3_4 k3_3_5 k3_3_6 k3_3_7 k3_3_8 k3_3_f k3_3_l
            have B4 := upB B3 b4
            clear b4 K3_0 K3_1 K3_2 K3_3 B3
            have hlo : loTo x r t (k + 1) = min (loTo x r t k) (spLen (setD x D) r) := by rw [← hD]; rfl
            have hhi : hiTo x r t (k + 1) = max (hiTo x r t k) (spLen (setD x D) r) := by rw [← hD]; rfl
            have HOK2 : Hid (∀ j : Nat, j < k + 1 → wheelB (setD x (x.r.d + (-t + j))) = true) := fun j hj => by
              rcases Nat.lt_or_ge j k with h | h
              · exact HOK.out j h
              · obtain rfl : j = k := by omega
                rw [hD]; exact hw
            clear hw HOK
            skip
            generalize spLen (setD x D) r = z at *
            generalize loTo x r t k = lo at *
            generalize hiTo x r t k = hi at *
            have k4_2_0 := K4_2.at_ 0 _ rfl
            have k4_2_1 := K4_2.at_ 1 _ rfl
            have k4_2_f := K4_2.fr
            have k4_2_l := K4_2.lt
            have hmin : ∀ a b : Int, (if b < a then b else a) = min a b := fun a b => by split <;> omega
            go_upto_region 15 with fail
            refine wp_gen (R := fun w' => Box w' w.heap.size [.int .i64 x.h.n, .int .i64 x.h.l, .int .i64 x.h.r, .int .i64 x.h.a, .int .i64 x.h.b, .int .i64 x.r.n, .int .i64 x.r.d, .int .i64 x.r.o, .int .i64 x.c] ∧ Box w' (w.heap.size + 1) [.int .i64 0, .int .i64 0] ∧ Box w' qo [.int .i64 ((min lo z)), .int .i64 hi] ∧ Box w' wr.heap.size [.int .i64 x.h.n, .int .i64 x.h.l, .int .i64 x.h.r, .int .i64 x.h.a, .int .i64 x.h.b, .int .i64 x.r.n, .int .i64 D, .int .i64 x.r.o, .int .i64 x.c] ∧ Below w.heap.size w w') ⟨(K4_0.other (by simp <;> omega) _), (K4_1.other (by simp <;> omega) _), (K4_2.set _ (by simp)), (K4_3.other (by simp <;> omega) _), by go_grown⟩ ?_
            clear k4_2_0 k4_2_1 k4_2_f k4_2_l
            rintro W5 ⟨K5_0, K5_1, K5_2, K5_3, B5⟩
            clear K4_0 K4_1 K4_2 K4_3 B4
            clear hmin
            generalize min lo z = lo2 at *
            have hmax : ∀ a b : Int, (if a < b then b else a) = max a b := fun a b => by split <;> omega
            have k5_2_0 := K5_2.at_ 0 _ rfl
            have k5_2_1 := K5_2.at_ 1 _ rfl
            have k5_2_f := K5_2.fr
            have k5_2_l := K5_2.lt
            go_wp2_with fail
            have CN := Go.Lib.hid (LB.mk (w := w) (x := x) (K5_0.other (by simp <;> omega) _) (K5_1.other (by simp <;> omega) _) (K5_2.set (k := 1) (.int .i64 (max hi z)) (by simp)) (by go_grown) nq)
            skip
            go_roundw
            case rel => exact ⟨k + 1, by omega, by go_num, HOK2.out, by rw [hlo, hhi]; exact CN.out⟩
            case measure => simp [intOf]; omega
        · have ek : k = (2 * t + 1).toNat := by omega
          have hin : 2000 ≤ x.r.d - t ∧ x.r.d + t ≤ 7000 := by
            have h1 := setD_valid HB.out (HOK.out 0 (by omega))
            have h2 := setD_valid HB.out (HOK.out (2 * t).toNat (by omega))
            omega
          have HV : Hid (rngA x r t = ((loTo x r t k, hiTo x r t k), 0)) := by rw [HVV.out, if_pos hin, ek]; rfl
          clear ek hin HVV
          generalize loTo x r t k = lo at *
          generalize hiTo x r t k = hi at *
          have k1_0 := K1.at_ 0 _ rfl
          have k1_1 := K1.at_ 1 _ rfl
          have k1_f := K1.fr
          have k1_l := K1.lt
          have k2_0 := K2.at_ 0 _ rfl
          have k2_1 := K2.at_ 1 _ rfl
          have k2_f := K2.fr
          have k2_l := K2.lt
          go_wp2_with fail
          refine bodyPost_ret (v := rngV ((lo, hi), 0)) (by simp [results, Try.results15, go_sem, *]) rfl ⟨by rw [HV.out], by go_grown⟩
end Go.Proofs.Ytifblmcocikopab
