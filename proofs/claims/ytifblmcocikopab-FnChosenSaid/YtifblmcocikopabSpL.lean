/- The program's LengthRange. -/
import Derived.Test.YtifblmcocikopabSpX
import Derived.Test.YtifblmcocikopabSpoke4
namespace Go.Proofs.Ytifblmcocikopab
open Go.RowKit

theorem lo_one {x : Wh} {r : Bool} {t : Int} (h : wheelB (setD x (x.r.d - t)) = true) : loTo x r t 1 = spLen (setD x (x.r.d - t)) r ∧ hiTo x r t 1 = spLen (setD x (x.r.d - t)) r := by
  have hb := spLen_bd (r := r) h
  have e : x.r.d + (-t + ((0 : Nat) : Int)) = x.r.d - t := by omega
  unfold loTo hiTo loTo hiTo
  rw [e]
  omega
structure LS (w : World) (qo : Nat) (x : Wh) (fl off : Int) (q f o : Nat) (lo hi : Int) (W : World) : Prop where
  par : Box W w.heap.size [.int .i64 x.h.n, .int .i64 x.h.l, .int .i64 x.h.r, .int .i64 x.h.a, .int .i64 x.h.b, .int .i64 x.r.n, .int .i64 x.r.d, .int .i64 x.r.o, .int .i64 x.c]
  res : Box W (w.heap.size + 1) [.int .i64 0, .int .i64 0]
  out : Box W qo [.int .i64 lo, .int .i64 hi]
  side : Side x fl off q f o W
  below : Below w.heap.size w W
  lt : w.heap.size + 1 < qo ∧ q < qo ∧ f < qo ∧ o < qo
set_option maxRecDepth 100000 in
set_option maxHeartbeats 4000000 in
theorem implLengthRange (x : Wh) (r : Bool) (t : Int) (w : World) : Calls Try.prog 14 #[wheelV x, .bool r, .int .i64 t] w (IsV w (rngV (rngA x r t))) := by
  have HW := Go.Lib.hid (fun w0 => implIsWheel x w0)
  cases hb : wheelB x
  · have HV : Hid (rngA x r t = ((0, 0), 1)) := by unfold rngA; rw [hb]; rfl
    rw [hb] at HW
    clear hb
    go_enter Try.func14, Try.ntmps14
    go_wp2_with fail
    refine calls_gen (R := fun w' => Box w' w.heap.size [.int .i64 x.h.n, .int .i64 x.h.l, .int .i64 x.h.r, .int .i64 x.h.a, .int .i64 x.h.b, .int .i64 x.r.n, .int .i64 x.r.d, .int .i64 x.r.o, .int .i64 x.c] ∧ Box w' (w.heap.size + 1) [.int .i64 0, .int .i64 0] ∧ Below w.heap.size w w') ⟨Box.alloc (Box.new rfl rfl) _, Box.new (by simp) rfl, by go_grown⟩ ?_
    rintro W1 ⟨K1_0, K1_1, B1⟩
    refine (HW.out _).mono ?_
    rintro _ W2 ⟨rfl, b2⟩
    have K2_0 := K1_0.below b2
    have K2_1 := K1_1.below b2
    have B2 := upB B1 b2
    clear b2 K1_0 K1_1 B1
    have k2_0_0 := K2_0.at_ 0 _ rfl
    have k2_0_1 := K2_0.at_ 1 _ rfl
    have k2_0_2 := K2_0.at_ 2 _ rfl
    have k2_0_3 := K2_0.at_ 3 _ rfl
    have k2_0_4 := K2_0.at_ 4 _ rfl
    have k2_0_5 := K2_0.at_ 5 _ rfl
    have k2_0_6 := K2_0.at_ 6 _ rfl
    have k2_0_7 := K2_0.at_ 7 _ rfl
    have k2_0_8 := K2_0.at_ 8 _ rfl
    have k2_0_f := K2_0.fr
    have k2_0_l := K2_0.lt
    have k2_1_0 := K2_1.at_ 0 _ rfl
    have k2_1_1 := K2_1.at_ 1 _ rfl
    have k2_1_f := K2_1.fr
    have k2_1_l := K2_1.lt
    go_wp2_with fail
    refine bodyPost_ret (v := rngV ((0, 0), 1)) (by simp [results, Try.results14, go_sem, *]) rfl ⟨by rw [HV.out], by go_grown⟩
  · rw [hb] at HW
    have HI := Go.Lib.hid (fun w0 => implInN t 0 20 w0)
    cases hi2 : inB t 0 20
    · rw [hi2] at HI
      have HV : Hid (rngA x r t = ((0, 0), 2)) := by unfold rngA; rw [hb, hi2]; rfl
      clear hb hi2
      go_enter Try.func14, Try.ntmps14
      go_wp2_with fail
      refine calls_gen (R := fun w' => Box w' w.heap.size [.int .i64 x.h.n, .int .i64 x.h.l, .int .i64 x.h.r, .int .i64 x.h.a, .int .i64 x.h.b, .int .i64 x.r.n, .int .i64 x.r.d, .int .i64 x.r.o, .int .i64 x.c] ∧ Box w' (w.heap.size + 1) [.int .i64 0, .int .i64 0] ∧ Below w.heap.size w w') ⟨Box.alloc (Box.new rfl rfl) _, Box.new (by simp) rfl, by go_grown⟩ ?_
      rintro W1 ⟨K1_0, K1_1, B1⟩
      refine (HW.out _).mono ?_
      rintro _ W2 ⟨rfl, b2⟩
      have K2_0 := K1_0.below b2
      have K2_1 := K1_1.below b2
      have B2 := upB B1 b2
      clear b2 K1_0 K1_1 B1
      have k2_0_0 := K2_0.at_ 0 _ rfl
      have k2_0_1 := K2_0.at_ 1 _ rfl
      have k2_0_2 := K2_0.at_ 2 _ rfl
      have k2_0_3 := K2_0.at_ 3 _ rfl
      have k2_0_4 := K2_0.at_ 4 _ rfl
      have k2_0_5 := K2_0.at_ 5 _ rfl
      have k2_0_6 := K2_0.at_ 6 _ rfl
      have k2_0_7 := K2_0.at_ 7 _ rfl
      have k2_0_8 := K2_0.at_ 8 _ rfl
      have k2_0_f := K2_0.fr
      have k2_0_l := K2_0.lt
      have k2_1_0 := K2_1.at_ 0 _ rfl
      have k2_1_1 := K2_1.at_ 1 _ rfl
      have k2_1_f := K2_1.fr
      have k2_1_l := K2_1.lt
      go_wp2_with fail
      refine (HI.out _).mono ?_
      rintro _ _ ⟨rfl, rfl⟩
      go_wp2_with fail
      refine bodyPost_ret (v := rngV ((0, 0), 2)) (by simp [results, Try.results14, go_sem, *]) rfl ⟨by rw [HV.out], by go_grown⟩
    · rw [hi2] at HI
      obtain ⟨t0, t1⟩ := inB_iff.1 hi2
      have hv : rngA x r t = if 2000 ≤ x.r.d - t ∧ x.r.d + t ≤ 7000 then ((loTo x r t (2 * t + 1).toNat, hiTo x r t (2 * t + 1).toNat), 0) else ((0, 0), 5) := by unfold rngA; rw [hb, hi2]; rfl
      obtain ⟨-, -, -, -, -, ⟨d0, d1⟩, -⟩ := wheel_bd hb
      have e0 : IntKind.i64.wrap (x.r.d - t) = x.r.d - t := IntWalk.i64_in _ (by omega)
      have e1 : IntKind.i64.wrap (x.r.d + t) = x.r.d + t := IntWalk.i64_in _ (by omega)
      clear hi2
      by_cases g1 : x.r.d - t < 2000
      · have HV : Hid (rngA x r t = ((0, 0), 5)) := by rw [hv, if_neg (by omega)]; rfl
        clear hv hb
        go_enter Try.func14, Try.ntmps14
        go_wp2_with fail
        refine calls_gen (R := fun w' => Box w' w.heap.size [.int .i64 x.h.n, .int .i64 x.h.l, .int .i64 x.h.r, .int .i64 x.h.a, .int .i64 x.h.b, .int .i64 x.r.n, .int .i64 x.r.d, .int .i64 x.r.o, .int .i64 x.c] ∧ Box w' (w.heap.size + 1) [.int .i64 0, .int .i64 0] ∧ Below w.heap.size w w') ⟨Box.alloc (Box.new rfl rfl) _, Box.new (by simp) rfl, by go_grown⟩ ?_
        rintro W1 ⟨K1_0, K1_1, B1⟩
        refine (HW.out _).mono ?_
        rintro _ W2 ⟨rfl, b2⟩
        have K2_0 := K1_0.below b2
        have K2_1 := K1_1.below b2
        have B2 := upB B1 b2
        clear b2 K1_0 K1_1 B1
        have k2_0_0 := K2_0.at_ 0 _ rfl
        have k2_0_1 := K2_0.at_ 1 _ rfl
        have k2_0_2 := K2_0.at_ 2 _ rfl
        have k2_0_3 := K2_0.at_ 3 _ rfl
        have k2_0_4 := K2_0.at_ 4 _ rfl
        have k2_0_5 := K2_0.at_ 5 _ rfl
        have k2_0_6 := K2_0.at_ 6 _ rfl
        have k2_0_7 := K2_0.at_ 7 _ rfl
        have k2_0_8 := K2_0.at_ 8 _ rfl
        have k2_0_f := K2_0.fr
        have k2_0_l := K2_0.lt
        have k2_1_0 := K2_1.at_ 0 _ rfl
        have k2_1_1 := K2_1.at_ 1 _ rfl
        have k2_1_f := K2_1.fr
        have k2_1_l := K2_1.lt
        go_wp2_with fail
        refine (HI.out _).mono ?_
        rintro _ _ ⟨rfl, rfl⟩
        go_wp2_with fail
        go_quiet (fail)
        go_upto_region 6 with fail
        refine wp_gen (R := fun w' => Box w' w.heap.size [.int .i64 x.h.n, .int .i64 x.h.l, .int .i64 x.h.r, .int .i64 x.h.a, .int .i64 x.h.b, .int .i64 x.r.n, .int .i64 x.r.d, .int .i64 x.r.o, .int .i64 x.c] ∧ Box w' (w.heap.size + 1) [.int .i64 0, .int .i64 0] ∧ Below w.heap.size w w') ⟨K2_0.drewN _, K2_1.drewN _, below_drewN B2 _⟩ ?_
        clear k2_0_0 k2_0_1 k2_0_2 k2_0_3 k2_0_4 k2_0_5 k2_0_6 k2_0_7 k2_0_8 k2_0_f k2_0_l k2_1_0 k2_1_1 k2_1_f k2_1_l
        rintro W3 ⟨K3_0, K3_1, B3⟩
        clear K2_0 K2_1 B2
        have k3_0_0 := K3_0.at_ 0 _ rfl
        have k3_0_1 := K3_0.at_ 1 _ rfl
        have k3_0_2 := K3_0.at_ 2 _ rfl
        have k3_0_3 := K3_0.at_ 3 _ rfl
        have k3_0_4 := K3_0.at_ 4 _ rfl
        have k3_0_5 := K3_0.at_ 5 _ rfl
        have k3_0_6 := K3_0.at_ 6 _ rfl
        have k3_0_7 := K3_0.at_ 7 _ rfl
        have k3_0_8 := K3_0.at_ 8 _ rfl
        have k3_0_f := K3_0.fr
        have k3_0_l := K3_0.lt
        have k3_1_0 := K3_1.at_ 0 _ rfl
        have k3_1_1 := K3_1.at_ 1 _ rfl
        have k3_1_f := K3_1.fr
        have k3_1_l := K3_1.lt
        go_wp2_with fail
        refine bodyPost_ret (v := rngV ((0, 0), 5)) (by simp [results, Try.results14, go_sem, *]) rfl ⟨by rw [HV.out], by go_grown⟩
      · by_cases g2 : x.r.d + t > 7000
        · have HV : Hid (rngA x r t = ((0, 0), 5)) := by rw [hv, if_neg (by omega)]; rfl
          clear hv hb
          go_enter Try.func14, Try.ntmps14
          go_wp2_with fail
          refine calls_gen (R := fun w' => Box w' w.heap.size [.int .i64 x.h.n, .int .i64 x.h.l, .int .i64 x.h.r, .int .i64 x.h.a, .int .i64 x.h.b, .int .i64 x.r.n, .int .i64 x.r.d, .int .i64 x.r.o, .int .i64 x.c] ∧ Box w' (w.heap.size + 1) [.int .i64 0, .int .i64 0] ∧ Below w.heap.size w w') ⟨Box.alloc (Box.new rfl rfl) _, Box.new (by simp) rfl, by go_grown⟩ ?_
          rintro W1 ⟨K1_0, K1_1, B1⟩
          refine (HW.out _).mono ?_
          rintro _ W2 ⟨rfl, b2⟩
          have K2_0 := K1_0.below b2
          have K2_1 := K1_1.below b2
          have B2 := upB B1 b2
          clear b2 K1_0 K1_1 B1
          have k2_0_0 := K2_0.at_ 0 _ rfl
          have k2_0_1 := K2_0.at_ 1 _ rfl
          have k2_0_2 := K2_0.at_ 2 _ rfl
          have k2_0_3 := K2_0.at_ 3 _ rfl
          have k2_0_4 := K2_0.at_ 4 _ rfl
          have k2_0_5 := K2_0.at_ 5 _ rfl
          have k2_0_6 := K2_0.at_ 6 _ rfl
          have k2_0_7 := K2_0.at_ 7 _ rfl
          have k2_0_8 := K2_0.at_ 8 _ rfl
          have k2_0_f := K2_0.fr
          have k2_0_l := K2_0.lt
          have k2_1_0 := K2_1.at_ 0 _ rfl
          have k2_1_1 := K2_1.at_ 1 _ rfl
          have k2_1_f := K2_1.fr
          have k2_1_l := K2_1.lt
          go_wp2_with fail
          refine (HI.out _).mono ?_
          rintro _ _ ⟨rfl, rfl⟩
          go_wp2_with fail
          go_quiet (fail)
          go_upto_region 6 with fail
          refine wp_gen (R := fun w' => Box w' w.heap.size [.int .i64 x.h.n, .int .i64 x.h.l, .int .i64 x.h.r, .int .i64 x.h.a, .int .i64 x.h.b, .int .i64 x.r.n, .int .i64 x.r.d, .int .i64 x.r.o, .int .i64 x.c] ∧ Box w' (w.heap.size + 1) [.int .i64 0, .int .i64 0] ∧ Below w.heap.size w w') ⟨K2_0.drewN _, K2_1.drewN _, below_drewN B2 _⟩ ?_
          clear k2_0_0 k2_0_1 k2_0_2 k2_0_3 k2_0_4 k2_0_5 k2_0_6 k2_0_7 k2_0_8 k2_0_f k2_0_l k2_1_0 k2_1_1 k2_1_f k2_1_l
          rintro W3 ⟨K3_0, K3_1, B3⟩
          clear K2_0 K2_1 B2
          have k3_0_0 := K3_0.at_ 0 _ rfl
          have k3_0_1 := K3_0.at_ 1 _ rfl
          have k3_0_2 := K3_0.at_ 2 _ rfl
          have k3_0_3 := K3_0.at_ 3 _ rfl
          have k3_0_4 := K3_0.at_ 4 _ rfl
          have k3_0_5 := K3_0.at_ 5 _ rfl
          have k3_0_6 := K3_0.at_ 6 _ rfl
          have k3_0_7 := K3_0.at_ 7 _ rfl
          have k3_0_8 := K3_0.at_ 8 _ rfl
          have k3_0_f := K3_0.fr
          have k3_0_l := K3_0.lt
          have k3_1_0 := K3_1.at_ 0 _ rfl
          have k3_1_1 := K3_1.at_ 1 _ rfl
          have k3_1_f := K3_1.fr
          have k3_1_l := K3_1.lt
          go_wp2_with fail
          refine bodyPost_ret (v := rngV ((0, 0), 5)) (by simp [results, Try.results14, go_sem, *]) rfl ⟨by rw [HV.out], by go_grown⟩
        · rw [if_pos (show 2000 ≤ x.r.d - t ∧ x.r.d + t ≤ 7000 by omega)] at hv
          have HVV := Go.Lib.hid hv
          have HOK : Hid (∀ D, x.r.d - t ≤ D → D ≤ x.r.d + t → wheelB (setD x D) = true) := fun D h1 h2 => by rw [wheelB_setD D hb]; exact inB_iff.2 (by omega)
          have HS := Go.Lib.hid (fun w0 => implSideOf x r w0 hb)
          have HT : Hid (∀ (q f o : Nat) (D : Int) (w0 : World) (hs : Side x (flI x r) (offI x r) q f o w0) (h : wheelB (setD x D) = true), Calls Try.prog 53 #[.int .i64 D, .int .i64 x.c, .pointer (some ⟨q, 0, none⟩), .pointer (some ⟨f, 0, none⟩), .pointer (some ⟨o, 0, none⟩)] w0 (IsV w0 (.int .i64 (spSq (setD x D) r)))) := fun q f o D w0 hs h => implSideAt x (setD x D) r q f o w0 hs hb h rfl rfl
          have HL := Go.Lib.hid (fun D w0 (h : wheelB (setD x D) = true) => implLenOf (setD x D) r w0 h)
          clear hv hb
          generalize flI x r = fl at *
          generalize offI x r = off at *
          go_enter Try.func14, Try.ntmps14
          go_wp2_with fail
          refine calls_gen (R := fun w' => Box w' w.heap.size [.int .i64 x.h.n, .int .i64 x.h.l, .int .i64 x.h.r, .int .i64 x.h.a, .int .i64 x.h.b, .int .i64 x.r.n, .int .i64 x.r.d, .int .i64 x.r.o, .int .i64 x.c] ∧ Box w' (w.heap.size + 1) [.int .i64 0, .int .i64 0] ∧ Below w.heap.size w w') ⟨Box.alloc (Box.new rfl rfl) _, Box.new (by simp) rfl, by go_grown⟩ ?_
          rintro W1 ⟨K1_0, K1_1, B1⟩
          refine (HW.out _).mono ?_
          rintro _ W2 ⟨rfl, b2⟩
          have K2_0 := K1_0.below b2
          have K2_1 := K1_1.below b2
          have B2 := upB B1 b2
          clear b2 K1_0 K1_1 B1
          have k2_0_0 := K2_0.at_ 0 _ rfl
          have k2_0_1 := K2_0.at_ 1 _ rfl
          have k2_0_2 := K2_0.at_ 2 _ rfl
          have k2_0_3 := K2_0.at_ 3 _ rfl
          have k2_0_4 := K2_0.at_ 4 _ rfl
          have k2_0_5 := K2_0.at_ 5 _ rfl
          have k2_0_6 := K2_0.at_ 6 _ rfl
          have k2_0_7 := K2_0.at_ 7 _ rfl
          have k2_0_8 := K2_0.at_ 8 _ rfl
          have k2_0_f := K2_0.fr
          have k2_0_l := K2_0.lt
          have k2_1_0 := K2_1.at_ 0 _ rfl
          have k2_1_1 := K2_1.at_ 1 _ rfl
          have k2_1_f := K2_1.fr
          have k2_1_l := K2_1.lt
          go_wp2_with fail
          refine (HI.out _).mono ?_
          rintro _ _ ⟨rfl, rfl⟩
          go_wp2_with fail
          go_quiet (fail)
          go_upto_region 6 with fail
          refine wp_gen (R := fun w' => Box w' w.heap.size [.int .i64 x.h.n, .int .i64 x.h.l, .int .i64 x.h.r, .int .i64 x.h.a, .int .i64 x.h.b, .int .i64 x.r.n, .int .i64 x.r.d, .int .i64 x.r.o, .int .i64 x.c] ∧ Box w' (w.heap.size + 1) [.int .i64 0, .int .i64 0] ∧ Below w.heap.size w w') ⟨K2_0.drewN _, K2_1.drewN _, below_drewN B2 _⟩ ?_
          clear k2_0_0 k2_0_1 k2_0_2 k2_0_3 k2_0_4 k2_0_5 k2_0_6 k2_0_7 k2_0_8 k2_0_f k2_0_l k2_1_0 k2_1_1 k2_1_f k2_1_l
          rintro W3 ⟨K3_0, K3_1, B3⟩
          clear K2_0 K2_1 B2
          have k3_0_0 := K3_0.at_ 0 _ rfl
          have k3_0_1 := K3_0.at_ 1 _ rfl
          have k3_0_2 := K3_0.at_ 2 _ rfl
          have k3_0_3 := K3_0.at_ 3 _ rfl
          have k3_0_4 := K3_0.at_ 4 _ rfl
          have k3_0_5 := K3_0.at_ 5 _ rfl
          have k3_0_6 := K3_0.at_ 6 _ rfl
          have k3_0_7 := K3_0.at_ 7 _ rfl
          have k3_0_8 := K3_0.at_ 8 _ rfl
          have k3_0_f := K3_0.fr
          have k3_0_l := K3_0.lt
          have k3_1_0 := K3_1.at_ 0 _ rfl
          have k3_1_1 := K3_1.at_ 1 _ rfl
          have k3_1_f := K3_1.fr
          have k3_1_l := K3_1.lt
          go_wp2_with fail
          refine (HS.out _).mono ?_
          rintro _ W4 ⟨q, f, o, rfl, S, ⟨ql, fl0, ol⟩, b4⟩
          have K4_0 := K3_0.below b4
          have K4_1 := K3_1.below b4
          clear k3_0_0 k3_0_1 k3_0_2 k3_0_3 k3_0_4 k3_0_5 k3_0_6 k3_0_7 k3_0_8 k3_0_f k3_0_l k3_1_0 k3_1_1 k3_1_f k3_1_l
          have B4 := upB B3 b4
          clear b4 K3_0 K3_1 B3
          have T0 := S.wb
          have T1 := S.fb
          have T2 := S.ob
          clear S
          have hw0 := HOK.out (x.r.d - t) (by omega) (by omega)
          have HT1 := Go.Lib.hid (fun w0 hs => HT.out q f o (x.r.d - t) w0 hs hw0)
          have HL1 := Go.Lib.hid (fun w0 => HL.out (x.r.d - t) w0 hw0)
          have HO1 := Go.Lib.hid (lo_one (r := r) hw0)
          have k4_0_0 := K4_0.at_ 0 _ rfl
          have k4_0_1 := K4_0.at_ 1 _ rfl
          have k4_0_2 := K4_0.at_ 2 _ rfl
          have k4_0_3 := K4_0.at_ 3 _ rfl
          have k4_0_4 := K4_0.at_ 4 _ rfl
          have k4_0_5 := K4_0.at_ 5 _ rfl
          have k4_0_6 := K4_0.at_ 6 _ rfl
          have k4_0_7 := K4_0.at_ 7 _ rfl
          have k4_0_8 := K4_0.at_ 8 _ rfl
          have k4_0_f := K4_0.fr
          have k4_0_l := K4_0.lt
          have k4_1_0 := K4_1.at_ 0 _ rfl
          have k4_1_1 := K4_1.at_ 1 _ rfl
          have k4_1_f := K4_1.fr
          have k4_1_l := K4_1.lt
          go_wp2_with fail
          refine (HT1.out _ ⟨T0, T1, T2⟩).mono ?_
          rintro _ W5 ⟨rfl, b5⟩
          have K5_0 := K4_0.below b5
          have K5_1 := K4_1.below b5
          have K5_2 := T0.below b5
          have K5_3 := T1.below b5
          have K5_4 := T2.below b5
          clear k4_0_0 k4_0_1 k4_0_2 k4_0_3 k4_0_4 k4_0_5 k4_0_6 k4_0_7 k4_0_8 k4_0_f k4_0_l k4_1_0 k4_1_1 k4_1_f k4_1_l
          have B5 := upB B4 b5
          clear b5 K4_0 K4_1 T0 T1 T2 B4
          generalize spLen (setD x (x.r.d - t)) r = z0 at *
          generalize spSq (setD x (x.r.d - t)) r = sq0 at *
          go_wp2_with fail
          refine (HL1.out _).mono ?_
          rintro _ _ ⟨rfl, rfl⟩
          have nq := K5_1.lt
          have nq0 := K5_2.lt
          have nq1 := K5_3.lt
          have nq2 := K5_4.lt
          go_upto_region 11 with fail
          refine wp_gen (R := fun w' => Box w' w.heap.size [.int .i64 x.h.n, .int .i64 x.h.l, .int .i64 x.h.r, .int .i64 x.h.a, .int .i64 x.h.b, .int .i64 x.r.n, .int .i64 x.r.d, .int .i64 x.r.o, .int .i64 x.c] ∧ Box w' (w.heap.size + 1) [.int .i64 0, .int .i64 0] ∧ Box w' q [.int .i64 x.h.n, .int .i64 x.h.l, .int .i64 x.h.r, .int .i64 x.h.a, .int .i64 x.h.b, .int .i64 x.r.n, .int .i64 x.r.d, .int .i64 x.r.o, .int .i64 x.c] ∧ Box w' f [.int .i64 fl] ∧ Box w' o [.int .i64 off] ∧ Box w' W5.heap.size [.int .i64 z0, .int .i64 z0] ∧ Below w.heap.size w w') ⟨K5_0.alloc _, K5_1.alloc _, K5_2.alloc _, K5_3.alloc _, K5_4.alloc _, Box.new rfl rfl, B5.alloc B5.size _⟩ ?_
          rintro W6 ⟨K6_0, K6_1, K6_2, K6_3, K6_4, K6_5, B6⟩
          clear K5_0 K5_1 K5_2 K5_3 K5_4 B5
          have C0 := Go.Lib.hid (LS.mk (w := w) (x := x) K6_0 K6_1 K6_5 ⟨K6_2, K6_3, K6_4⟩ B6 ⟨nq, nq0, nq1, nq2⟩)
          clear K6_0 K6_1 K6_2 K6_3 K6_4 K6_5 B6 nq nq0 nq1 nq2 ql fl0 ol HW HI HS HT1 HL1 hw0
          generalize W5.heap.size = qo at C0 ⊢
          have e2 : IntKind.i64.wrap (x.r.d - t + 1) = x.r.d - t + 1 := IntWalk.i64_in _ (by omega)
          go_wp2_with fail
          clear e2
          go_loopw [11, 13] (fun _ d wr => ∃ k : Nat, 1 ≤ k ∧ (k : Int) ≤ 2 * t + 1 ∧ d = .int .i64 (x.r.d - t + k) ∧ LS w qo x fl off q f o (loTo x r t k) (hiTo x r t k) wr) (fun _ d _ => (x.r.d + t + 1 - intOf d).toNat)
          case atStart => exact ⟨1, Nat.le_refl _, by omega, by simp, by rw [HO1.out.1, HO1.out.2]; exact C0.out⟩
          case round =>
            clear C0 HO1
            obtain ⟨k, hk1, hk, rfl, hC⟩ := hrel
            have K0 := hC.par
            have K1 := hC.res
            have K2 := hC.out
            have T0 := hC.side.wb
            have T1 := hC.side.fb
            have T2 := hC.side.ob
            have B0 := hC.below
            obtain ⟨nq, nq0, nq1, nq2⟩ := hC.lt
            clear hC
            by_cases hlt : x.r.d - t + (k : Int) ≤ x.r.d + t
            · have kq := K2.lt
              have e2 : IntKind.i64.wrap (x.r.d - t + (k : Int) + 1) = x.r.d - t + (k : Int) + 1 := IntWalk.i64_in _ (by omega)
              have hw0 := HOK.out (x.r.d - t + (k : Int)) (by omega) hlt
              have HT1 := Go.Lib.hid (fun w0 hs => HT.out q f o (x.r.d - t + (k : Int)) w0 hs hw0)
              have HL1 := Go.Lib.hid (fun w0 => HL.out (x.r.d - t + (k : Int)) w0 hw0)
              clear hw0
              have ed : x.r.d + (-t + (k : Int)) = x.r.d - t + (k : Int) := by omega
              have hlo : loTo x r t (k + 1) = min (loTo x r t k) (spLen (setD x (x.r.d - t + (k : Int))) r) := by rw [← ed]; rfl
              have hhi : hiTo x r t (k + 1) = max (hiTo x r t k) (spLen (setD x (x.r.d - t + (k : Int))) r) := by rw [← ed]; rfl
              clear ed
              have HLO := Go.Lib.hid hlo
              have HHI := Go.Lib.hid hhi
              clear hlo hhi
              skip
              have k0_0 := K0.at_ 0 _ rfl
              have k0_1 := K0.at_ 1 _ rfl
              have k0_2 := K0.at_ 2 _ rfl
              have k0_3 := K0.at_ 3 _ rfl
              have k0_4 := K0.at_ 4 _ rfl
              have k0_5 := K0.at_ 5 _ rfl
              have k0_6 := K0.at_ 6 _ rfl
              have k0_7 := K0.at_ 7 _ rfl
              have k0_8 := K0.at_ 8 _ rfl
              have k0_f := K0.fr
              have k0_l := K0.lt
              go_wp2_with fail
              refine (HT1.out _ ⟨T0, T1, T2⟩).mono ?_
              rintro _ W1 ⟨rfl, b1⟩
              have K1_0 := K0.below b1
              have K1_1 := K1.below b1
              have K1_2 := K2.below b1
              have K1_3 := T0.below b1
              have K1_4 := T1.below b1
              have K1_5 := T2.below b1
              clear k0_0 k0_1 k0_2 k0_3 k0_4 k0_5 k0_6 k0_7 k0_8 k0_f k0_l
              have B1 := upB B0 b1
              clear b1 K0 K1 K2 T0 T1 T2 B0
              generalize spLen (setD x (x.r.d - t + (k : Int))) r = z at *
              generalize spSq (setD x (x.r.d - t + (k : Int))) r = sq at *
              generalize hlo : loTo x r t k = lo at *
              generalize hhi : hiTo x r t k = hi at *
              clear hlo hhi
              go_wp2_with fail
              refine (HL1.out _).mono ?_
              rintro _ _ ⟨rfl, rfl⟩
              have hmin : ∀ a b : Int, (if b < a then b else a) = min a b := fun a b => by split <;> omega
              have hmax : ∀ a b : Int, (if a < b then b else a) = max a b := fun a b => by split <;> omega
              have k1_2_0 := K1_2.at_ 0 _ rfl
              have k1_2_1 := K1_2.at_ 1 _ rfl
              have k1_2_f := K1_2.fr
              have k1_2_l := K1_2.lt
              go_upto_region 13 with fail
              refine wp_gen (R := fun w' => Box w' w.heap.size [.int .i64 x.h.n, .int .i64 x.h.l, .int .i64 x.h.r, .int .i64 x.h.a, .int .i64 x.h.b, .int .i64 x.r.n, .int .i64 x.r.d, .int .i64 x.r.o, .int .i64 x.c] ∧ Box w' (w.heap.size + 1) [.int .i64 0, .int .i64 0] ∧ Box w' qo [.int .i64 ((min lo z)), .int .i64 ((max hi z))] ∧ Box w' q [.int .i64 x.h.n, .int .i64 x.h.l, .int .i64 x.h.r, .int .i64 x.h.a, .int .i64 x.h.b, .int .i64 x.r.n, .int .i64 x.r.d, .int .i64 x.r.o, .int .i64 x.c] ∧ Box w' f [.int .i64 fl] ∧ Box w' o [.int .i64 off] ∧ Below w.heap.size w w') ⟨((K1_0.other (by simp <;> omega) _).other (by simp <;> omega) _), ((K1_1.other (by simp <;> omega) _).other (by simp <;> omega) _), ((K1_2.set _ (by simp)).set _ (by simp)), ((K1_3.other (by simp <;> omega) _).other (by simp <;> omega) _), ((K1_4.other (by simp <;> omega) _).other (by simp <;> omega) _), ((K1_5.other (by simp <;> omega) _).other (by simp <;> omega) _), by go_grown⟩ ?_
              clear k1_2_0 k1_2_1 k1_2_f k1_2_l
              rintro W2 ⟨K2_0, K2_1, K2_2, K2_3, K2_4, K2_5, B2⟩
              clear K1_0 K1_1 K1_2 K1_3 K1_4 K1_5 B1
              clear hmin hmax
              have HLO2 := HLO.out
              have HHI2 := HHI.out
              rw [← HLO2, ← HHI2] at K2_2
              clear HLO HHI HLO2 HHI2
              go_wp2_with fail
              have CN := Go.Lib.hid (LS.mk (w := w) (x := x) K2_0 K2_1 K2_2 ⟨K2_3, K2_4, K2_5⟩ B2 ⟨nq, nq0, nq1, nq2⟩)
              go_roundw
              case rel => exact ⟨k + 1, by omega, by omega, by go_num, CN.out⟩
              case measure => simp [intOf]; omega
            · have ek : k = (2 * t + 1).toNat := by omega
              have HV : Hid (rngA x r t = ((loTo x r t k, hiTo x r t k), 0)) := by rw [HVV.out, ek]; rfl
              clear ek HVV
              generalize loTo x r t k = lo at *
              generalize hiTo x r t k = hi at *
              have k1_0 := K1.at_ 0 _ rfl
              have k1_1 := K1.at_ 1 _ rfl
              have k1_f := K1.fr
              have k1_l := K1.lt
              have k2_0 := K2.at_ 0 _ rfl
              have k2_1 := K2.at_ 1 _ rfl
              have k2_f := K2.fr
              have k2_l := K2.lt
              go_wp2_with fail
              refine bodyPost_ret (v := rngV ((lo, hi), 0)) (by simp [results, Try.results14, go_sem, *]) rfl ⟨by rw [HV.out], by go_grown⟩
end Go.Proofs.Ytifblmcocikopab
