/- The program's CrossesFor. -/
import Derived.Test.YtabcbecmieolhaaSpC
namespace Go.Proofs.Ytabcbecmieolhaa
open Go.RowKit

theorem implLenOf (y : Wh) (r : Bool) (w : World) (hy : wheelB y = true) : Calls Try.prog 71 #[.int .i64 (spSq y r)] w (Just (.int .i64 (spLen y r)) w) :=
  implLengthOf (spSq y r) w (spSq_bd hy).1 (spSq_bd hy).2
/-- How far the best one of the first k is, or more than any can be. -/
def leastTo (x : Wh) (r : Bool) (m : Int) (k : Nat) : Int := if k = 0 then 5001 else (bestTo x r m k).2
theorem best_step {x : Wh} {r : Bool} {m : Int} {k : Nat} (h : awayI x r m k ≤ 5000) : bestTo x r m (k + 1) = if awayI x r m k < leastTo x r m k then ((k : Int), awayI x r m k) else bestTo x r m k := by
  have hst : bestTo x r m (k + 1) = if (bestTo x r m k).2 < 0 ∨ awayI x r m k < (bestTo x r m k).2 then ((k : Int), awayI x r m k) else bestTo x r m k := rfl
  rw [hst]
  unfold leastTo
  cases k with
  | zero => rw [if_pos (.inl (by unfold bestTo; omega)), if_pos (by rw [if_pos rfl]; omega)]
  | succ j =>
    have hp := away_ge x r m (bestTo x r m (j + 1)).1
    rw [← (bestTo_spec x r m j).1] at hp
    rw [if_neg (show ¬ j + 1 = 0 by omega)]
    by_cases hc : awayI x r m ((j + 1 : Nat) : Int) < (bestTo x r m (j + 1)).2
    · rw [if_pos (.inr hc), if_pos hc]
    · rw [if_neg (by omega), if_neg hc]
structure CB (w : World) (x : Wh) (fl off : Int) (q f o : Nat) (W : World) : Prop where
  par : Box W w.heap.size [.int .i64 x.h.n, .int .i64 x.h.l, .int .i64 x.h.r, .int .i64 x.h.a, .int .i64 x.h.b, .int .i64 x.r.n, .int .i64 x.r.d, .int .i64 x.r.o, .int .i64 x.c]
  side : Side x fl off q f o W
  below : Below w.heap.size w W
theorem least_self {x : Wh} {r : Bool} {m : Int} {k : Nat} (hn : ¬ awayI x r m k < leastTo x r m k) (h : awayI x r m k ≤ 5000) : (bestTo x r m k).2 = leastTo x r m k := by
  unfold leastTo at *
  by_cases h0 : k = 0
  · rw [if_pos h0] at hn; omega
  · rw [if_neg h0]
set_option maxRecDepth 100000 in
set_option maxHeartbeats 4000000 in
theorem implCrossesFor (x : Wh) (r : Bool) (m : Int) (w : World) : Calls Try.prog 36 #[wheelV x, .bool r, .int .i64 m] w (IsV w (pairI (crsA x r m))) := by
  have HW := Go.Lib.hid (fun w0 => implIsWheel x w0)
  cases hb : wheelB x
  · rw [hb] at HW
    have HV : Hid (crsA x r m = (0, 1)) := by unfold crsA; rw [hb]; rfl
    clear hb
    go_enter Try.func36, Try.ntmps36
    go_wp2_with fail
    refine calls_gen (R := fun w' => Box w' w.heap.size [.int .i64 x.h.n, .int .i64 x.h.l, .int .i64 x.h.r, .int .i64 x.h.a, .int .i64 x.h.b, .int .i64 x.r.n, .int .i64 x.r.d, .int .i64 x.r.o, .int .i64 x.c] ∧ Below w.heap.size w w') ⟨Box.new rfl rfl, by go_grown⟩ ?_
    rintro W1 ⟨K1_0, B1⟩
    refine (HW.out _).mono ?_
    rintro _ W2 ⟨rfl, b2⟩
    have K2_0 := K1_0.below b2
    have B2 := upB B1 b2
    clear b2 K1_0 B1
    have k2_0_0 := K2_0.at_ 0 _ rfl
    have k2_0_1 := K2_0.at_ 1 _ rfl
    have k2_0_2 := K2_0.at_ 2 _ rfl
    have k2_0_3 := K2_0.at_ 3 _ rfl
    have k2_0_4 := K2_0.at_ 4 _ rfl
    have k2_0_5 := K2_0.at_ 5 _ rfl
    have k2_0_6 := K2_0.at_ 6 _ rfl
    have k2_0_7 := K2_0.at_ 7 _ rfl
    have k2_0_8 := K2_0.at_ 8 _ rfl
    have k2_0_f := K2_0.fr
    have k2_0_l := K2_0.lt
    go_wp2_with fail
    go_ret2
    exact ⟨by rw [HV.out]; rfl, B2⟩
  · rw [hb] at HW
    have HI := Go.Lib.hid (fun w0 => implIsLength m w0)
    cases hi2 : inB m 0 5000
    · rw [hi2] at HI
      have HV : Hid (crsA x r m = (0, 2)) := by unfold crsA; rw [hb, hi2]; rfl
      clear hb hi2
      go_enter Try.func36, Try.ntmps36
      go_wp2_with fail
      refine calls_gen (R := fun w' => Box w' w.heap.size [.int .i64 x.h.n, .int .i64 x.h.l, .int .i64 x.h.r, .int .i64 x.h.a, .int .i64 x.h.b, .int .i64 x.r.n, .int .i64 x.r.d, .int .i64 x.r.o, .int .i64 x.c] ∧ Below w.heap.size w w') ⟨Box.new rfl rfl, by go_grown⟩ ?_
      rintro W1 ⟨K1_0, B1⟩
      refine (HW.out _).mono ?_
      rintro _ W2 ⟨rfl, b2⟩
      have K2_0 := K1_0.below b2
      have B2 := upB B1 b2
      clear b2 K1_0 B1
      have k2_0_0 := K2_0.at_ 0 _ rfl
      have k2_0_1 := K2_0.at_ 1 _ rfl
      have k2_0_2 := K2_0.at_ 2 _ rfl
      have k2_0_3 := K2_0.at_ 3 _ rfl
      have k2_0_4 := K2_0.at_ 4 _ rfl
      have k2_0_5 := K2_0.at_ 5 _ rfl
      have k2_0_6 := K2_0.at_ 6 _ rfl
      have k2_0_7 := K2_0.at_ 7 _ rfl
      have k2_0_8 := K2_0.at_ 8 _ rfl
      have k2_0_f := K2_0.fr
      have k2_0_l := K2_0.lt
      go_wp2_with fail
      refine (HI.out _).mono ?_
      rintro _ _ ⟨rfl, rfl⟩
      go_wp2_with fail
      go_ret2
      exact ⟨by rw [HV.out]; rfl, B2⟩
    · rw [hi2] at HI
      obtain ⟨m0, m1⟩ := inB_iff.1 hi2
      have HV : Hid (crsA x r m = ((bestTo x r m (x.h.n / 4).toNat).1, 0)) := by unfold crsA; rw [hb, hi2]; rfl
      have HS := Go.Lib.hid (fun w0 => implSideOf x r w0 hb)
      have HT : Hid (∀ (q f o : Nat) (c : Int) (w0 : World) (hs : Side x (flI x r) (offI x r) q f o w0) (h0 : 0 ≤ c) (h1 : c < x.h.n / 4), Calls Try.prog 86 #[.int .i64 x.r.d, .int .i64 c, .pointer (some ⟨q, 0, none⟩), .pointer (some ⟨f, 0, none⟩), .pointer (some ⟨o, 0, none⟩)] w0 (IsV w0 (.int .i64 (spSq (setC x c) r)))) := fun q f o c w0 hs h0 h1 => implSideAt x (setC x c) r q f o w0 hs hb (wheelB_setC hb h0 h1) rfl rfl
      have HL := Go.Lib.hid (fun c w0 (h0 : 0 ≤ c) (h1 : c < x.h.n / 4) => implLenOf (setC x c) r w0 (wheelB_setC hb h0 h1))
      have HLB := Go.Lib.hid (fun c (h0 : 0 ≤ c) (h1 : c < x.h.n / 4) => spLen_bd (r := r) (wheelB_setC hb h0 h1))
      obtain ⟨⟨n0, n1, -⟩, -⟩ := wheel_bd hb
      have HM := Go.Lib.hid (fun w0 => implMost x.h.n w0 (by omega) (by omega))
      obtain ⟨K, hK⟩ : ∃ K, K = (x.h.n / 4).toNat := ⟨_, rfl⟩
      have hK2 : x.h.n / 4 = (K : Int) := by omega
      have hK3 : K ≤ 12 := by omega
      rw [← hK] at HV
      rw [hK2] at HM HT HL HLB
      clear hb hi2 hK hK2 n0 n1
      generalize flI x r = fl at *
      generalize offI x r = off at *
      go_enter Try.func36, Try.ntmps36
      go_wp2_with fail
      refine calls_gen (R := fun w' => Box w' w.heap.size [.int .i64 x.h.n, .int .i64 x.h.l, .int .i64 x.h.r, .int .i64 x.h.a, .int .i64 x.h.b, .int .i64 x.r.n, .int .i64 x.r.d, .int .i64 x.r.o, .int .i64 x.c] ∧ Below w.heap.size w w') ⟨Box.new rfl rfl, by go_grown⟩ ?_
      rintro W1 ⟨K1_0, B1⟩
      refine (HW.out _).mono ?_
      rintro _ W2 ⟨rfl, b2⟩
      have K2_0 := K1_0.below b2
      have B2 := upB B1 b2
      clear b2 K1_0 B1
      have k2_0_0 := K2_0.at_ 0 _ rfl
      have k2_0_1 := K2_0.at_ 1 _ rfl
      have k2_0_2 := K2_0.at_ 2 _ rfl
      have k2_0_3 := K2_0.at_ 3 _ rfl
      have k2_0_4 := K2_0.at_ 4 _ rfl
      have k2_0_5 := K2_0.at_ 5 _ rfl
      have k2_0_6 := K2_0.at_ 6 _ rfl
      have k2_0_7 := K2_0.at_ 7 _ rfl
      have k2_0_8 := K2_0.at_ 8 _ rfl
      have k2_0_f := K2_0.fr
      have k2_0_l := K2_0.lt
      go_wp2_with fail
      refine (HI.out _).mono ?_
      rintro _ _ ⟨rfl, rfl⟩
      go_wp2_with fail
      refine (HS.out _).mono ?_
      rintro _ W3 ⟨q, f, o, rfl, S, -, b3⟩
      have K3_0 := K2_0.below b3
      clear k2_0_0 k2_0_1 k2_0_2 k2_0_3 k2_0_4 k2_0_5 k2_0_6 k2_0_7 k2_0_8 k2_0_f k2_0_l
      have B3 := upB B2 b3
      clear b3 K2_0 B2
      go_wp2_with fail
      have C0 := Go.Lib.hid (CB.mk (w := w) (x := x) K3_0 S B3)
      clear K3_0 B3 S HW HI HS
      go_loopw [9, 10, 11, 12] (fun b l c _ wr => ∃ k : Nat, k ≤ K ∧ c = .int .i64 k ∧ b = .int .i64 (bestTo x r m k).1 ∧ l = .int .i64 (leastTo x r m k) ∧ CB w x fl off q f o wr) (fun _ _ c _ _ => K - (intOf c).toNat)
      case atStart => exact ⟨0, Nat.zero_le _, rfl, rfl, rfl, C0.out⟩
      case round =>
        clear C0
        obtain ⟨k, hk, rfl, rfl, rfl, hC⟩ := hrel
        have K0 := hC.par
        have S0 := hC.side
        have B0 := hC.below
        clear hC
        by_cases hlt : k < K
        · have T0 := S0.wb
          have T1 := S0.fb
          have T2 := S0.ob
          clear S0
          have hle : (k : Int) ≤ (K : Int) - 1 := by omega
          have k0_0 := K0.at_ 0 _ rfl
          have k0_1 := K0.at_ 1 _ rfl
          have k0_2 := K0.at_ 2 _ rfl
          have k0_3 := K0.at_ 3 _ rfl
          have k0_4 := K0.at_ 4 _ rfl
          have k0_5 := K0.at_ 5 _ rfl
          have k0_6 := K0.at_ 6 _ rfl
          have k0_7 := K0.at_ 7 _ rfl
          have k0_8 := K0.at_ 8 _ rfl
          have k0_f := K0.fr
          have k0_l := K0.lt
          go_wp2_with fail
          refine (HM.out _).mono ?_
          rintro _ _ ⟨rfl, rfl⟩
          go_wp2_with fail
          refine (HT.out q f o k _ ⟨T0, T1, T2⟩ (by omega) (by omega)).mono ?_
          rintro _ W1 ⟨rfl, b1⟩
          have K1_0 := K0.below b1
          have K1_1 := T0.below b1
          have K1_2 := T1.below b1
          have K1_3 := T2.below b1
          clear k0_0 k0_1 k0_2 k0_3 k0_4 k0_5 k0_6 k0_7 k0_8 k0_f k0_l
          have B1 := upB B0 b1
          clear b1 K0 T0 T1 T2 B0
          have hlb := HLB.out k (by omega) (by omega)
          have HL1 := Go.Lib.hid (fun w0 => HL.out k w0 (by omega) (by omega))
          have haw : awayI x r m k = max (spLen (setC x k) r - m) (-(spLen (setC x k) r - m)) := rfl
          have hst := best_step (x := x) (r := r) (m := m) (k := k) (by rw [haw]; omega)
          have hl2 : leastTo x r m (k + 1) = (bestTo x r m (k + 1)).2 := rfl
          have hlk : ¬ awayI x r m k < leastTo x r m k → (bestTo x r m k).2 = leastTo x r m k := fun hn => least_self hn (by unfold awayI; omega)
          have e1 : IntKind.i64.wrap (spLen (setC x k) r - m) = spLen (setC x k) r - m := IntWalk.i64_in _ (by omega)
          have e2 : IntKind.i64.wrap (-(spLen (setC x k) r - m)) = -(spLen (setC x k) r - m) := IntWalk.i64_in _ (by omega)
          generalize spLen (setC x k) r = z at *
          generalize spSq (setC x k) r = sq at *
          have haw2 : (if z - m < -(z - m) then -(z - m) else z - m) = awayI x r m k := by rw [haw]; split <;> omega
          clear haw
          generalize awayI x r m k = aw at *
          generalize leastTo x r m k = lk at *
          generalize bestTo x r m k = p at *
          have CN := Go.Lib.hid (CB.mk (w := w) (x := x) K1_0 ⟨K1_1, K1_2, K1_3⟩ B1)
          clear K1_0 K1_1 K1_2 K1_3 B1 HLB HL HM HT hlb
          go_wp2_with fail
          refine (HL1.out _).mono ?_
          rintro _ _ ⟨rfl, rfl⟩
          by_cases h2 : aw < lk
          · have HN : Hid (bestTo x r m (k + 1) = ((k : Int), aw)) := by rw [hst, if_pos h2]; rfl
            have HN2 := Go.Lib.hid hl2
            clear hst hl2
            go_wp2_with fail
            go_roundw
            case rel => exact ⟨k + 1, by omega, by go_num, by rw [HN.out], by rw [HN2.out, HN.out], CN.out⟩
            case measure => simp [intOf]; omega
          · have HN : Hid (bestTo x r m (k + 1) = p) := by rw [hst, if_neg h2]; rfl
            have HN2 : Hid (leastTo x r m (k + 1) = lk) := by rw [hl2, HN.out]; exact hlk (by omega)
            clear hst hl2
            go_wp2_with fail
            go_roundw
            case rel => exact ⟨k + 1, by omega, by go_num, by rw [HN.out], by rw [HN2.out], CN.out⟩
            case measure => simp [intOf]; omega
        · obtain rfl : k = K := by omega
          have hle : ¬ (k : Int) ≤ (k : Int) - 1 := by omega
          have k0_0 := K0.at_ 0 _ rfl
          have k0_1 := K0.at_ 1 _ rfl
          have k0_2 := K0.at_ 2 _ rfl
          have k0_3 := K0.at_ 3 _ rfl
          have k0_4 := K0.at_ 4 _ rfl
          have k0_5 := K0.at_ 5 _ rfl
          have k0_6 := K0.at_ 6 _ rfl
          have k0_7 := K0.at_ 7 _ rfl
          have k0_8 := K0.at_ 8 _ rfl
          have k0_f := K0.fr
          have k0_l := K0.lt
          go_wp2_with fail
          refine (HM.out _).mono ?_
          rintro _ _ ⟨rfl, rfl⟩
          go_wp2_with fail
          go_ret2
          exact ⟨by rw [HV.out]; rfl, B0⟩
end Go.Proofs.Ytabcbecmieolhaa
