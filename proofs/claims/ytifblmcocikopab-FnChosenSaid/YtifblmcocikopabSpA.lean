/- The program's sides of a wheel: a closure that is handed back, and what it answers. -/
import Derived.Test.YtifblmcocikopabCosImpl
import Derived.Test.YtifblmcocikopabCosSq
import Derived.Test.YtifblmcocikopabHubImpl
import Derived.Test.YtifblmcocikopabSpoke1
namespace Go.Proofs.Ytifblmcocikopab
open Go.RowKit

abbrev sideV (q f o : Nat) : Value := .func (.func 53) #[] #[.pointer (some ⟨q, 0, none⟩), .pointer (some ⟨f, 0, none⟩), .pointer (some ⟨o, 0, none⟩)]
/-- What a side has captured: the wheel, the flange's diameter, the off. -/
structure Side (x : Wh) (fl off : Int) (q f o : Nat) (W : World) : Prop where
  wb : Box W q [.int .i64 x.h.n, .int .i64 x.h.l, .int .i64 x.h.r, .int .i64 x.h.a, .int .i64 x.h.b, .int .i64 x.r.n, .int .i64 x.r.d, .int .i64 x.r.o, .int .i64 x.c]
  fb : Box W f [.int .i64 fl]
  ob : Box W o [.int .i64 off]
theorem Side.below {x : Wh} {fl off : Int} {q f o : Nat} {W W1 : World} (h : Side x fl off q f o W) (hb : Below W.heap.size W W1) : Side x fl off q f o W1 := ⟨h.wb.below hb, h.fb.below hb, h.ob.below hb⟩
theorem Side.alloc {x : Wh} {fl off : Int} {q f o : Nat} {W : World} (h : Side x fl off q f o W) (a : Obj) : Side x fl off q f o (W.alloc a) := ⟨h.wb.alloc a, h.fb.alloc a, h.ob.alloc a⟩
theorem Side.drew {x : Wh} {fl off : Int} {q f o : Nat} {W : World} (h : Side x fl off q f o W) : Side x fl off q f o W.drew := ⟨h.wb.drew, h.fb.drew, h.ob.drew⟩
theorem Side.drewN {x : Wh} {fl off : Int} {q f o : Nat} {W : World} (h : Side x fl off q f o W) (m : Nat) : Side x fl off q f o (W.drewN m) := ⟨h.wb.drewN m, h.fb.drewN m, h.ob.drewN m⟩
theorem Side.other {x : Wh} {fl off : Int} {q f o : Nat} {W : World} (h : Side x fl off q f o W) {p : Addr} (h1 : p.block ≠ q) (h2 : p.block ≠ f) (h3 : p.block ≠ o) (v : Value) : Side x fl off q f o (W.setCell p v) := ⟨h.wb.other h1 v, h.fb.other h2 v, h.ob.other h3 v⟩
structure SB (w : World) (x : Wh) (fl off : Int) (q f o : Nat) (W : World) : Prop where
  side : Side x fl off q f o W
  below : Below w.heap.size w W
theorem SB.next {w : World} {x : Wh} {fl off : Int} {q f o : Nat} {W W1 : World} (h : SB w x fl off q f o W) (hb : Below W.heap.size W W1) : SB w x fl off q f o W1 := ⟨h.side.below hb, upB h.below hb⟩
theorem SB.drew {w : World} {x : Wh} {fl off : Int} {q f o : Nat} {W : World} (h : SB w x fl off q f o W) : SB w x fl off q f o W.drew := ⟨h.side.drew, h.below.drew⟩
theorem SB.cells {w : World} {x : Wh} {fl off : Int} {q f o : Nat} {W : World} (h : SB w x fl off q f o W) : W.cell? ⟨f, 0, none⟩ = some (.int .i64 fl) ∧ W.cell? ⟨o, 0, none⟩ = some (.int .i64 off) := ⟨h.side.fb.at_ 0 _ rfl, h.side.ob.at_ 0 _ rfl⟩
theorem implSquare (a b n : Int) (w : World) (a0 : 0 ≤ a) (a1 : a ≤ 10000) (b0 : 0 ≤ b) (b1 : b ≤ 10000) (h0 : -100000 ≤ n) (h1 : n ≤ 100000) : Calls Try.prog 54 #[.int .i64 a, .int .i64 b, .int .i64 n] w (Ans (.int .i64 (sqI a b n)) w) := by
  have HC := Go.Lib.hid (fun w0 => implCosine n w0 (by omega) (by omega))
  have hc := cosI_bd n
  obtain ⟨p0, p1⟩ := two_bd a0 a1 b0 b1
  have p2 := three_bd p0 p1 hc
  have p3 := nrm_mul p0 hc
  have s1 := sq_bd a0 a1
  have s2 := sq_bd b0 b1
  have HV : Hid (sqI a b n = a * a + b * b - nrm (2 * a * b * cosI n)) := rfl
  have HN := Go.Lib.hid (fun w0 => implNearest (2 * a * b * cosI n) w0 (by omega) (by omega))
  generalize cosI n = c at HC HN HV hc p2 p3
  go_enter Try.func54, Try.ntmps54
  go_wp2_with fail
  refine (HC.out _).mono ?_
  rintro _ w1 ⟨rfl, b1⟩
  go_wp2_with fail
  refine (HN.out _).mono ?_
  rintro _ _ ⟨rfl, rfl⟩
  go_wp2_with fail
  go_ret
  exact ⟨by rw [HV.out]; rfl, b1⟩
theorem implOff (x : Wh) (r : Bool) (w : World) (hx : wheelB x = true) : Calls Try.prog 52 #[wheelV x, .bool r] w (IsV w (.int .i64 (offI x r))) := by
  obtain ⟨⟨n0, n1, n2⟩, ⟨l0, l1⟩, ⟨r0, r1⟩, ⟨a0, a1⟩, ⟨b0, b1⟩, ⟨d0, d1⟩, ⟨o0, o1⟩, c0, c1⟩ := wheel_bd hx
  clear hx
  cases r
  · have HV : Hid (offI x false = x.h.a + x.r.o) := rfl
    go_enter Try.func52, Try.ntmps52
    go_wp2_with fail
    go_ret
    exact ⟨by rw [HV.out]; rfl, by go_grown⟩
  · have HV : Hid (offI x true = x.h.b - x.r.o) := rfl
    go_enter Try.func52, Try.ntmps52
    go_wp2_with fail
    go_ret
    exact ⟨by rw [HV.out]; rfl, by go_grown⟩
set_option maxRecDepth 100000 in
set_option maxHeartbeats 4000000 in
theorem implSideOf (x : Wh) (r : Bool) (w : World) (hx : wheelB x = true) : Calls Try.prog 39 #[wheelV x, .bool r] w (fun e w' => ∃ q f o, e = .returned (sideV q f o) ∧ Side x (flI x r) (offI x r) q f o w' ∧ (w.heap.size ≤ q ∧ w.heap.size ≤ f ∧ w.heap.size ≤ o) ∧ Below w.heap.size w w') := by
  have HO := Go.Lib.hid (fun w0 => implOff x r w0 hx)
  have hmf : ∀ (fn : Fn) (first cap : Array Value) (w : World), (Instr.makeFunc fn first cap).run Try.prog w = .ok (.func fn first cap) w := fun _ _ _ _ => rfl
  clear hx
  generalize offI x r = off at *
  cases r
  · have hfl : flI x false = x.h.l := rfl
    rw [hfl]
    clear hfl
    go_enter Try.func39, Try.ntmps39
    go_upto_region 4 with fail
    refine wp_gen (R := fun w' => Box w' w.heap.size [.int .i64 x.h.n, .int .i64 x.h.l, .int .i64 x.h.r, .int .i64 x.h.a, .int .i64 x.h.b, .int .i64 x.r.n, .int .i64 x.r.d, .int .i64 x.r.o, .int .i64 x.c] ∧ Box w' (w.heap.size + 1) [.int .i64 x.h.l] ∧ Below w.heap.size w w') ⟨by first | exact Box.alloc (Box.new rfl rfl) _ | exact (Box.alloc (Box.new rfl rfl) _).other (by simp) _, by first | exact Box.new (by simp) rfl | exact (Box.new (by simp) rfl).set _ (by simp), by go_grown⟩ ?_
    rintro W1 ⟨K1_0, K1_1, B1⟩
    have k1_0_0 := K1_0.at_ 0 _ rfl
    have k1_0_1 := K1_0.at_ 1 _ rfl
    have k1_0_2 := K1_0.at_ 2 _ rfl
    have k1_0_3 := K1_0.at_ 3 _ rfl
    have k1_0_4 := K1_0.at_ 4 _ rfl
    have k1_0_5 := K1_0.at_ 5 _ rfl
    have k1_0_6 := K1_0.at_ 6 _ rfl
    have k1_0_7 := K1_0.at_ 7 _ rfl
    have k1_0_8 := K1_0.at_ 8 _ rfl
    have k1_0_f := K1_0.fr
    have k1_0_l := K1_0.lt
    have k1_1_0 := K1_1.at_ 0 _ rfl
    have k1_1_f := K1_1.fr
    have k1_1_l := K1_1.lt
    skip
    go_wp2_with fail
    refine (HO.out _).mono ?_
    rintro _ W2 ⟨rfl, b2⟩
    have K2_0 := K1_0.below b2
    have K2_1 := K1_1.below b2
    clear k1_0_0 k1_0_1 k1_0_2 k1_0_3 k1_0_4 k1_0_5 k1_0_6 k1_0_7 k1_0_8 k1_0_f k1_0_l k1_1_0 k1_1_f k1_1_l
    have B2 := upB B1 b2
    clear b2 K1_0 K1_1 B1
    have k2_0_0 := K2_0.at_ 0 _ rfl
    have k2_0_1 := K2_0.at_ 1 _ rfl
    have k2_0_2 := K2_0.at_ 2 _ rfl
    have k2_0_3 := K2_0.at_ 3 _ rfl
    have k2_0_4 := K2_0.at_ 4 _ rfl
    have k2_0_5 := K2_0.at_ 5 _ rfl
    have k2_0_6 := K2_0.at_ 6 _ rfl
    have k2_0_7 := K2_0.at_ 7 _ rfl
    have k2_0_8 := K2_0.at_ 8 _ rfl
    have k2_0_f := K2_0.fr
    have k2_0_l := K2_0.lt
    have k2_1_0 := K2_1.at_ 0 _ rfl
    have k2_1_f := K2_1.fr
    have k2_1_l := K2_1.lt
    have s2 := B2.size
    have n0 := K2_0.lt
    have n1 := K2_1.lt
    go_upto_region 5 with fail
    clear k2_0_0 k2_0_1 k2_0_2 k2_0_3 k2_0_4 k2_0_5 k2_0_6 k2_0_7 k2_0_8 k2_0_f k2_0_l k2_1_0 k2_1_f k2_1_l
    refine wp_gen (R := fun w' => Box w' w.heap.size [.int .i64 x.h.n, .int .i64 x.h.l, .int .i64 x.h.r, .int .i64 x.h.a, .int .i64 x.h.b, .int .i64 x.r.n, .int .i64 x.r.d, .int .i64 x.r.o, .int .i64 x.c] ∧ Box w' (w.heap.size + 1) [.int .i64 x.h.l] ∧ Box w' W2.heap.size [.int .i64 off] ∧ Below w.heap.size w w') ⟨K2_0.alloc _, K2_1.alloc _, Box.new rfl rfl, B2.alloc B2.size _⟩ ?_
    rintro W3 ⟨K3_0, K3_1, K3_2, B3⟩
    clear K2_0 K2_1 B2
    have S := Side.mk K3_0 K3_1 K3_2
    go_wp2_with fail
    go_ret
    exact ⟨_, _, _, rfl, S, ⟨Nat.le_refl _, by omega, by omega⟩, B3⟩
  · have hfl : flI x true = x.h.r := rfl
    rw [hfl]
    clear hfl
    go_enter Try.func39, Try.ntmps39
    go_upto_region 4 with fail
    refine wp_gen (R := fun w' => Box w' w.heap.size [.int .i64 x.h.n, .int .i64 x.h.l, .int .i64 x.h.r, .int .i64 x.h.a, .int .i64 x.h.b, .int .i64 x.r.n, .int .i64 x.r.d, .int .i64 x.r.o, .int .i64 x.c] ∧ Box w' (w.heap.size + 1) [.int .i64 x.h.r] ∧ Below w.heap.size w w') ⟨by first | exact Box.alloc (Box.new rfl rfl) _ | exact (Box.alloc (Box.new rfl rfl) _).other (by simp) _, by first | exact Box.new (by simp) rfl | exact (Box.new (by simp) rfl).set _ (by simp), by go_grown⟩ ?_
    rintro W1 ⟨K1_0, K1_1, B1⟩
    have k1_0_0 := K1_0.at_ 0 _ rfl
    have k1_0_1 := K1_0.at_ 1 _ rfl
    have k1_0_2 := K1_0.at_ 2 _ rfl
    have k1_0_3 := K1_0.at_ 3 _ rfl
    have k1_0_4 := K1_0.at_ 4 _ rfl
    have k1_0_5 := K1_0.at_ 5 _ rfl
    have k1_0_6 := K1_0.at_ 6 _ rfl
    have k1_0_7 := K1_0.at_ 7 _ rfl
    have k1_0_8 := K1_0.at_ 8 _ rfl
    have k1_0_f := K1_0.fr
    have k1_0_l := K1_0.lt
    have k1_1_0 := K1_1.at_ 0 _ rfl
    have k1_1_f := K1_1.fr
    have k1_1_l := K1_1.lt
    skip
    go_wp2_with fail
    refine (HO.out _).mono ?_
    rintro _ W2 ⟨rfl, b2⟩
    have K2_0 := K1_0.below b2
    have K2_1 := K1_1.below b2
    clear k1_0_0 k1_0_1 k1_0_2 k1_0_3 k1_0_4 k1_0_5 k1_0_6 k1_0_7 k1_0_8 k1_0_f k1_0_l k1_1_0 k1_1_f k1_1_l
    have B2 := upB B1 b2
    clear b2 K1_0 K1_1 B1
    have k2_0_0 := K2_0.at_ 0 _ rfl
    have k2_0_1 := K2_0.at_ 1 _ rfl
    have k2_0_2 := K2_0.at_ 2 _ rfl
    have k2_0_3 := K2_0.at_ 3 _ rfl
    have k2_0_4 := K2_0.at_ 4 _ rfl
    have k2_0_5 := K2_0.at_ 5 _ rfl
    have k2_0_6 := K2_0.at_ 6 _ rfl
    have k2_0_7 := K2_0.at_ 7 _ rfl
    have k2_0_8 := K2_0.at_ 8 _ rfl
    have k2_0_f := K2_0.fr
    have k2_0_l := K2_0.lt
    have k2_1_0 := K2_1.at_ 0 _ rfl
    have k2_1_f := K2_1.fr
    have k2_1_l := K2_1.lt
    have s2 := B2.size
    have n0 := K2_0.lt
    have n1 := K2_1.lt
    go_upto_region 5 with fail
    clear k2_0_0 k2_0_1 k2_0_2 k2_0_3 k2_0_4 k2_0_5 k2_0_6 k2_0_7 k2_0_8 k2_0_f k2_0_l k2_1_0 k2_1_f k2_1_l
    refine wp_gen (R := fun w' => Box w' w.heap.size [.int .i64 x.h.n, .int .i64 x.h.l, .int .i64 x.h.r, .int .i64 x.h.a, .int .i64 x.h.b, .int .i64 x.r.n, .int .i64 x.r.d, .int .i64 x.r.o, .int .i64 x.c] ∧ Box w' (w.heap.size + 1) [.int .i64 x.h.r] ∧ Box w' W2.heap.size [.int .i64 off] ∧ Below w.heap.size w w') ⟨K2_0.alloc _, K2_1.alloc _, Box.new rfl rfl, B2.alloc B2.size _⟩ ?_
    rintro W3 ⟨K3_0, K3_1, K3_2, B3⟩
    clear K2_0 K2_1 B2
    have S := Side.mk K3_0 K3_1 K3_2
    go_wp2_with fail
    go_ret
    exact ⟨_, _, _, rfl, S, ⟨Nat.le_refl _, by omega, by omega⟩, B3⟩
set_option maxRecDepth 100000 in
set_option maxHeartbeats 4000000 in
theorem implSide (x : Wh) (fl off d c : Int) (q f o : Nat) (w : World) (hs : Side x fl off q f o w) (n0 : 12 ≤ x.h.n) (n1 : x.h.n ≤ 48) (c0 : 0 ≤ c) (c1 : c ≤ 12) (d0 : 2000 ≤ d) (d1 : d ≤ 7000) (f0 : 200 ≤ fl) (f1 : fl ≤ 1200) (o0 : -600 ≤ off) (o1 : off ≤ 600) : Calls Try.prog 53 #[.int .i64 d, .int .i64 c, .pointer (some ⟨q, 0, none⟩), .pointer (some ⟨f, 0, none⟩), .pointer (some ⟨o, 0, none⟩)] w (IsV w (.int .i64 (sqI d fl (1440 * c / x.h.n) + 4 * off * off))) := by
  obtain ⟨st, hst⟩ : ∃ st, st = 1440 * c / x.h.n := ⟨_, rfl⟩
  rw [← hst]
  have s0 : 0 ≤ st := by rw [hst]; exact Int.ediv_nonneg (by omega) (by omega)
  have s1 : st ≤ 2000 := by rw [hst]; exact Int.ediv_le_of_le_mul (by omega) (by omega)
  have HS := Go.Lib.hid (fun w0 => implSquare d fl st w0 (by omega) (by omega) (by omega) (by omega) (by omega) (by omega))
  have hq := sqI_le (a := d) (b := fl) st (by omega) (by omega) (by omega) (by omega)
  have hq0 := sqI_nonneg (a := d) (b := fl) st (by omega) (by omega)
  have p4 := off_sq (x := off) (by omega) (by omega)
  skip
  have hd : (1440 * c).tdiv x.h.n = st := by rw [hst]; exact Int.tdiv_eq_ediv_of_nonneg (by omega)
  have hne : (x.h.n == 0) = false := by simp; omega
  have hn0 : ¬ x.h.n = 0 := by omega
  have e0 : IntKind.i64.wrap (1440 * c) = 1440 * c := IntWalk.i64_in _ (by omega)
  have e1 : IntKind.i64.wrap st = st := IntWalk.i64_in _ (by omega)
  have e2 : IntKind.i64.wrap (4 * off) = 4 * off := IntWalk.i64_in _ (by omega)
  have e3 : IntKind.i64.wrap (4 * off * off) = 4 * off * off := IntWalk.i64_in _ (by omega)
  have e4 : IntKind.i64.wrap (sqI d fl st + 4 * off * off) = sqI d fl st + 4 * off * off := IntWalk.i64_in _ (by omega)
  clear hq hq0 p4 s0 s1 hst n0 n1 c0 c1 d0 d1 f0 f1 o0 o1
  generalize hS : sqI d fl st = S at *
  clear hS
  have C := Go.Lib.hid (SB.mk (w := w) hs (Below.refl _ _))
  have k0 := hs.wb.at_ 0 _ rfl
  have k1 := hs.fb.at_ 0 _ rfl
  have k2 := hs.ob.at_ 0 _ rfl
  have kf0 := hs.wb.fr
  have kf1 := hs.fb.fr
  have kf2 := hs.ob.fr
  clear hs
  go_enter Try.func53, Try.ntmps53
  go_upto_region 2 with fail
  clear k0 k1 k2 kf0 kf1 kf2
  have e9 := C.out.cells
  go_region_held3 (fun w' => w'.cell? ⟨f, 0, none⟩ = some (.int .i64 fl) ∧ w'.cell? ⟨o, 0, none⟩ = some (.int .i64 off))
    (first | with_reducible exact C.out.cells | with_reducible exact C.out.drew.cells)
    (first | (go_at_call 54; refine (HS.out _).mono ?_; rintro _ V1 ⟨rfl, b1⟩; (first | have C := Go.Lib.hid (C.out.next b1) | have C := Go.Lib.hid (C.out.drew.next b1))))
  go_wp2_with fail
  go_ret
  exact ⟨rfl, C.out.below⟩
theorem implLengthOf (n : Int) (w : World) (h0 : 640000 ≤ n) (h1 : n ≤ 68680000) : Calls Try.prog 40 #[.int .i64 n] w (Just (.int .i64 ((rootI n + 1) / 2 - 12)) w) := by
  have HR := Go.Lib.hid (fun w0 => implRootDown n w0 (by omega) (by omega))
  have hr := root_in2 h0 h1
  generalize rootI n = R at *
  have hd : (R + 1).tdiv 2 = (R + 1) / 2 := Int.tdiv_eq_ediv_of_nonneg (by omega)
  clear h0 h1
  go_enter Try.func40, Try.ntmps40
  go_wp2_with fail
  refine (HR.out _).mono ?_
  rintro _ _ ⟨rfl, rfl⟩
  go_wp2_with fail
  go_ret
  exact ⟨rfl, rfl⟩
/-- A side asked for its wheel's own diameter and crosses. -/
theorem implSideAt (x y : Wh) (r : Bool) (q f o : Nat) (w : World) (hs : Side x (flI x r) (offI x r) q f o w) (hx : wheelB x = true) (hy : wheelB y = true) (e1 : y.h = x.h) (e2 : y.r.o = x.r.o) : Calls Try.prog 53 #[.int .i64 y.r.d, .int .i64 y.c, .pointer (some ⟨q, 0, none⟩), .pointer (some ⟨f, 0, none⟩), .pointer (some ⟨o, 0, none⟩)] w (IsV w (.int .i64 (spSq y r))) := by
  have ho := offI_bd (r := r) hx
  have hf := flI_bd (r := r) hx
  obtain ⟨⟨n0, n1, -⟩, -⟩ := wheel_bd hx
  obtain ⟨⟨m0, m1, -⟩, -, -, -, -, ⟨d0, d1⟩, -, c0, c1⟩ := wheel_bd hy
  have h := implSide x (flI x r) (offI x r) y.r.d y.c q f o w hs n0 n1 c0 (by omega) (by omega) (by omega) (by omega) (by omega) (by omega) (by omega)
  have e : spSq y r = sqI y.r.d (flI x r) (1440 * y.c / x.h.n) + 4 * offI x r * offI x r := by
    unfold spSq flI offI stI
    rw [e1, e2]
  rw [e]
  exact h
set_option maxRecDepth 100000 in
set_option maxHeartbeats 4000000 in
theorem implLen (x : Wh) (r : Bool) (w : World) (hx : wheelB x = true) : Calls Try.prog 36 #[wheelV x, .bool r] w (IsV w (.int .i64 (spLen x r))) := by
  have HS := Go.Lib.hid (fun w0 => implSideOf x r w0 hx)
  have HT := Go.Lib.hid (fun q f o w0 hs => implSideAt x x r q f o w0 hs hx hx rfl rfl)
  obtain ⟨q0, q1⟩ := spSq_bd (r := r) hx
  have HL := Go.Lib.hid (fun w0 => implLengthOf (spSq x r) w0 q0 q1)
  have HV : Hid (spLen x r = (rootI (spSq x r) + 1) / 2 - 12) := rfl
  clear hx q0 q1
  skip
  go_enter Try.func36, Try.ntmps36
  go_wp2_with fail
  refine calls_gen (R := fun w' => Box w' w.heap.size [.int .i64 x.h.n, .int .i64 x.h.l, .int .i64 x.h.r, .int .i64 x.h.a, .int .i64 x.h.b, .int .i64 x.r.n, .int .i64 x.r.d, .int .i64 x.r.o, .int .i64 x.c] ∧ Below w.heap.size w w') ⟨Box.new rfl rfl, by go_grown⟩ ?_
  rintro W1 ⟨K1_0, B1⟩
  refine (HS.out _).mono ?_
  rintro _ W2 ⟨q, f, o, rfl, S, -, b2⟩
  have K2_0 := K1_0.below b2
  have B2 := upB B1 b2
  clear b2 K1_0 B1
  have k2_0_0 := K2_0.at_ 0 _ rfl
  have k2_0_1 := K2_0.at_ 1 _ rfl
  have k2_0_2 := K2_0.at_ 2 _ rfl
  have k2_0_3 := K2_0.at_ 3 _ rfl
  have k2_0_4 := K2_0.at_ 4 _ rfl
  have k2_0_5 := K2_0.at_ 5 _ rfl
  have k2_0_6 := K2_0.at_ 6 _ rfl
  have k2_0_7 := K2_0.at_ 7 _ rfl
  have k2_0_8 := K2_0.at_ 8 _ rfl
  have k2_0_f := K2_0.fr
  have k2_0_l := K2_0.lt
  go_wp2_with fail
  refine (HT.out q f o _ S).mono ?_
  rintro _ W3 ⟨rfl, b3⟩
  have K3_0 := K2_0.below b3
  clear k2_0_0 k2_0_1 k2_0_2 k2_0_3 k2_0_4 k2_0_5 k2_0_6 k2_0_7 k2_0_8 k2_0_f k2_0_l
  have B3 := upB B2 b3
  clear b3 K2_0 B2
  clear S
  go_wp2_with fail
  refine (HL.out _).mono ?_
  rintro _ _ ⟨rfl, rfl⟩
  go_wp2_with fail
  go_ret
  exact ⟨by rw [HV.out]; rfl, B3⟩
end Go.Proofs.Ytifblmcocikopab
