/- The program's side of chapter 4: wheels. -/
import Derived.Test.YtabcbecmieolhaaHubImpl2
import Derived.Test.YtabcbecmieolhaaBox
import Derived.Deep.RegionHeld3
namespace Go.Proofs.Ytabcbecmieolhaa
open Go.RowKit

set_option maxRecDepth 100000 in
set_option maxHeartbeats 4000000 in
theorem implIsWheel (wh : Wh) (w : World) : Calls Try.prog 49 #[wheelV wh] w (IsB w (wheelB wh)) := by
  have HW := Go.Lib.hid (fun w0 => implWithHub wh w0)
  have HH := Go.Lib.hid (fun w0 => implWheelValid wh w0)
  generalize wheelB wh = q at HH ⊢
  go_enter Try.func49, Try.ntmps49
  go_wp2_with fail
  refine (HW.out _).mono ?_
  rintro _ w1 ⟨rfl, b1⟩
  have B1 := upB (a := w) (by go_grown) b1
  go_wp2_with fail
  refine (HH.out _).mono ?_
  rintro _ w2 ⟨rfl, b2⟩
  have B2 := upB B1 b2
  go_wp2_with fail
  go_ret
  exact ⟨rfl, B2⟩
structure MB (w : World) (q qw qr : Nat) (x : Wh) (W : World) : Prop where
  res : ∃ l : List Value, l.length = 9 ∧ Box W q l
  whl : Box W qw [.int .i64 x.h.n, .int .i64 x.h.l, .int .i64 x.h.r, .int .i64 x.h.a, .int .i64 x.h.b, .int .i64 x.r.n, .int .i64 x.r.d, .int .i64 x.r.o, .int .i64 x.c]
  rim : Box W qr [.int .i64 x.r.n, .int .i64 x.r.d, .int .i64 (-x.r.o)]
  below : Below w.heap.size w W
section
variable {w W W1 : World} {q qw qr : Nat} {x : Wh}
theorem MB.next (c : MB w q qw qr x W) (hb : Below W.heap.size W W1) : MB w q qw qr x W1 := ⟨c.res.imp fun _ h => ⟨h.1, h.2.below hb⟩, c.whl.below hb, c.rim.below hb, upB c.below hb⟩
theorem MB.drew (c : MB w q qw qr x W) : MB w q qw qr x W.drew := ⟨c.res.imp fun _ h => ⟨h.1, h.2.drew⟩, c.whl.drew, c.rim.drew, c.below.drew⟩
theorem MB.cells (c : MB w q qw qr x W) : W.cell? ⟨qw, 0, none⟩ = some (.int .i64 x.h.n) ∧ W.cell? ⟨qw, 1, none⟩ = some (.int .i64 x.h.l) ∧ W.cell? ⟨qw, 2, none⟩ = some (.int .i64 x.h.r) ∧ W.cell? ⟨qw, 3, none⟩ = some (.int .i64 x.h.a) ∧ W.cell? ⟨qw, 4, none⟩ = some (.int .i64 x.h.b) ∧ W.cell? ⟨qw, 5, none⟩ = some (.int .i64 x.r.n) ∧ W.cell? ⟨qw, 6, none⟩ = some (.int .i64 x.r.d) ∧ W.cell? ⟨qw, 7, none⟩ = some (.int .i64 x.r.o) ∧ W.cell? ⟨qw, 8, none⟩ = some (.int .i64 x.c) ∧ W.cell? ⟨qr, 0, none⟩ = some (.int .i64 x.r.n) ∧ W.cell? ⟨qr, 1, none⟩ = some (.int .i64 x.r.d) ∧ W.cell? ⟨qr, 2, none⟩ = some (.int .i64 (-x.r.o)) :=
  ⟨c.whl.at_ 0 _ rfl, c.whl.at_ 1 _ rfl, c.whl.at_ 2 _ rfl, c.whl.at_ 3 _ rfl, c.whl.at_ 4 _ rfl, c.whl.at_ 5 _ rfl, c.whl.at_ 6 _ rfl, c.whl.at_ 7 _ rfl, c.whl.at_ 8 _ rfl, c.rim.at_ 0 _ rfl, c.rim.at_ 1 _ rfl, c.rim.at_ 2 _ rfl⟩
theorem wpAnyH_gen {P : Program} {md : Region.Mode} {ops : Array Oper} {Q : Exit → Act → World → Prop} {S : World → Prop} {n : Nat} {l : Array Bool} {a : Act} {W : World} {R : World → Prop} (h : R W) (k : ∀ w', R w' → wpAnyH P md ops Q S n l a w') : wpAnyH P md ops Q S n l a W := k W h
end
set_option maxRecDepth 100000 in
set_option maxHeartbeats 4000000 in
theorem implMirrorWheel (wh : Wh) (w : World) : Calls Try.prog 23 #[wheelV wh] w (IsV w (wheelR (mirrWA wh))) := by
  have HW := Go.Lib.hid (fun w0 => implWithHub wh w0)
  have HH := Go.Lib.hid (fun w0 => implWheelValid wh w0)
  have HM := Go.Lib.hid (fun w0 => implMirror wh.h w0)
  have hv : mirrWA wh = if wheelB wh then (mirrW wh, 0) else (zeroW, 1) := rfl
  cases hb : wheelB wh
  · rw [hb] at HH hv
    have HV : Hid (mirrWA wh = (zeroW, 1)) := hv
    clear hv hb
    go_enter Try.func23, Try.ntmps23
    go_wp2_with fail
    refine calls_gen (R := fun w' => Box w' (w.heap.size + 1) [.int .i64 0, .int .i64 0, .int .i64 0, .int .i64 0, .int .i64 0, .int .i64 0, .int .i64 0, .int .i64 0, .int .i64 0] ∧ Below w.heap.size w w') ⟨Box.new (by simp) rfl, by go_grown⟩ ?_
    rintro W1 ⟨K1_0, B1⟩
    refine (HW.out _).mono ?_
    rintro _ W2 ⟨rfl, b2⟩
    have K2_0 := K1_0.below b2
    have B2 := upB B1 b2
    clear b2 K1_0 B1
    have n0 := K2_0.lt
    go_upto_region 2 with fail
    refine wp_gen (R := fun w' => Box w' (w.heap.size + 1) [.int .i64 0, .int .i64 0, .int .i64 0, .int .i64 0, .int .i64 0, .int .i64 0, .int .i64 0, .int .i64 0, .int .i64 0] ∧ Box w' W2.heap.size [.int .i64 wh.h.n, .int .i64 wh.h.l, .int .i64 wh.h.r, .int .i64 wh.h.a, .int .i64 wh.h.b, .int .i64 wh.r.n, .int .i64 wh.r.d, .int .i64 wh.r.o, .int .i64 wh.c] ∧ Below w.heap.size w w') ⟨K2_0.alloc _, Box.new rfl rfl, B2.alloc B2.size _⟩ ?_
    rintro W3 ⟨K3_0, K3_1, B3⟩
    clear K2_0 B2
    have k3_1_0 := K3_1.at_ 0 _ rfl
    have k3_1_1 := K3_1.at_ 1 _ rfl
    have k3_1_2 := K3_1.at_ 2 _ rfl
    have k3_1_3 := K3_1.at_ 3 _ rfl
    have k3_1_4 := K3_1.at_ 4 _ rfl
    have k3_1_5 := K3_1.at_ 5 _ rfl
    have k3_1_6 := K3_1.at_ 6 _ rfl
    have k3_1_7 := K3_1.at_ 7 _ rfl
    have k3_1_8 := K3_1.at_ 8 _ rfl
    have k3_1_f := K3_1.fr
    have k3_1_l := K3_1.lt
    go_wp2_with fail
    refine (HH.out _).mono ?_
    rintro _ W4 ⟨rfl, b4⟩
    have K4_0 := K3_0.below b4
    have K4_1 := K3_1.below b4
    clear k3_1_0 k3_1_1 k3_1_2 k3_1_3 k3_1_4 k3_1_5 k3_1_6 k3_1_7 k3_1_8 k3_1_f k3_1_l
    have B4 := upB B3 b4
    clear b4 K3_0 K3_1 B3
    have k4_0_0 := K4_0.at_ 0 _ rfl
    have k4_0_1 := K4_0.at_ 1 _ rfl
    have k4_0_2 := K4_0.at_ 2 _ rfl
    have k4_0_3 := K4_0.at_ 3 _ rfl
    have k4_0_4 := K4_0.at_ 4 _ rfl
    have k4_0_5 := K4_0.at_ 5 _ rfl
    have k4_0_6 := K4_0.at_ 6 _ rfl
    have k4_0_7 := K4_0.at_ 7 _ rfl
    have k4_0_8 := K4_0.at_ 8 _ rfl
    have k4_0_f := K4_0.fr
    have k4_0_l := K4_0.lt
    have k4_1_0 := K4_1.at_ 0 _ rfl
    have k4_1_1 := K4_1.at_ 1 _ rfl
    have k4_1_2 := K4_1.at_ 2 _ rfl
    have k4_1_3 := K4_1.at_ 3 _ rfl
    have k4_1_4 := K4_1.at_ 4 _ rfl
    have k4_1_5 := K4_1.at_ 5 _ rfl
    have k4_1_6 := K4_1.at_ 6 _ rfl
    have k4_1_7 := K4_1.at_ 7 _ rfl
    have k4_1_8 := K4_1.at_ 8 _ rfl
    have k4_1_f := K4_1.fr
    have k4_1_l := K4_1.lt
    go_wp2_with fail
    refine bodyPost_ret (v := .tuple #[wheelV zeroW, .int .i64 1]) (by simp [results, Try.results23, go_sem, zeroW, zeroH, zeroR, *]) rfl ⟨by rw [HV.out], by go_grown⟩
  · have hr := rimB_of (wheelB_of hb).2.1
    obtain ⟨-, -, o0, o1⟩ := hr
    rw [hb] at HH hv
    have HV : Hid (mirrWA wh = (mirrW wh, 0)) := hv
    clear hv hb
    go_enter Try.func23, Try.ntmps23
    go_wp2_with fail
    refine calls_gen (R := fun w' => Box w' (w.heap.size + 1) [.int .i64 0, .int .i64 0, .int .i64 0, .int .i64 0, .int .i64 0, .int .i64 0, .int .i64 0, .int .i64 0, .int .i64 0] ∧ Below w.heap.size w w') ⟨Box.new (by simp) rfl, by go_grown⟩ ?_
    rintro W1 ⟨K1_0, B1⟩
    refine (HW.out _).mono ?_
    rintro _ W2 ⟨rfl, b2⟩
    have K2_0 := K1_0.below b2
    have B2 := upB B1 b2
    clear b2 K1_0 B1
    have n0 := K2_0.lt
    go_upto_region 2 with fail
    refine wp_gen (R := fun w' => Box w' (w.heap.size + 1) [.int .i64 0, .int .i64 0, .int .i64 0, .int .i64 0, .int .i64 0, .int .i64 0, .int .i64 0, .int .i64 0, .int .i64 0] ∧ Box w' W2.heap.size [.int .i64 wh.h.n, .int .i64 wh.h.l, .int .i64 wh.h.r, .int .i64 wh.h.a, .int .i64 wh.h.b, .int .i64 wh.r.n, .int .i64 wh.r.d, .int .i64 wh.r.o, .int .i64 wh.c] ∧ Below w.heap.size w w') ⟨K2_0.alloc _, Box.new rfl rfl, B2.alloc B2.size _⟩ ?_
    rintro W3 ⟨K3_0, K3_1, B3⟩
    clear K2_0 B2
    have k3_1_0 := K3_1.at_ 0 _ rfl
    have k3_1_1 := K3_1.at_ 1 _ rfl
    have k3_1_2 := K3_1.at_ 2 _ rfl
    have k3_1_3 := K3_1.at_ 3 _ rfl
    have k3_1_4 := K3_1.at_ 4 _ rfl
    have k3_1_5 := K3_1.at_ 5 _ rfl
    have k3_1_6 := K3_1.at_ 6 _ rfl
    have k3_1_7 := K3_1.at_ 7 _ rfl
    have k3_1_8 := K3_1.at_ 8 _ rfl
    have k3_1_f := K3_1.fr
    have k3_1_l := K3_1.lt
    go_wp2_with fail
    refine (HH.out _).mono ?_
    rintro _ W4 ⟨rfl, b4⟩
    have K4_0 := K3_0.below b4
    have K4_1 := K3_1.below b4
    clear k3_1_0 k3_1_1 k3_1_2 k3_1_3 k3_1_4 k3_1_5 k3_1_6 k3_1_7 k3_1_8 k3_1_f k3_1_l
    have B4 := upB B3 b4
    clear b4 K3_0 K3_1 B3
    have k4_0_0 := K4_0.at_ 0 _ rfl
    have k4_0_1 := K4_0.at_ 1 _ rfl
    have k4_0_2 := K4_0.at_ 2 _ rfl
    have k4_0_3 := K4_0.at_ 3 _ rfl
    have k4_0_4 := K4_0.at_ 4 _ rfl
    have k4_0_5 := K4_0.at_ 5 _ rfl
    have k4_0_6 := K4_0.at_ 6 _ rfl
    have k4_0_7 := K4_0.at_ 7 _ rfl
    have k4_0_8 := K4_0.at_ 8 _ rfl
    have k4_0_f := K4_0.fr
    have k4_0_l := K4_0.lt
    have k4_1_0 := K4_1.at_ 0 _ rfl
    have k4_1_1 := K4_1.at_ 1 _ rfl
    have k4_1_2 := K4_1.at_ 2 _ rfl
    have k4_1_3 := K4_1.at_ 3 _ rfl
    have k4_1_4 := K4_1.at_ 4 _ rfl
    have k4_1_5 := K4_1.at_ 5 _ rfl
    have k4_1_6 := K4_1.at_ 6 _ rfl
    have k4_1_7 := K4_1.at_ 7 _ rfl
    have k4_1_8 := K4_1.at_ 8 _ rfl
    have k4_1_f := K4_1.fr
    have k4_1_l := K4_1.lt
    have n1 := K4_0.lt
    have n2 := K4_1.lt
    go_upto_region 5 with fail
    refine wp_gen (R := fun w' => Box w' (w.heap.size + 1) [.int .i64 0, .int .i64 0, .int .i64 0, .int .i64 0, .int .i64 0, .int .i64 0, .int .i64 0, .int .i64 0, .int .i64 0] ∧ Box w' W2.heap.size [.int .i64 wh.h.n, .int .i64 wh.h.l, .int .i64 wh.h.r, .int .i64 wh.h.a, .int .i64 wh.h.b, .int .i64 wh.r.n, .int .i64 wh.r.d, .int .i64 wh.r.o, .int .i64 wh.c] ∧ Box w' W4.heap.size [.int .i64 wh.r.n, .int .i64 wh.r.d, .int .i64 wh.r.o] ∧ Below w.heap.size w w') ⟨K4_0.alloc _, K4_1.alloc _, Box.new rfl rfl, B4.alloc B4.size _⟩ ?_
    clear k4_0_0 k4_0_1 k4_0_2 k4_0_3 k4_0_4 k4_0_5 k4_0_6 k4_0_7 k4_0_8 k4_0_f k4_0_l k4_1_0 k4_1_1 k4_1_2 k4_1_3 k4_1_4 k4_1_5 k4_1_6 k4_1_7 k4_1_8 k4_1_f k4_1_l
    rintro W5 ⟨K5_0, K5_1, K5_2, B5⟩
    clear K4_0 K4_1 B4
    have k5_2_0 := K5_2.at_ 0 _ rfl
    have k5_2_1 := K5_2.at_ 1 _ rfl
    have k5_2_2 := K5_2.at_ 2 _ rfl
    have k5_2_f := K5_2.fr
    have k5_2_l := K5_2.lt
    go_upto_region 6 with fail
    refine wp_gen (R := fun w' => Box w' (w.heap.size + 1) [.int .i64 0, .int .i64 0, .int .i64 0, .int .i64 0, .int .i64 0, .int .i64 0, .int .i64 0, .int .i64 0, .int .i64 0] ∧ Box w' W2.heap.size [.int .i64 wh.h.n, .int .i64 wh.h.l, .int .i64 wh.h.r, .int .i64 wh.h.a, .int .i64 wh.h.b, .int .i64 wh.r.n, .int .i64 wh.r.d, .int .i64 wh.r.o, .int .i64 wh.c] ∧ Box w' W4.heap.size [.int .i64 wh.r.n, .int .i64 wh.r.d, .int .i64 (-wh.r.o)] ∧ Below w.heap.size w w') ⟨(K5_0.other (by simp <;> omega) _), (K5_1.other (by simp <;> omega) _), (K5_2.set _ (by simp)), by go_grown⟩ ?_
    clear k5_2_0 k5_2_1 k5_2_2 k5_2_f k5_2_l
    rintro W6 ⟨K6_0, K6_1, K6_2, B6⟩
    clear K5_0 K5_1 K5_2 B5
    obtain ⟨Q0, eq0⟩ : ∃ q, q = (w.heap.size + 1) := ⟨_, rfl⟩
    rw [← eq0] at K6_0 ⊢
    obtain ⟨Qw, eq1⟩ : ∃ q, q = W2.heap.size := ⟨_, rfl⟩
    rw [← eq1] at K6_1 ⊢
    obtain ⟨Qr, eq2⟩ : ∃ q, q = W4.heap.size := ⟨_, rfl⟩
    rw [← eq2] at K6_2 ⊢
    have d1 : Q0 ≠ Qw := by omega
    have d2 : Q0 ≠ Qr := by omega
    have d3 : w.heap.size ≤ Q0 := by omega
    clear n0 n1 n2 eq0 eq1 eq2
    have hR := K6_0.drew
    have C : MB w Q0 Qw Qr wh W6 := ⟨⟨_, rfl, K6_0⟩, K6_1, K6_2, B6⟩
    clear K6_0 K6_1 K6_2 B6
    refine wp_region_held_drew (S := fun w' => MB w Q0 Qw Qr wh w') (by kernel_rfl) C.drew (fun hH => ?_)
    clear C
    refine wpAnyH_take (i := 0) (oi := Oper.mk (some _) _ _ _ _ _) (v := ?_) rfl (by kernel_rfl) (by kernel_rfl) (by kernel_rfl) (fun _ _ _ h => h) (Or.inl ⟨by rfl, ?_⟩) hH ?_
    rotate_left
    · intro w2 hw
      have e := hw.cells
      clear hw
      go_simp
      try with_reducible rfl
    try simp only [Act.put, List.setIfInBounds_toArray, List.set_cons_zero, List.set_cons_succ]
    refine wpAnyH_take (i := 1) (oi := Oper.mk (some _) _ _ _ _ _) (v := ?_) rfl (by kernel_rfl) (by kernel_rfl) (by kernel_rfl) (fun _ _ _ h => h) (Or.inl ⟨by rfl, ?_⟩) hH ?_
    rotate_left
    · intro w2 hw
      have e := hw.cells
      clear hw
      go_simp
      try with_reducible rfl
    try simp only [Act.put, List.setIfInBounds_toArray, List.set_cons_zero, List.set_cons_succ]
    refine wpAnyH_take (i := 3) (oi := Oper.mk (some _) _ _ _ _ _) (v := ?_) rfl (by kernel_rfl) (by kernel_rfl) (by kernel_rfl) (fun _ _ _ h => h) (Or.inl ⟨by rfl, ?_⟩) hH ?_
    rotate_left
    · intro w2 hw
      have e := hw.cells
      clear hw
      go_simp
      try with_reducible rfl
    try simp only [Act.put, List.setIfInBounds_toArray, List.set_cons_zero, List.set_cons_succ]
    refine wpAnyH_take (i := 4) (oi := Oper.mk (some _) _ _ _ _ _) (v := ?_) rfl (by kernel_rfl) (by kernel_rfl) (by kernel_rfl) (fun _ _ _ h => h) (Or.inl ⟨by rfl, ?_⟩) hH ?_
    rotate_left
    · intro w2 hw
      have e := hw.cells
      clear hw
      go_simp
      try with_reducible rfl
    try simp only [Act.put, List.setIfInBounds_toArray, List.set_cons_zero, List.set_cons_succ]
    refine wpAnyH_take (i := 5) (oi := Oper.mk (some _) _ _ _ _ _) (v := ?_) rfl (by kernel_rfl) (by kernel_rfl) (by kernel_rfl) (fun _ _ _ h => h) (Or.inl ⟨by rfl, ?_⟩) hH ?_
    rotate_left
    · intro w2 hw
      have e := hw.cells
      clear hw
      go_simp
      try with_reducible rfl
    try simp only [Act.put, List.setIfInBounds_toArray, List.set_cons_zero, List.set_cons_succ]
    refine wpAnyH_ready (rs := [2]) (by kernel_rfl) (by simp) ?_
    refine AllReadyH.cons (o := Oper.mk (some _) _ _ _ _ _) rfl (fun K hK => ?_) AllReadyH.nil
    go_simp
    refine (HM.out _).mono ?_
    rintro _ V2 ⟨rfl, b1⟩
    try go_wp2_with fail
    have hR2 := hR.below b1
    refine hK.out _ _ (hH.next b1) (fun hH2 => ?_)
    clear hK hH b1 hR
    have hH := hH2
    clear hH2
    try simp only [Act.put, List.setIfInBounds_toArray, List.set_cons_zero, List.set_cons_succ]
    refine wpAnyH_take (i := 6) (oi := Oper.mk (some _) _ _ _ _ _) (v := ?_) rfl (by kernel_rfl) (by kernel_rfl) (by kernel_rfl) (fun _ _ _ h => h) (Or.inl ⟨by rfl, ?_⟩) hH ?_
    rotate_left
    · intro w2 hw
      have e := hw.cells
      clear hw
      go_simp
      try with_reducible rfl
    try simp only [Act.put, List.setIfInBounds_toArray, List.set_cons_zero, List.set_cons_succ]
    refine wpAnyH_ready (rs := [7]) (by kernel_rfl) (by simp) ?_
    refine AllReadyH.cons (o := Oper.mk none _ _ _ _ _) rfl (fun K hK => ?_) AllReadyH.nil
    have z0 := hR2.fr
    have z1 := hR2.lt
    have y0 := hR2.at_ 0 _ rfl
    have y1 := hR2.at_ 1 _ rfl
    have y2 := hR2.at_ 2 _ rfl
    have y3 := hR2.at_ 3 _ rfl
    have y4 := hR2.at_ 4 _ rfl
    have y5 := hR2.at_ 5 _ rfl
    have y6 := hR2.at_ 6 _ rfl
    have y7 := hR2.at_ 7 _ rfl
    have y8 := hR2.at_ 8 _ rfl
    go_simp
    have hF := (((((((((hR2.set (k := 0) (.int .i64 (wh.h.n)) (by simp)).set (k := 1) (.int .i64 (wh.h.r)) (by simp)).set (k := 2) (.int .i64 (wh.h.l)) (by simp)).set (k := 3) (.int .i64 (wh.h.b)) (by simp)).set (k := 4) (.int .i64 (wh.h.a)) (by simp)).set (k := 5) (.int .i64 (wh.r.n)) (by simp)).set (k := 6) (.int .i64 (wh.r.d)) (by simp)).set (k := 7) (.int .i64 ((-wh.r.o))) (by simp)).set (k := 8) (.int .i64 (wh.c)) (by simp))
    have hb := hH.below
    refine hK.out _ _ ⟨⟨_, rfl, hF⟩, (((((((((hH.whl.other d1 _).other d1 _).other d1 _).other d1 _).other d1 _).other d1 _).other d1 _).other d1 _).other d1 _), (((((((((hH.rim.other d2 _).other d2 _).other d2 _).other d2 _).other d2 _).other d2 _).other d2 _).other d2 _).other d2 _), by go_grown⟩ (fun hH2 => ?_)
    clear hK hH hb z0 z1 y0 y1 y2 y3 y4 y5 y6 y7 y8
    try simp only [Act.put, List.setIfInBounds_toArray, List.set_cons_zero, List.set_cons_succ]
    refine wpAnyH_gen (R := fun w' => Box w' Q0 [.int .i64 wh.h.n, .int .i64 wh.h.r, .int .i64 wh.h.l, .int .i64 wh.h.b, .int .i64 wh.h.a, .int .i64 wh.r.n, .int .i64 wh.r.d, .int .i64 (-wh.r.o), .int .i64 wh.c] ∧ MB w Q0 Qw Qr wh w') ⟨hF, hH2⟩ ?_
    clear hF hH2
    rintro V3 ⟨hF, hH⟩
    refine wpAnyH_take (i := 8) (oi := Oper.mk (some _) _ _ _ _ _) (v := ?_) rfl (by kernel_rfl) (by kernel_rfl) (by kernel_rfl) (fun _ _ _ h => h) (Or.inl ⟨by rfl, ?_⟩) hH ?_
    rotate_left
    · intro w2 hw
      have e := hw.cells
      clear hw
      go_simp
      try with_reducible rfl
    try simp only [Act.put, List.setIfInBounds_toArray, List.set_cons_zero, List.set_cons_succ]
    refine wpAnyH_done (by kernel_rfl) ?_ _
    have z0 := hF.fr
    have z1 := hF.lt
    have y0 := hF.at_ 0 _ rfl
    have y1 := hF.at_ 1 _ rfl
    have y2 := hF.at_ 2 _ rfl
    have y3 := hF.at_ 3 _ rfl
    have y4 := hF.at_ 4 _ rfl
    have y5 := hF.at_ 5 _ rfl
    have y6 := hF.at_ 6 _ rfl
    have y7 := hF.at_ 7 _ rfl
    have y8 := hF.at_ 8 _ rfl
    go_wp2_with fail
    refine bodyPost_ret (v := .tuple #[wheelV (mirrW wh), .int .i64 0]) (by simp [results, Try.results23, go_sem, mirrW, mirrH, mirrR, *]) rfl ⟨by rw [HV.out], hH.below⟩
end Go.Proofs.Ytabcbecmieolhaa
