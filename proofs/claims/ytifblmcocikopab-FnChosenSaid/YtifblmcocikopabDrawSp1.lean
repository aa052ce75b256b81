/- Draws of chapter 5: a wheel, a side, a number. -/
import Derived.Test.YtifblmcocikopabDrawHub4
import Derived.Test.YtifblmcocikopabSpoke4
namespace Go.Proofs.Ytifblmcocikopab
open Go.RowKit
section
end

theorem Src.above {w w' : World} {g : Nat} {A : Option Addr} {n cap : Nat} {bs : List Int} (h : Src w g A n cap bs) (hb : Below (g + 1) w w') : Src w' g A n cap bs := by
  have hc : ∀ j, w'.cell? ⟨g, j, none⟩ = w.cell? ⟨g, j, none⟩ := fun j => hb.cell (p := ⟨g, j, none⟩) (Nat.lt_succ_self g)
  refine ⟨Nat.lt_of_lt_of_le h.lt hb.size, (hc 0).trans h.code, ?_, ?_, fun j => ?_, h.rd.below hb (Nat.le_succ g), h.small, h.many⟩
  · obtain ⟨k, hk, hp⟩ := h.place
    exact ⟨k, hk, (hc 1).trans hp⟩
  · obtain ⟨z, z0, z1, hp⟩ := h.seed
    exact ⟨z, z0, z1, (hc 2).trans hp⟩
  · exact (hb.frozen (p := ⟨g, j, none⟩) (Nat.lt_succ_self g)).trans (h.free j)
/-- A drawn wheel in its variable, the result's block, and what was there before. -/
structure QW (w : World) (q : Nat) (x : Wh) (W : World) : Prop where
  box : Box W q [.int .i64 x.h.n, .int .i64 x.h.l, .int .i64 x.h.r, .int .i64 x.h.a, .int .i64 x.h.b, .int .i64 x.r.n, .int .i64 x.r.d, .int .i64 x.r.o, .int .i64 x.c]
  res : ∃ l : List Value, l.length = 9 ∧ Box W w.heap.size l
  below : Below w.heap.size w W
  rq : w.heap.size < q
section
variable {w W W1 : World} {q g : Nat} {x : Wh}
theorem QW.next (c : QW w q x W) (hb : Below W.heap.size W W1) : QW w q x W1 := ⟨c.box.below hb, c.res.imp fun _ h => ⟨h.1, h.2.below hb⟩, upB c.below hb, c.rq⟩
theorem QW.drew (c : QW w q x W) : QW w q x W.drew := ⟨c.box.drew, c.res.imp fun _ h => ⟨h.1, h.2.drew⟩, c.below.drew, c.rq⟩
theorem QW.alloc (c : QW w q x W) (o : Obj) : QW w q x (W.alloc o) := c.next ((Below.refl _ _).alloc (Nat.le_refl _) o)
theorem QW.keep (c : QW w q x W) (k : Keep g (g + 1) W W1) (hg : w.heap.size < g) (hq : g < q) : QW w q x W1 :=
  ⟨c.box.keep k (.inr hq), c.res.imp fun _ h => ⟨h.1, h.2.keep k (.inl hg)⟩, c.below.trans (k.below (Nat.le_of_lt hg) c.below.size), c.rq⟩
theorem QW.cells (c : QW w q x W) : W.cell? ⟨q, 0, none⟩ = some (.int .i64 x.h.n) ∧ W.cell? ⟨q, 1, none⟩ = some (.int .i64 x.h.l) ∧ W.cell? ⟨q, 2, none⟩ = some (.int .i64 x.h.r) ∧ W.cell? ⟨q, 3, none⟩ = some (.int .i64 x.h.a) ∧ W.cell? ⟨q, 4, none⟩ = some (.int .i64 x.h.b) ∧ W.cell? ⟨q, 5, none⟩ = some (.int .i64 x.r.n) ∧ W.cell? ⟨q, 6, none⟩ = some (.int .i64 x.r.d) ∧ W.cell? ⟨q, 7, none⟩ = some (.int .i64 x.r.o) ∧ W.cell? ⟨q, 8, none⟩ = some (.int .i64 x.c) :=
  ⟨c.box.at_ 0 _ rfl, c.box.at_ 1 _ rfl, c.box.at_ 2 _ rfl, c.box.at_ 3 _ rfl, c.box.at_ 4 _ rfl, c.box.at_ 5 _ rfl, c.box.at_ 6 _ rfl, c.box.at_ 7 _ rfl, c.box.at_ 8 _ rfl⟩
/-- The wheel is laid into the result's block. -/
theorem QW.put (c : QW w q x W) : QW w q x (((((((((W.setCell ⟨w.heap.size, 0, none⟩ (.int .i64 x.h.n)).setCell ⟨w.heap.size, 1, none⟩ (.int .i64 x.h.l)).setCell ⟨w.heap.size, 2, none⟩ (.int .i64 x.h.r)).setCell ⟨w.heap.size, 3, none⟩ (.int .i64 x.h.a)).setCell ⟨w.heap.size, 4, none⟩ (.int .i64 x.h.b)).setCell ⟨w.heap.size, 5, none⟩ (.int .i64 x.r.n)).setCell ⟨w.heap.size, 6, none⟩ (.int .i64 x.r.d)).setCell ⟨w.heap.size, 7, none⟩ (.int .i64 x.r.o)).setCell ⟨w.heap.size, 8, none⟩ (.int .i64 x.c)) ∧ Box (((((((((W.setCell ⟨w.heap.size, 0, none⟩ (.int .i64 x.h.n)).setCell ⟨w.heap.size, 1, none⟩ (.int .i64 x.h.l)).setCell ⟨w.heap.size, 2, none⟩ (.int .i64 x.h.r)).setCell ⟨w.heap.size, 3, none⟩ (.int .i64 x.h.a)).setCell ⟨w.heap.size, 4, none⟩ (.int .i64 x.h.b)).setCell ⟨w.heap.size, 5, none⟩ (.int .i64 x.r.n)).setCell ⟨w.heap.size, 6, none⟩ (.int .i64 x.r.d)).setCell ⟨w.heap.size, 7, none⟩ (.int .i64 x.r.o)).setCell ⟨w.heap.size, 8, none⟩ (.int .i64 x.c)) w.heap.size [.int .i64 x.h.n, .int .i64 x.h.l, .int .i64 x.h.r, .int .i64 x.h.a, .int .i64 x.h.b, .int .i64 x.r.n, .int .i64 x.r.d, .int .i64 x.r.o, .int .i64 x.c] := by
  obtain ⟨l, hl, hr⟩ := c.res
  have hne : w.heap.size ≠ q := Nat.ne_of_lt c.rq
  have e : (((((((((l.set 0 (.int .i64 x.h.n)).set 1 (.int .i64 x.h.l)).set 2 (.int .i64 x.h.r)).set 3 (.int .i64 x.h.a)).set 4 (.int .i64 x.h.b)).set 5 (.int .i64 x.r.n)).set 6 (.int .i64 x.r.d)).set 7 (.int .i64 x.r.o)).set 8 (.int .i64 x.c)) = [.int .i64 x.h.n, .int .i64 x.h.l, .int .i64 x.h.r, .int .i64 x.h.a, .int .i64 x.h.b, .int .i64 x.r.n, .int .i64 x.r.d, .int .i64 x.r.o, .int .i64 x.c] := by
    match l, hl with
    | [_, _, _, _, _, _, _, _, _], _ => rfl
  have hB : Box (((((((((W.setCell ⟨w.heap.size, 0, none⟩ (.int .i64 x.h.n)).setCell ⟨w.heap.size, 1, none⟩ (.int .i64 x.h.l)).setCell ⟨w.heap.size, 2, none⟩ (.int .i64 x.h.r)).setCell ⟨w.heap.size, 3, none⟩ (.int .i64 x.h.a)).setCell ⟨w.heap.size, 4, none⟩ (.int .i64 x.h.b)).setCell ⟨w.heap.size, 5, none⟩ (.int .i64 x.r.n)).setCell ⟨w.heap.size, 6, none⟩ (.int .i64 x.r.d)).setCell ⟨w.heap.size, 7, none⟩ (.int .i64 x.r.o)).setCell ⟨w.heap.size, 8, none⟩ (.int .i64 x.c)) w.heap.size [.int .i64 x.h.n, .int .i64 x.h.l, .int .i64 x.h.r, .int .i64 x.h.a, .int .i64 x.h.b, .int .i64 x.r.n, .int .i64 x.r.d, .int .i64 x.r.o, .int .i64 x.c] := e ▸ (((((((((hr.set (k := 0) _ (by simp [hl])).set (k := 1) _ (by simp [hl])).set (k := 2) _ (by simp [hl])).set (k := 3) _ (by simp [hl])).set (k := 4) _ (by simp [hl])).set (k := 5) _ (by simp [hl])).set (k := 6) _ (by simp [hl])).set (k := 7) _ (by simp [hl])).set (k := 8) _ (by simp [hl]))
  have hb := c.below
  exact ⟨⟨(((((((((c.box.other hne _).other hne _).other hne _).other hne _).other hne _).other hne _).other hne _).other hne _).other hne _), ⟨_, rfl, hB⟩, by go_grown, c.rq⟩, hB⟩
theorem wpAnyH_genD {P : Program} {md : Region.Mode} {ops : Array Oper} {Q : Exit → Act → World → Prop} {S : World → Prop} {n : Nat} {l : Array Bool} {a : Act} {W : World} {R : World → Prop} (h : R W) (k : ∀ w', R w' → wpAnyH P md ops Q S n l a w') : wpAnyH P md ops Q S n l a W := k W h
end
def GotWB (w : World) (e : Ending) (w' : World) : Prop := ∃ (x : Wh) (b : Bool), e = .returned (.tuple #[wheelV x, .bool b]) ∧ Below w.heap.size w w'
def GotWBN (w : World) (e : Ending) (w' : World) : Prop := ∃ (x : Wh) (b : Bool) (z : Int), e = .returned (.tuple #[wheelV x, .bool b, .int .i64 z]) ∧ Below w.heap.size w w'
def GotWh (w : World) (e : Ending) (w' : World) : Prop := ∃ x : Wh, e = .returned (wheelV x) ∧ Below w.heap.size w w'
set_option maxRecDepth 100000 in
set_option maxHeartbeats 4000000 in
theorem drawSquareOfSpoke (A : Option Addr) (n cap : Nat) (bs : List Int) (w : World) (h : Rd w 0 w.heap.size A n (byts bs)) (hs : ∀ z ∈ bs, 0 ≤ z ∧ z ≤ 255) (hn : n ≤ 140737488355328) : Calls Try.prog 37 #[.slice A n cap] w (GotWB w) := by
  go_enter Try.func37, Try.ntmps37
  go_wp2_with fail
  refine calls_gen (R := fun w' => Box w' w.heap.size [.int .i64 0, .int .i64 0, .int .i64 0, .int .i64 0, .int .i64 0, .int .i64 0, .int .i64 0, .int .i64 0, .int .i64 0] ∧ Below w.heap.size w w') ⟨Box.new rfl rfl, by go_grown⟩ ?_
  rintro W0 ⟨X0, B0⟩
  refine (from_ A n cap bs W0 ((h.below B0 (Nat.le_refl _)).mono (Nat.le_refl _) B0.size) hs hn).mono ?_
  rintro _ W1 ⟨g, rfl, hg, S1, b1⟩
  have X1 := X0.below b1
  have B1 := upB B0 b1
  have hwg : w.heap.size < g := Nat.lt_of_lt_of_le X0.lt hg
  clear b1 X0 hs B0
  go_wp2_with fail
  refine (drawWheel g A n cap bs W1 S1).mono ?_
  rintro _ W2 ⟨x, rfl, S2, k2⟩
  have X2 := X1.keep k2 (.inl hwg)
  have B2 := B1.trans (k2.below (Nat.le_of_lt hwg) B1.size)
  have hgl := S2.lt
  clear k2 S1 X1 B1
  go_upto_region 3 with fail
  refine wp_gen (R := fun w' => QW w W2.heap.size x w' ∧ Src w' g A n cap bs) ⟨⟨Box.new rfl rfl, ⟨_, rfl, X2.alloc _⟩, B2.alloc B2.size _, Nat.lt_trans hwg hgl⟩, S2.below ((Below.refl _ _).alloc (Nat.le_refl _) _)⟩ ?_
  clear X2 B2 S2
  have hgq : g < W2.heap.size := hgl
  clear hgl
  generalize W2.heap.size = q at hgq ⊢
  rintro W3 ⟨c0, hS⟩
  have C := Go.Lib.hid c0
  clear c0
  refine wp_region_held_drew (S := fun w' => QW w q x w') (by kernel_rfl) C.out.drew (fun hH => ?_)
  have hS := hS.drewN 1
  clear C
  refine wpAnyH_take (i := 0) (oi := Oper.mk (some _) _ _ _ _ _) (v := ?_) rfl (by kernel_rfl) (by kernel_rfl) (by kernel_rfl) (fun _ _ _ h => h) (Or.inl ⟨by rfl, ?_⟩) hH ?_
  rotate_left
  · intro w2 hw
    have e := hw.cells
    clear hw
    go_simp
    try with_reducible rfl
  try simp only [Act.put, List.setIfInBounds_toArray, List.set_cons_zero, List.set_cons_succ]
  refine wpAnyH_take (i := 1) (oi := Oper.mk (some _) _ _ _ _ _) (v := ?_) rfl (by kernel_rfl) (by kernel_rfl) (by kernel_rfl) (fun _ _ _ h => h) (Or.inl ⟨by rfl, ?_⟩) hH ?_
  rotate_left
  · intro w2 hw
    have e := hw.cells
    clear hw
    go_simp
    try with_reducible rfl
  try simp only [Act.put, List.setIfInBounds_toArray, List.set_cons_zero, List.set_cons_succ]
  refine wpAnyH_ready (rs := [2]) (by kernel_rfl) (by simp) ?_
  refine AllReadyH.cons (o := Oper.mk (some _) _ _ _ _ _) rfl (fun K hK => ?_) AllReadyH.nil
  go_simp
  refine (next g A n cap bs 2 _ hS).mono ?_
  rintro _ V2 ⟨r, rfl, r0, r1, hS2, hk⟩
  try go_wp2_with fail
  have hH2 := hH.keep hk hwg hgq
  refine hK.out _ _ hH2 (fun _ => ?_)
  clear hK hH hS hk
  have hH := hH2
  have hS := hS2
  clear hH2 hS2
  try simp only [Act.put, List.setIfInBounds_toArray, List.set_cons_zero, List.set_cons_succ]
  refine wpAnyH_take (i := 3) (oi := Oper.mk (some _) _ _ _ _ _) (v := ?_) rfl (by kernel_rfl) (by kernel_rfl) (by kernel_rfl) (fun _ _ _ h => h) (Or.inl ⟨by rfl, ?_⟩) hH ?_
  rotate_left
  · intro w2 hw
    have e := hw.cells
    clear hw
    go_simp
    try with_reducible rfl
  try simp only [Act.put, List.setIfInBounds_toArray, List.set_cons_zero, List.set_cons_succ]
  refine wpAnyH_ready (rs := [4]) (by kernel_rfl) (by simp) ?_
  refine AllReadyH.cons (o := Oper.mk none _ _ _ _ _) rfl (fun K hK => ?_) AllReadyH.nil
  obtain ⟨l, hl, hr⟩ := hH.res
  match l, hl with
  | [l0, l1, l2, l3, l4, l5, l6, l7, l8], _ =>
    have z0 := hr.fr
    have z1 := hr.lt
    have y0 := hr.at_ 0 _ rfl
    have y1 := hr.at_ 1 _ rfl
    have y2 := hr.at_ 2 _ rfl
    have y3 := hr.at_ 3 _ rfl
    have y4 := hr.at_ 4 _ rfl
    have y5 := hr.at_ 5 _ rfl
    have y6 := hr.at_ 6 _ rfl
    have y7 := hr.at_ 7 _ rfl
    have y8 := hr.at_ 8 _ rfl
    go_simp
    have hP := hH.put
    refine hK.out _ _ hP.1 (fun _ => ?_)
    clear hK z0 z1 y0 y1 y2 y3 y4 y5 y6 y7 y8
    try simp only [Act.put, List.setIfInBounds_toArray, List.set_cons_zero, List.set_cons_succ]
    refine wpAnyH_genD (R := fun w' => QW w q x w' ∧ Box w' w.heap.size [.int .i64 x.h.n, .int .i64 x.h.l, .int .i64 x.h.r, .int .i64 x.h.a, .int .i64 x.h.b, .int .i64 x.r.n, .int .i64 x.r.d, .int .i64 x.r.o, .int .i64 x.c]) ⟨hP.1, hP.2⟩ ?_
    clear hP hH hr
    rintro VF ⟨hH, hF⟩
    refine wpAnyH_take (i := 5) (oi := Oper.mk (some _) _ _ _ _ _) (v := ?_) rfl (by kernel_rfl) (by kernel_rfl) (by kernel_rfl) (fun _ _ _ h => h) (Or.inl ⟨by rfl, ?_⟩) hH ?_
    rotate_left
    · intro w2 hw
      have e := hw.cells
      clear hw
      go_simp
      try with_reducible rfl
    try simp only [Act.put, List.setIfInBounds_toArray, List.set_cons_zero, List.set_cons_succ]
    refine wpAnyH_done (by kernel_rfl) ?_ _
    have z0 := hF.fr
    have z1 := hF.lt
    have y0 := hF.at_ 0 _ rfl
    have y1 := hF.at_ 1 _ rfl
    have y2 := hF.at_ 2 _ rfl
    have y3 := hF.at_ 3 _ rfl
    have y4 := hF.at_ 4 _ rfl
    have y5 := hF.at_ 5 _ rfl
    have y6 := hF.at_ 6 _ rfl
    have y7 := hF.at_ 7 _ rfl
    have y8 := hF.at_ 8 _ rfl
    go_wp2_with fail
    refine bodyPost_ret (v := .tuple #[wheelV x, .bool (r == 0)]) (by simp [results, Try.results37, go_sem, *]) rfl ⟨x, (r == 0), rfl, hH.below⟩
set_option maxRecDepth 100000 in
set_option maxHeartbeats 4000000 in
theorem drawSpokeCounts (A : Option Addr) (n cap : Nat) (bs : List Int) (w : World) (h : Rd w 0 w.heap.size A n (byts bs)) (hs : ∀ z ∈ bs, 0 ≤ z ∧ z ≤ 255) (hn : n ≤ 140737488355328) : Calls Try.prog 32 #[.slice A n cap] w (GotWh w) := by
  go_enter Try.func32, Try.ntmps32
  go_wp2_with fail
  refine calls_gen (R := fun w' => Box w' w.heap.size [.int .i64 0, .int .i64 0, .int .i64 0, .int .i64 0, .int .i64 0, .int .i64 0, .int .i64 0, .int .i64 0, .int .i64 0] ∧ Below w.heap.size w w') ⟨Box.new rfl rfl, by go_grown⟩ ?_
  rintro W0 ⟨X0, B0⟩
  refine (from_ A n cap bs W0 ((h.below B0 (Nat.le_refl _)).mono (Nat.le_refl _) B0.size) hs hn).mono ?_
  rintro _ W1 ⟨g, rfl, hg, S1, b1⟩
  have X1 := X0.below b1
  have B1 := upB B0 b1
  have hwg : w.heap.size < g := Nat.lt_of_lt_of_le X0.lt hg
  clear b1 X0 hs B0
  go_wp2_with fail
  refine (drawWheel g A n cap bs W1 S1).mono ?_
  rintro _ W2 ⟨x, rfl, S2, k2⟩
  have X2 := X1.keep k2 (.inl hwg)
  have B2 := B1.trans (k2.below (Nat.le_of_lt hwg) B1.size)
  have hgl := S2.lt
  clear k2 S1 X1 B1
  go_upto_region 3 with fail
  refine wp_gen (R := fun w' => QW w W2.heap.size x w' ∧ Src w' g A n cap bs) ⟨⟨Box.new rfl rfl, ⟨_, rfl, X2.alloc _⟩, B2.alloc B2.size _, Nat.lt_trans hwg hgl⟩, S2.below ((Below.refl _ _).alloc (Nat.le_refl _) _)⟩ ?_
  clear X2 B2 S2
  have hgq : g < W2.heap.size := hgl
  clear hgl
  generalize W2.heap.size = q at hgq ⊢
  rintro W3 ⟨c0, hS⟩
  have C := Go.Lib.hid c0
  clear c0
  go_wp2_with fail
  refine (next g A n cap bs 4 _ hS).mono ?_
  rintro _ Vr ⟨r, rfl, r0, r1, hS2, hk⟩
  have C2 := Go.Lib.hid (C.out.keep hk hwg hgq)
  clear C hS hk
  have C := C2
  have hS := hS2
  clear C2 hS2
  clear hS
  by_cases hr : r = 0
  · subst hr
    have qb := C.out.box
    have p0 := qb.at_ 0 _ rfl
    have p1 := qb.at_ 1 _ rfl
    have p2 := qb.at_ 2 _ rfl
    have p3 := qb.at_ 3 _ rfl
    have p4 := qb.at_ 4 _ rfl
    have p5 := qb.at_ 5 _ rfl
    have p6 := qb.at_ 6 _ rfl
    have p7 := qb.at_ 7 _ rfl
    have p8 := qb.at_ 8 _ rfl
    have pf := qb.fr
    have pl := qb.lt
    have prq := C.out.rq
    have pB := C.out.below
    obtain ⟨l, hl, hr⟩ := C.out.res
    match l, hl with
    | [l0, l1, l2, l3, l4, l5, l6, l7, l8], _ =>
      have z0 := hr.fr
      have z1 := hr.lt
      have y0 := hr.at_ 0 _ rfl
      have y1 := hr.at_ 1 _ rfl
      have y2 := hr.at_ 2 _ rfl
      have y3 := hr.at_ 3 _ rfl
      have y4 := hr.at_ 4 _ rfl
      have y5 := hr.at_ 5 _ rfl
      have y6 := hr.at_ 6 _ rfl
      have y7 := hr.at_ 7 _ rfl
      have y8 := hr.at_ 8 _ rfl
      go_wp2_with fail
      refine bodyPost_ret (v := wheelV ⟨⟨x.h.n, x.h.l, x.h.l, x.h.a, x.h.a⟩, ⟨x.r.n, x.r.d, 0⟩, x.c⟩) (by simp [results, Try.results32, go_sem, *]) rfl ⟨⟨⟨x.h.n, x.h.l, x.h.l, x.h.a, x.h.a⟩, ⟨x.r.n, x.r.d, 0⟩, x.c⟩, rfl, by go_grown⟩
  · have hrb : (r == 0) = false := by simpa using hr
    have qb := C.out.box
    have p0 := qb.at_ 0 _ rfl
    have p1 := qb.at_ 1 _ rfl
    have p2 := qb.at_ 2 _ rfl
    have p3 := qb.at_ 3 _ rfl
    have p4 := qb.at_ 4 _ rfl
    have p5 := qb.at_ 5 _ rfl
    have p6 := qb.at_ 6 _ rfl
    have p7 := qb.at_ 7 _ rfl
    have p8 := qb.at_ 8 _ rfl
    have pf := qb.fr
    have pl := qb.lt
    have prq := C.out.rq
    have pB := C.out.below
    obtain ⟨l, hl, hr⟩ := C.out.res
    match l, hl with
    | [l0, l1, l2, l3, l4, l5, l6, l7, l8], _ =>
      have z0 := hr.fr
      have z1 := hr.lt
      have y0 := hr.at_ 0 _ rfl
      have y1 := hr.at_ 1 _ rfl
      have y2 := hr.at_ 2 _ rfl
      have y3 := hr.at_ 3 _ rfl
      have y4 := hr.at_ 4 _ rfl
      have y5 := hr.at_ 5 _ rfl
      have y6 := hr.at_ 6 _ rfl
      have y7 := hr.at_ 7 _ rfl
      have y8 := hr.at_ 8 _ rfl
      go_wp2_with fail
      refine bodyPost_ret (v := wheelV x) (by simp [results, Try.results32, go_sem, *]) rfl ⟨x, rfl, by go_grown⟩
set_option maxRecDepth 100000 in
set_option maxHeartbeats 4000000 in
theorem drawLengthRange (A : Option Addr) (n cap : Nat) (bs : List Int) (w : World) (h : Rd w 0 w.heap.size A n (byts bs)) (hs : ∀ z ∈ bs, 0 ≤ z ∧ z ≤ 255) (hn : n ≤ 140737488355328) : Calls Try.prog 13 #[.slice A n cap] w (GotWBN w) := by
  go_enter Try.func13, Try.ntmps13
  go_wp2_with fail
  refine calls_gen (R := fun w' => Box w' w.heap.size [.int .i64 0, .int .i64 0, .int .i64 0, .int .i64 0, .int .i64 0, .int .i64 0, .int .i64 0, .int .i64 0, .int .i64 0] ∧ Below w.heap.size w w') ⟨Box.new rfl rfl, by go_grown⟩ ?_
  rintro W0 ⟨X0, B0⟩
  refine (from_ A n cap bs W0 ((h.below B0 (Nat.le_refl _)).mono (Nat.le_refl _) B0.size) hs hn).mono ?_
  rintro _ W1 ⟨g, rfl, hg, S1, b1⟩
  have X1 := X0.below b1
  have B1 := upB B0 b1
  have hwg : w.heap.size < g := Nat.lt_of_lt_of_le X0.lt hg
  clear b1 X0 B0
  go_wp2_with fail
  refine (drawSquareOfSpoke A n cap bs W1 ((h.below B1 (Nat.le_refl _)).mono (Nat.le_refl _) B1.size) hs hn).mono ?_
  rintro _ W2 ⟨x, b, rfl, b2⟩
  have S2 := S1.below b2
  have X2 := X1.below b2
  have B2 := upB B1 b2
  have hgl := S2.lt
  clear b2 S1 X1 B1 hs h
  go_upto_region 3 with fail
  refine wp_gen (R := fun w' => QW w W2.heap.size x w' ∧ Src w' g A n cap bs) ⟨⟨Box.new rfl rfl, ⟨_, rfl, X2.alloc _⟩, B2.alloc B2.size _, Nat.lt_trans hwg hgl⟩, S2.below ((Below.refl _ _).alloc (Nat.le_refl _) _)⟩ ?_
  clear X2 B2 S2
  have hgq : g < W2.heap.size := hgl
  clear hgl
  generalize W2.heap.size = q at hgq ⊢
  rintro W3 ⟨c0, hS⟩
  have C := Go.Lib.hid c0
  clear c0
  go_wp2_with fail
  refine (next g A n cap bs 12 _ hS).mono ?_
  rintro _ Vr ⟨r, rfl, r0, r1, hS2, hk⟩
  have C2 := Go.Lib.hid (C.out.keep hk hwg hgq)
  clear C hS hk
  have C := C2
  have hS := hS2
  clear C2 hS2
  by_cases hr : r = 0
  · subst hr
    go_wp2_with fail
    refine (pickNew g A n cap bs _ hS [2005, 6995] 2 rfl (by omega) (by omega) (fun _ => True) (fun _ _ => trivial) rfl).mono ?_
    rintro _ Vp ⟨t, rfl, -, hS2, hk⟩
    have C2 := C.out.keep hk hwg hgq
    clear C hS hk
    have qb := C2.box
    have p0 := qb.at_ 0 _ rfl
    have p1 := qb.at_ 1 _ rfl
    have p2 := qb.at_ 2 _ rfl
    have p3 := qb.at_ 3 _ rfl
    have p4 := qb.at_ 4 _ rfl
    have p5 := qb.at_ 5 _ rfl
    have p6 := qb.at_ 6 _ rfl
    have p7 := qb.at_ 7 _ rfl
    have p8 := qb.at_ 8 _ rfl
    have pf := qb.fr
    have pl := qb.lt
    have prq := C2.rq
    go_upto_region 5 with fail
    have CN : QW w q ⟨x.h, ⟨x.r.n, t, x.r.o⟩, x.c⟩ (Vp.setCell ⟨q, 6, none⟩ (.int .i64 t)) := ⟨qb.set (k := 6) (.int .i64 t) (by simp), C2.res.imp fun _ hh => ⟨hh.1, hh.2.other (by simp; omega) _⟩, by have := C2.below; go_grown, prq⟩
    have SN : Src (Vp.setCell ⟨q, 6, none⟩ (.int .i64 t)) g A n cap bs := hS2.above ((Below.refl _ _).setCell (Nat.succ_le_of_lt hgq) _)
    refine wp_gen (R := fun w' => QW w q ⟨x.h, ⟨x.r.n, t, x.r.o⟩, x.c⟩ w' ∧ Src w' g A n cap bs) ⟨CN, SN⟩ ?_
    clear CN SN C2 hS2 qb p0 p1 p2 p3 p4 p5 p6 p7 p8 pf pl prq
    obtain ⟨x2, hx2⟩ : ∃ x2 : Wh, x2 = ⟨x.h, ⟨x.r.n, t, x.r.o⟩, x.c⟩ := ⟨_, rfl⟩
    rw [← hx2]
    clear hx2
    rintro W5 ⟨c0, hS⟩
    have C := Go.Lib.hid c0
    clear c0
    refine wp_region_held_drew (S := fun w' => QW w q x2 w') (by kernel_rfl) C.out.drew (fun hH => ?_)
    have hS := hS.drewN 1
    clear C
    refine wpAnyH_take (i := 0) (oi := Oper.mk (some _) _ _ _ _ _) (v := ?_) rfl (by kernel_rfl) (by kernel_rfl) (by kernel_rfl) (fun _ _ _ h => h) (Or.inl ⟨by rfl, ?_⟩) hH ?_
    rotate_left
    · intro w2 hw
      have e := hw.cells
      clear hw
      go_simp
      try with_reducible rfl
    try simp only [Act.put, List.setIfInBounds_toArray, List.set_cons_zero, List.set_cons_succ]
    refine wpAnyH_take (i := 1) (oi := Oper.mk (some _) _ _ _ _ _) (v := ?_) rfl (by kernel_rfl) (by kernel_rfl) (by kernel_rfl) (fun _ _ _ h => h) (Or.inl ⟨by rfl, ?_⟩) hH ?_
    rotate_left
    · intro w2 hw
      have e := hw.cells
      clear hw
      go_simp
      try with_reducible rfl
    try simp only [Act.put, List.setIfInBounds_toArray, List.set_cons_zero, List.set_cons_succ]
    refine wpAnyH_take (i := 2) (oi := Oper.mk (some _) _ _ _ _ _) (v := ?_) rfl (by kernel_rfl) (by kernel_rfl) (by kernel_rfl) (fun _ _ _ h => h) (Or.inl ⟨by rfl, ?_⟩) hH ?_
    rotate_left
    · intro w2 hw
      have e := hw.cells
      clear hw
      go_simp
      try with_reducible rfl
    try simp only [Act.put, List.setIfInBounds_toArray, List.set_cons_zero, List.set_cons_succ]
    refine wpAnyH_take (i := 3) (oi := Oper.mk (some _) _ _ _ _ _) (v := ?_) rfl (by kernel_rfl) (by kernel_rfl) (by kernel_rfl) (fun _ _ _ h => h) (Or.inl ⟨by rfl, ?_⟩) hH ?_
    rotate_left
    · intro w2 hw
      have e := hw.cells
      clear hw
      go_simp
      try with_reducible rfl
    try simp only [Act.put, List.setIfInBounds_toArray, List.set_cons_zero, List.set_cons_succ]
    refine wpAnyH_ready (rs := [4]) (by kernel_rfl) (by simp) ?_
    refine AllReadyH.cons (o := Oper.mk (some _) _ _ _ _ _) rfl (fun K hK => ?_) AllReadyH.nil
    go_simp
    refine (next g A n cap bs 8 _ hS).mono ?_
    rintro _ V4 ⟨u, rfl, u0, u1, hS2, hk⟩
    try go_wp2_with fail
    have hH2 := hH.keep hk hwg hgq
    refine hK.out _ _ hH2 (fun _ => ?_)
    clear hK hH hS hk
    have hH := hH2
    have hS := hS2
    clear hH2 hS2
    try simp only [Act.put, List.setIfInBounds_toArray, List.set_cons_zero, List.set_cons_succ]
    refine wpAnyH_ready (rs := [5]) (by kernel_rfl) (by simp) ?_
    refine AllReadyH.cons (o := Oper.mk (some _) _ _ _ _ _) rfl (fun K hK => ?_) AllReadyH.nil
    go_simp
    refine hK.out _ _ (hH.alloc _) (fun _ => ?_)
    clear hK
    try simp only [Act.put, List.setIfInBounds_toArray, List.set_cons_zero, List.set_cons_succ]
    refine wpAnyH_ready (rs := [6]) (by kernel_rfl) (by simp) ?_
    refine AllReadyH.cons (o := Oper.mk (some _) _ _ _ _ _) rfl (fun K hK => ?_) AllReadyH.nil
    go_simp
    refine (pickNew g A n cap bs _ hS [u, 0, 20, 21, -1] 5 rfl (by omega) (by omega) (fun _ => True) (fun _ _ => trivial) rfl).mono ?_
    rintro _ V6 ⟨z, rfl, -, hS2, hk⟩
    try go_wp2_with fail
    have hH2 := hH.keep hk hwg hgq
    refine hK.out _ _ hH2 (fun _ => ?_)
    clear hK hH hS hk
    have hH := hH2
    have hS := hS2
    clear hH2 hS2
    try simp only [Act.put, List.setIfInBounds_toArray, List.set_cons_zero, List.set_cons_succ]
    refine wpAnyH_ready (rs := [7]) (by kernel_rfl) (by simp) ?_
    refine AllReadyH.cons (o := Oper.mk none _ _ _ _ _) rfl (fun K hK => ?_) AllReadyH.nil
    obtain ⟨l, hl, hr⟩ := hH.res
    match l, hl with
    | [l0, l1, l2, l3, l4, l5, l6, l7, l8], _ =>
      have z0 := hr.fr
      have z1 := hr.lt
      have y0 := hr.at_ 0 _ rfl
      have y1 := hr.at_ 1 _ rfl
      have y2 := hr.at_ 2 _ rfl
      have y3 := hr.at_ 3 _ rfl
      have y4 := hr.at_ 4 _ rfl
      have y5 := hr.at_ 5 _ rfl
      have y6 := hr.at_ 6 _ rfl
      have y7 := hr.at_ 7 _ rfl
      have y8 := hr.at_ 8 _ rfl
      go_simp
      have hP := hH.put
      refine hK.out _ _ hP.1 (fun _ => ?_)
      clear hK z0 z1 y0 y1 y2 y3 y4 y5 y6 y7 y8
      try simp only [Act.put, List.setIfInBounds_toArray, List.set_cons_zero, List.set_cons_succ]
      refine wpAnyH_genD (R := fun w' => QW w q x2 w' ∧ Box w' w.heap.size [.int .i64 x2.h.n, .int .i64 x2.h.l, .int .i64 x2.h.r, .int .i64 x2.h.a, .int .i64 x2.h.b, .int .i64 x2.r.n, .int .i64 x2.r.d, .int .i64 x2.r.o, .int .i64 x2.c]) ⟨hP.1, hP.2⟩ ?_
      clear hP hH hr
      rintro VF ⟨hH, hF⟩
      refine wpAnyH_take (i := 8) (oi := Oper.mk (some _) _ _ _ _ _) (v := ?_) rfl (by kernel_rfl) (by kernel_rfl) (by kernel_rfl) (fun _ _ _ h => h) (Or.inl ⟨by rfl, ?_⟩) hH ?_
      rotate_left
      · intro w2 hw
        have e := hw.cells
        clear hw
        go_simp
        try with_reducible rfl
      try simp only [Act.put, List.setIfInBounds_toArray, List.set_cons_zero, List.set_cons_succ]
      refine wpAnyH_take (i := 9) (oi := Oper.mk (some _) _ _ _ _ _) (v := ?_) rfl (by kernel_rfl) (by kernel_rfl) (by kernel_rfl) (fun _ _ _ h => h) (Or.inl ⟨by rfl, ?_⟩) hH ?_
      rotate_left
      · intro w2 hw
        have e := hw.cells
        clear hw
        go_simp
        try with_reducible rfl
      try simp only [Act.put, List.setIfInBounds_toArray, List.set_cons_zero, List.set_cons_succ]
      refine wpAnyH_done (by kernel_rfl) ?_ _
      have z0 := hF.fr
      have z1 := hF.lt
      have y0 := hF.at_ 0 _ rfl
      have y1 := hF.at_ 1 _ rfl
      have y2 := hF.at_ 2 _ rfl
      have y3 := hF.at_ 3 _ rfl
      have y4 := hF.at_ 4 _ rfl
      have y5 := hF.at_ 5 _ rfl
      have y6 := hF.at_ 6 _ rfl
      have y7 := hF.at_ 7 _ rfl
      have y8 := hF.at_ 8 _ rfl
      go_wp2_with fail
      refine bodyPost_ret (v := .tuple #[wheelV x2, .bool b, .int .i64 z]) (by simp [results, Try.results13, go_sem, *]) rfl ⟨x2, b, z, rfl, hH.below⟩
  · have hrb : (r == 0) = false := by simpa using hr
    go_upto_region 5 with fail
    refine wp_region_held_drew (S := fun w' => QW w q x w') (by kernel_rfl) C.out.drew (fun hH => ?_)
    have hS := hS.drewN 1
    clear C
    refine wpAnyH_take (i := 0) (oi := Oper.mk (some _) _ _ _ _ _) (v := ?_) rfl (by kernel_rfl) (by kernel_rfl) (by kernel_rfl) (fun _ _ _ h => h) (Or.inl ⟨by rfl, ?_⟩) hH ?_
    rotate_left
    · intro w2 hw
      have e := hw.cells
      clear hw
      go_simp
      try with_reducible rfl
    try simp only [Act.put, List.setIfInBounds_toArray, List.set_cons_zero, List.set_cons_succ]
    refine wpAnyH_take (i := 1) (oi := Oper.mk (some _) _ _ _ _ _) (v := ?_) rfl (by kernel_rfl) (by kernel_rfl) (by kernel_rfl) (fun _ _ _ h => h) (Or.inl ⟨by rfl, ?_⟩) hH ?_
    rotate_left
    · intro w2 hw
      have e := hw.cells
      clear hw
      go_simp
      try with_reducible rfl
    try simp only [Act.put, List.setIfInBounds_toArray, List.set_cons_zero, List.set_cons_succ]
    refine wpAnyH_take (i := 2) (oi := Oper.mk (some _) _ _ _ _ _) (v := ?_) rfl (by kernel_rfl) (by kernel_rfl) (by kernel_rfl) (fun _ _ _ h => h) (Or.inl ⟨by rfl, ?_⟩) hH ?_
    rotate_left
    · intro w2 hw
      have e := hw.cells
      clear hw
      go_simp
      try with_reducible rfl
    try simp only [Act.put, List.setIfInBounds_toArray, List.set_cons_zero, List.set_cons_succ]
    refine wpAnyH_take (i := 3) (oi := Oper.mk (some _) _ _ _ _ _) (v := ?_) rfl (by kernel_rfl) (by kernel_rfl) (by kernel_rfl) (fun _ _ _ h => h) (Or.inl ⟨by rfl, ?_⟩) hH ?_
    rotate_left
    · intro w2 hw
      have e := hw.cells
      clear hw
      go_simp
      try with_reducible rfl
    try simp only [Act.put, List.setIfInBounds_toArray, List.set_cons_zero, List.set_cons_succ]
    refine wpAnyH_ready (rs := [4]) (by kernel_rfl) (by simp) ?_
    refine AllReadyH.cons (o := Oper.mk (some _) _ _ _ _ _) rfl (fun K hK => ?_) AllReadyH.nil
    go_simp
    refine (next g A n cap bs 8 _ hS).mono ?_
    rintro _ V4 ⟨u, rfl, u0, u1, hS2, hk⟩
    try go_wp2_with fail
    have hH2 := hH.keep hk hwg hgq
    refine hK.out _ _ hH2 (fun _ => ?_)
    clear hK hH hS hk
    have hH := hH2
    have hS := hS2
    clear hH2 hS2
    try simp only [Act.put, List.setIfInBounds_toArray, List.set_cons_zero, List.set_cons_succ]
    refine wpAnyH_ready (rs := [5]) (by kernel_rfl) (by simp) ?_
    refine AllReadyH.cons (o := Oper.mk (some _) _ _ _ _ _) rfl (fun K hK => ?_) AllReadyH.nil
    go_simp
    refine hK.out _ _ (hH.alloc _) (fun _ => ?_)
    clear hK
    try simp only [Act.put, List.setIfInBounds_toArray, List.set_cons_zero, List.set_cons_succ]
    refine wpAnyH_ready (rs := [6]) (by kernel_rfl) (by simp) ?_
    refine AllReadyH.cons (o := Oper.mk (some _) _ _ _ _ _) rfl (fun K hK => ?_) AllReadyH.nil
    go_simp
    refine (pickNew g A n cap bs _ hS [u, 0, 20, 21, -1] 5 rfl (by omega) (by omega) (fun _ => True) (fun _ _ => trivial) rfl).mono ?_
    rintro _ V6 ⟨z, rfl, -, hS2, hk⟩
    try go_wp2_with fail
    have hH2 := hH.keep hk hwg hgq
    refine hK.out _ _ hH2 (fun _ => ?_)
    clear hK hH hS hk
    have hH := hH2
    have hS := hS2
    clear hH2 hS2
    try simp only [Act.put, List.setIfInBounds_toArray, List.set_cons_zero, List.set_cons_succ]
    refine wpAnyH_ready (rs := [7]) (by kernel_rfl) (by simp) ?_
    refine AllReadyH.cons (o := Oper.mk none _ _ _ _ _) rfl (fun K hK => ?_) AllReadyH.nil
    obtain ⟨l, hl, hr⟩ := hH.res
    match l, hl with
    | [l0, l1, l2, l3, l4, l5, l6, l7, l8], _ =>
      have z0 := hr.fr
      have z1 := hr.lt
      have y0 := hr.at_ 0 _ rfl
      have y1 := hr.at_ 1 _ rfl
      have y2 := hr.at_ 2 _ rfl
      have y3 := hr.at_ 3 _ rfl
      have y4 := hr.at_ 4 _ rfl
      have y5 := hr.at_ 5 _ rfl
      have y6 := hr.at_ 6 _ rfl
      have y7 := hr.at_ 7 _ rfl
      have y8 := hr.at_ 8 _ rfl
      go_simp
      have hP := hH.put
      refine hK.out _ _ hP.1 (fun _ => ?_)
      clear hK z0 z1 y0 y1 y2 y3 y4 y5 y6 y7 y8
      try simp only [Act.put, List.setIfInBounds_toArray, List.set_cons_zero, List.set_cons_succ]
      refine wpAnyH_genD (R := fun w' => QW w q x w' ∧ Box w' w.heap.size [.int .i64 x.h.n, .int .i64 x.h.l, .int .i64 x.h.r, .int .i64 x.h.a, .int .i64 x.h.b, .int .i64 x.r.n, .int .i64 x.r.d, .int .i64 x.r.o, .int .i64 x.c]) ⟨hP.1, hP.2⟩ ?_
      clear hP hH hr
      rintro VF ⟨hH, hF⟩
      refine wpAnyH_take (i := 8) (oi := Oper.mk (some _) _ _ _ _ _) (v := ?_) rfl (by kernel_rfl) (by kernel_rfl) (by kernel_rfl) (fun _ _ _ h => h) (Or.inl ⟨by rfl, ?_⟩) hH ?_
      rotate_left
      · intro w2 hw
        have e := hw.cells
        clear hw
        go_simp
        try with_reducible rfl
      try simp only [Act.put, List.setIfInBounds_toArray, List.set_cons_zero, List.set_cons_succ]
      refine wpAnyH_take (i := 9) (oi := Oper.mk (some _) _ _ _ _ _) (v := ?_) rfl (by kernel_rfl) (by kernel_rfl) (by kernel_rfl) (fun _ _ _ h => h) (Or.inl ⟨by rfl, ?_⟩) hH ?_
      rotate_left
      · intro w2 hw
        have e := hw.cells
        clear hw
        go_simp
        try with_reducible rfl
      try simp only [Act.put, List.setIfInBounds_toArray, List.set_cons_zero, List.set_cons_succ]
      refine wpAnyH_done (by kernel_rfl) ?_ _
      have z0 := hF.fr
      have z1 := hF.lt
      have y0 := hF.at_ 0 _ rfl
      have y1 := hF.at_ 1 _ rfl
      have y2 := hF.at_ 2 _ rfl
      have y3 := hF.at_ 3 _ rfl
      have y4 := hF.at_ 4 _ rfl
      have y5 := hF.at_ 5 _ rfl
      have y6 := hF.at_ 6 _ rfl
      have y7 := hF.at_ 7 _ rfl
      have y8 := hF.at_ 8 _ rfl
      go_wp2_with fail
      refine bodyPost_ret (v := .tuple #[wheelV x, .bool b, .int .i64 z]) (by simp [results, Try.results13, go_sem, *]) rfl ⟨x, b, z, rfl, hH.below⟩
end Go.Proofs.Ytifblmcocikopab
