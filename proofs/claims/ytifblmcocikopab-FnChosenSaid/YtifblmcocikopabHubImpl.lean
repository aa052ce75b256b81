/- The program's side of chapter 4: wheels. -/
import Derived.Test.YtifblmcocikopabHubImpl2
import Derived.Test.YtifblmcocikopabBox
import Derived.Deep.RegionHeld3
namespace Go.Proofs.Ytifblmcocikopab
open Go.RowKit
section
end

set_option maxRecDepth 100000 in
set_option maxHeartbeats 4000000 in
theorem implIsWheel (wh : Wh) (w : World) : Calls Try.prog 35 #[wheelV wh] w (IsB w (wheelB wh)) := by
  have HW := Go.Lib.hid (fun w0 => implWithHub wh w0)
  have HH := Go.Lib.hid (fun w0 => implWheelValid wh w0)
  generalize wheelB wh = q at HH ⊢
  go_enter Try.func35, Try.ntmps35
  go_wp2_with fail
  refine (HW.out _).mono ?_
  rintro _ w1 ⟨rfl, b1⟩
  have B1 := upB (a := w) (by go_grown) b1
  go_wp2_with fail
  refine (HH.out _).mono ?_
  rintro _ w2 ⟨rfl, b2⟩
  have B2 := upB B1 b2
  go_wp2_with fail
  go_ret
  exact ⟨rfl, B2⟩
structure MB (w : World) (q qw qr : Nat) (x : Wh) (W : World) : Prop where
  res : ∃ l : List Value, l.length = 9 ∧ Box W q l
  whl : Box W qw [.int .i64 x.h.n, .int .i64 x.h.l, .int .i64 x.h.r, .int .i64 x.h.a, .int .i64 x.h.b, .int .i64 x.r.n, .int .i64 x.r.d, .int .i64 x.r.o, .int .i64 x.c]
  rim : Box W qr [.int .i64 x.r.n, .int .i64 x.r.d, .int .i64 (-x.r.o)]
  below : Below w.heap.size w W
section
variable {w W W1 : World} {q qw qr : Nat} {x : Wh}
theorem MB.next (c : MB w q qw qr x W) (hb : Below W.heap.size W W1) : MB w q qw qr x W1 := ⟨c.res.imp fun _ h => ⟨h.1, h.2.below hb⟩, c.whl.below hb, c.rim.below hb, upB c.below hb⟩
theorem MB.drew (c : MB w q qw qr x W) : MB w q qw qr x W.drew := ⟨c.res.imp fun _ h => ⟨h.1, h.2.drew⟩, c.whl.drew, c.rim.drew, c.below.drew⟩
theorem MB.cells (c : MB w q qw qr x W) : W.cell? ⟨qw, 0, none⟩ = some (.int .i64 x.h.n) ∧ W.cell? ⟨qw, 1, none⟩ = some (.int .i64 x.h.l) ∧ W.cell? ⟨qw, 2, none⟩ = some (.int .i64 x.h.r) ∧ W.cell? ⟨qw, 3, none⟩ = some (.int .i64 x.h.a) ∧ W.cell? ⟨qw, 4, none⟩ = some (.int .i64 x.h.b) ∧ W.cell? ⟨qw, 5, none⟩ = some (.int .i64 x.r.n) ∧ W.cell? ⟨qw, 6, none⟩ = some (.int .i64 x.r.d) ∧ W.cell? ⟨qw, 7, none⟩ = some (.int .i64 x.r.o) ∧ W.cell? ⟨qw, 8, none⟩ = some (.int .i64 x.c) ∧ W.cell? ⟨qr, 0, none⟩ = some (.int .i64 x.r.n) ∧ W.cell? ⟨qr, 1, none⟩ = some (.int .i64 x.r.d) ∧ W.cell? ⟨qr, 2, none⟩ = some (.int .i64 (-x.r.o)) :=
  ⟨c.whl.at_ 0 _ rfl, c.whl.at_ 1 _ rfl, c.whl.at_ 2 _ rfl, c.whl.at_ 3 _ rfl, c.whl.at_ 4 _ rfl, c.whl.at_ 5 _ rfl, c.whl.at_ 6 _ rfl, c.whl.at_ 7 _ rfl, c.whl.at_ 8 _ rfl, c.rim.at_ 0 _ rfl, c.rim.at_ 1 _ rfl, c.rim.at_ 2 _ rfl⟩
theorem wpAnyH_gen {P : Program} {md : Region.Mode} {ops : Array Oper} {Q : Exit → Act → World → Prop} {S : World → Prop} {n : Nat} {l : Array Bool} {a : Act} {W : World} {R : World → Prop} (h : R W) (k : ∀ w', R w' → wpAnyH P md ops Q S n l a w') : wpAnyH P md ops Q S n l a W := k W h
end
end Go.Proofs.Ytifblmcocikopab
