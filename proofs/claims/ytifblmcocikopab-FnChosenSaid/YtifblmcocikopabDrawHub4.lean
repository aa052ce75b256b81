/- The draw of a wheel. -/
import Derived.Test.YtifblmcocikopabDrawHub3
import Derived.Deep.RegionHeld3
namespace Go.Proofs.Ytifblmcocikopab
open Go.RowKit

/-- What the draw of a wheel holds while it runs. -/
structure WC (w : World) (g : Nat) (A : Option Addr) (n cap : Nat) (bs : List Int) (q : Nat) (h : Hb) (W : World) : Prop where
  src : Src W g A n cap bs
  keep : Keep g (g + 1) w W
  res : Box W w.heap.size [.int .i64 0, .int .i64 0, .int .i64 0, .int .i64 0, .int .i64 0, .int .i64 0, .int .i64 0, .int .i64 0, .int .i64 0]
  hub : Box W q [.int .i64 h.n, .int .i64 h.l, .int .i64 h.r, .int .i64 h.a, .int .i64 h.b]
  gw : g < w.heap.size
  gq : g < q
  ne : w.heap.size ≠ q
def minI (a b : Int) : Int := if a < b then a else b
def WDone (w : World) (g : Nat) (A : Option Addr) (n cap : Nat) (bs : List Int) (x : Hb) (y : Rm) (c : Int) (W : World) : Prop :=
  Box W w.heap.size [.int .i64 x.n, .int .i64 x.l, .int .i64 x.r, .int .i64 x.a, .int .i64 x.b, .int .i64 y.n, .int .i64 y.d, .int .i64 y.o, .int .i64 c] ∧ Src W g A n cap bs ∧ Keep g (g + 1) w W
section
variable {w W W1 : World} {g : Nat} {A : Option Addr} {n cap : Nat} {bs : List Int} {q : Nat} {h : Hb}
theorem WC.next (c : WC w g A n cap bs q h W) (s : Src W1 g A n cap bs) (k : Keep g (g + 1) W W1) : WC w g A n cap bs q h W1 :=
  ⟨s, c.keep.trans k, c.res.keep k (.inr (by have := c.gw; omega)), c.hub.keep k (.inr (by have := c.gq; omega)), c.gw, c.gq, c.ne⟩
theorem WC.drew (c : WC w g A n cap bs q h W) : WC w g A n cap bs q h W.drew := ⟨c.src.drewN 1, c.keep.drewN 1, c.res.drew, c.hub.drew, c.gw, c.gq, c.ne⟩
theorem hubCells (b : Box W q [.int .i64 h.n, .int .i64 h.l, .int .i64 h.r, .int .i64 h.a, .int .i64 h.b]) : W.cell? ⟨q, 0, none⟩ = some (.int .i64 h.n) ∧ W.cell? ⟨q, 1, none⟩ = some (.int .i64 h.l) ∧ W.cell? ⟨q, 2, none⟩ = some (.int .i64 h.r) ∧ W.cell? ⟨q, 3, none⟩ = some (.int .i64 h.a) ∧ W.cell? ⟨q, 4, none⟩ = some (.int .i64 h.b) :=
  ⟨b.at_ 0 _ rfl, b.at_ 1 _ rfl, b.at_ 2 _ rfl, b.at_ 3 _ rfl, b.at_ 4 _ rfl⟩
theorem WC.cells (c : WC w g A n cap bs q h W) : W.cell? ⟨q, 0, none⟩ = some (.int .i64 h.n) ∧ W.cell? ⟨q, 1, none⟩ = some (.int .i64 h.l) ∧ W.cell? ⟨q, 2, none⟩ = some (.int .i64 h.r) ∧ W.cell? ⟨q, 3, none⟩ = some (.int .i64 h.a) ∧ W.cell? ⟨q, 4, none⟩ = some (.int .i64 h.b) :=
  ⟨c.hub.at_ 0 _ rfl, c.hub.at_ 1 _ rfl, c.hub.at_ 2 _ rfl, c.hub.at_ 3 _ rfl, c.hub.at_ 4 _ rfl⟩
end
theorem wheel_done {w W : World} {g : Nat} {A : Option Addr} {n cap : Nat} {bs : List Int} {x : Hb} {y : Rm} {c : Int} {a : Act} (ha : a.tmps.getD 2 undef = .pointer (some ⟨w.heap.size, 0, none⟩)) (hd : a.defers = []) (h : WDone w g A n cap bs x y c W) :
    bodyPost Try.prog Try.f45 (WheelEnd w g A n cap bs) .ret a W := by
  obtain ⟨RB, S, K⟩ := h
  have c0 := RB.at_ 0 _ rfl
  have c1 := RB.at_ 1 _ rfl
  have c2 := RB.at_ 2 _ rfl
  have c3 := RB.at_ 3 _ rfl
  have c4 := RB.at_ 4 _ rfl
  have c5 := RB.at_ 5 _ rfl
  have c6 := RB.at_ 6 _ rfl
  have c7 := RB.at_ 7 _ rfl
  have c8 := RB.at_ 8 _ rfl
  obtain ⟨tmps, defers⟩ := a
  simp at ha hd
  subst hd
  refine bodyPost_ret (v := wheelV ⟨x, y, c⟩) (by simp [results, Try.results45, go_sem, ha, c0, c1, c2, c3, c4, c5, c6, c7, c8]) rfl ⟨⟨x, y, c⟩, rfl, S, K⟩
set_option maxRecDepth 100000 in
set_option maxHeartbeats 4000000 in
theorem drawWheel (g : Nat) (A : Option Addr) (n cap : Nat) (bs : List Int) (w : World) (h : Src w g A n cap bs) : Calls Try.prog 45 #[.pointer (some ⟨g, 0, none⟩)] w (WheelEnd w g A n cap bs) := by
  have HN := Go.Lib.hid (fun m w' h' => next g A n cap bs m w' h')
  have HR := Go.Lib.hid (fun hol w' h' => drawRim g A n cap bs w' h' hol)
  go_enter Try.func45, Try.ntmps45
  go_wp2_with fail
  have hg := h.lt
  have X0 : Box (w.alloc (.cells #[.int .i64 0, .int .i64 0, .int .i64 0, .int .i64 0, .int .i64 0, .int .i64 0, .int .i64 0, .int .i64 0, .int .i64 0] 34)) w.heap.size [.int .i64 0, .int .i64 0, .int .i64 0, .int .i64 0, .int .i64 0, .int .i64 0, .int .i64 0, .int .i64 0, .int .i64 0] := Box.new rfl rfl
  have S0 := h.below ((Below.refl w.heap.size w).alloc (Nat.le_refl _) (.cells #[.int .i64 0, .int .i64 0, .int .i64 0, .int .i64 0, .int .i64 0, .int .i64 0, .int .i64 0, .int .i64 0, .int .i64 0] 34))
  have K0 := keepAlloc w g (.cells #[.int .i64 0, .int .i64 0, .int .i64 0, .int .i64 0, .int .i64 0, .int .i64 0, .int .i64 0, .int .i64 0, .int .i64 0] 34)
  have q0 : (w.alloc (.cells #[.int .i64 0, .int .i64 0, .int .i64 0, .int .i64 0, .int .i64 0, .int .i64 0, .int .i64 0, .int .i64 0, .int .i64 0] 34)).heap.size = w.heap.size + 1 := by simp
  generalize w.alloc (.cells #[.int .i64 0, .int .i64 0, .int .i64 0, .int .i64 0, .int .i64 0, .int .i64 0, .int .i64 0, .int .i64 0, .int .i64 0] 34) = W0 at X0 S0 K0 q0 ⊢
  refine (drawHub g A n cap bs W0 S0).mono ?_
  rintro _ W1 ⟨x, rfl, gh, S1, k1⟩
  have K1 := K0.trans k1
  have X1 := X0.keep k1 (.inr (by omega))
  clear k1 K0 S0 X0
  obtain ⟨gn0, gn1⟩ := gh
  have cl := X1.lt
  go_upto_region 2 with fail
  refine wp_gen (R := WC w g A n cap bs W1.heap.size x) ⟨S1.below ((Below.refl _ _).alloc (Nat.le_refl _) _), K1.trans (keepAlloc _ _ _), X1.alloc _, Box.new rfl rfl, hg, by omega, by omega⟩ ?_
  rintro W2 c2
  obtain ⟨q, hq⟩ : ∃ q, q = W1.heap.size := ⟨_, rfl⟩
  rw [← hq] at c2 ⊢
  clear hq cl S1 K1 X1 h
  have C := Go.Lib.hid c2
  have e := c2.cells
  have m1 : True := trivial
  obtain ⟨e0, e1, e2, e3, e4⟩ := e
  clear c2
  have hM : ∃ M, IntKind.i64.wrap (IntKind.i64.wrap (x.n.tdiv 4) - 1) = M := ⟨_, rfl⟩
  obtain ⟨M, hM⟩ := hM
  have hX : ∃ N, (if 0 < M then M else 0) = N := ⟨_, rfl⟩
  obtain ⟨N, hX⟩ := hX
  have hmin : ∀ v : Int, (if N < v then N else v) = minI N v := fun _ => rfl
  go_region_held3 (fun w' => w'.cell? ⟨q, 0, none⟩ = some (.int .i64 x.n) ∧ w'.cell? ⟨q, 1, none⟩ = some (.int .i64 x.l) ∧ w'.cell? ⟨q, 2, none⟩ = some (.int .i64 x.r) ∧ w'.cell? ⟨q, 3, none⟩ = some (.int .i64 x.a) ∧ w'.cell? ⟨q, 4, none⟩ = some (.int .i64 x.b))
      (first | with_reducible exact C.out.cells | with_reducible exact hubCells (((((((((C.out.hub.other (p := ⟨_, 0, none⟩) C.out.ne _).other (p := ⟨_, 1, none⟩) C.out.ne _).other (p := ⟨_, 2, none⟩) C.out.ne _).other (p := ⟨_, 3, none⟩) C.out.ne _).other (p := ⟨_, 4, none⟩) C.out.ne _).other (p := ⟨_, 5, none⟩) C.out.ne _).other (p := ⟨_, 6, none⟩) C.out.ne _).other (p := ⟨_, 7, none⟩) C.out.ne _).other (p := ⟨_, 8, none⟩) C.out.ne _) | with_reducible exact C.out.drew.cells | with_reducible exact ⟨e0, e1, e2, e3, e4⟩ | with_reducible exact hubCells (((((((((C.out.drew.hub.other (p := ⟨_, 0, none⟩) C.out.ne _).other (p := ⟨_, 1, none⟩) C.out.ne _).other (p := ⟨_, 2, none⟩) C.out.ne _).other (p := ⟨_, 3, none⟩) C.out.ne _).other (p := ⟨_, 4, none⟩) C.out.ne _).other (p := ⟨_, 5, none⟩) C.out.ne _).other (p := ⟨_, 6, none⟩) C.out.ne _).other (p := ⟨_, 7, none⟩) C.out.ne _).other (p := ⟨_, 8, none⟩) C.out.ne _) )
      (first
      | (go_at_call 57; refine (HR.out _ _ (by first | exact C.out.src | exact C.out.drew.src)).mono ?_; rintro _ W3 ⟨y, rfl, S, K⟩; (first | have C := Go.Lib.hid (C.out.next S K) | have C := Go.Lib.hid (C.out.drew.next S K)))
      | (go_at_call 24; refine (HN.out _ _ (by first | exact C.out.src | exact C.out.drew.src)).mono ?_; (first | (clear m1; rintro _ W4 ⟨va, rfl, val, vah, S, K⟩) | (rintro _ W5 ⟨vb, rfl, vbl, vbh, S, K⟩)); (first | have C := Go.Lib.hid (C.out.next S K) | have C := Go.Lib.hid (C.out.drew.next S K)); have z0 := C.out.res.at_ 0 _ rfl; have z1 := C.out.res.at_ 1 _ rfl; have z2 := C.out.res.at_ 2 _ rfl; have z3 := C.out.res.at_ 3 _ rfl; have z4 := C.out.res.at_ 4 _ rfl; have z5 := C.out.res.at_ 5 _ rfl; have z6 := C.out.res.at_ 6 _ rfl; have z7 := C.out.res.at_ 7 _ rfl; have z8 := C.out.res.at_ 8 _ rfl; have zf := C.out.res.fr; have zl := C.out.res.lt))
  all_goals (
    have gw := C.out.gw
    go_wp2_with fail
    refine wheel_done (x := x) (y := y) (c := IntKind.i64.wrap (minI N va + IntKind.i64.wrap (IntKind.i64.wrap (vb.tdiv 23) * 8))) rfl rfl ?_
    first | exact ⟨(((((((((C.out.res.set _ (by simp)).set _ (by simp)).set _ (by simp)).set _ (by simp)).set _ (by simp)).set _ (by simp)).set _ (by simp)).set _ (by simp)).set _ (by simp)), (((((((((C.out.src.other (p := ⟨_, 0, none⟩) gw _).other (p := ⟨_, 1, none⟩) gw _).other (p := ⟨_, 2, none⟩) gw _).other (p := ⟨_, 3, none⟩) gw _).other (p := ⟨_, 4, none⟩) gw _).other (p := ⟨_, 5, none⟩) gw _).other (p := ⟨_, 6, none⟩) gw _).other (p := ⟨_, 7, none⟩) gw _).other (p := ⟨_, 8, none⟩) gw _), (((((((((C.out.keep.setNew (p := ⟨_, 0, none⟩) (Nat.le_refl _) _).setNew (p := ⟨_, 1, none⟩) (Nat.le_refl _) _).setNew (p := ⟨_, 2, none⟩) (Nat.le_refl _) _).setNew (p := ⟨_, 3, none⟩) (Nat.le_refl _) _).setNew (p := ⟨_, 4, none⟩) (Nat.le_refl _) _).setNew (p := ⟨_, 5, none⟩) (Nat.le_refl _) _).setNew (p := ⟨_, 6, none⟩) (Nat.le_refl _) _).setNew (p := ⟨_, 7, none⟩) (Nat.le_refl _) _).setNew (p := ⟨_, 8, none⟩) (Nat.le_refl _) _)⟩ | exact ⟨(((((((((C.out.drew.res.set _ (by simp)).set _ (by simp)).set _ (by simp)).set _ (by simp)).set _ (by simp)).set _ (by simp)).set _ (by simp)).set _ (by simp)).set _ (by simp)), (((((((((C.out.drew.src.other (p := ⟨_, 0, none⟩) gw _).other (p := ⟨_, 1, none⟩) gw _).other (p := ⟨_, 2, none⟩) gw _).other (p := ⟨_, 3, none⟩) gw _).other (p := ⟨_, 4, none⟩) gw _).other (p := ⟨_, 5, none⟩) gw _).other (p := ⟨_, 6, none⟩) gw _).other (p := ⟨_, 7, none⟩) gw _).other (p := ⟨_, 8, none⟩) gw _), (((((((((C.out.drew.keep.setNew (p := ⟨_, 0, none⟩) (Nat.le_refl _) _).setNew (p := ⟨_, 1, none⟩) (Nat.le_refl _) _).setNew (p := ⟨_, 2, none⟩) (Nat.le_refl _) _).setNew (p := ⟨_, 3, none⟩) (Nat.le_refl _) _).setNew (p := ⟨_, 4, none⟩) (Nat.le_refl _) _).setNew (p := ⟨_, 5, none⟩) (Nat.le_refl _) _).setNew (p := ⟨_, 6, none⟩) (Nat.le_refl _) _).setNew (p := ⟨_, 7, none⟩) (Nat.le_refl _) _).setNew (p := ⟨_, 8, none⟩) (Nat.le_refl _) _)⟩)
end Go.Proofs.Ytifblmcocikopab
