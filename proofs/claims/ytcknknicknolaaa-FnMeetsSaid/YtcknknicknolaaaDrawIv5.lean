/- The whole draw of two intervals that may meet. -/
import Derived.Test.YtcknknicknolaaaDrawIv2
import Derived.StillTailTactics
namespace Go.Proofs.Ytcknknicknolaaa
open Go.RowKit
theorem four_other {W : World} {q p r : Nat} {a b c d : Int} {x y : Value} (h : W.cell? ⟨q, 0, none⟩ = some (.int .i64 a) ∧ W.cell? ⟨q, 1, none⟩ = some (.int .i64 b) ∧ W.cell? ⟨p, 0, none⟩ = some (.int .i64 c) ∧ W.cell? ⟨p, 1, none⟩ = some (.int .i64 d)) (hq : r ≠ q) (hp : r ≠ p) :
    ((W.setCell ⟨r, 0, none⟩ x).setCell ⟨r, 1, none⟩ y).cell? ⟨q, 0, none⟩ = some (.int .i64 a) ∧ ((W.setCell ⟨r, 0, none⟩ x).setCell ⟨r, 1, none⟩ y).cell? ⟨q, 1, none⟩ = some (.int .i64 b) ∧ ((W.setCell ⟨r, 0, none⟩ x).setCell ⟨r, 1, none⟩ y).cell? ⟨p, 0, none⟩ = some (.int .i64 c) ∧ ((W.setCell ⟨r, 0, none⟩ x).setCell ⟨r, 1, none⟩ y).cell? ⟨p, 1, none⟩ = some (.int .i64 d) := by
  obtain ⟨h1, h2⟩ := two_other (u := x) (v := y) ⟨h.1, h.2.1⟩ hq
  obtain ⟨h3, h4⟩ := two_other (u := x) (v := y) ⟨h.2.2.1, h.2.2.2⟩ hp
  exact ⟨h1, h2, h3, h4⟩
def Wide (x : Int) : Prop := -4000000000 ≤ x ∧ x ≤ 4000000000

set_option maxRecDepth 100000 in
set_option maxHeartbeats 8000000 in
theorem drawMeet (A : Option Addr) (n cap : Nat) (bs : List Int) (w : World) (h : Rd w 0 w.heap.size A n (byts bs)) (hs : ∀ z ∈ bs, 0 ≤ z ∧ z ≤ 255) (hn : n ≤ 140737488355328) : Calls Try.prog 32 #[.slice A n cap] w (TwoEnd w fun a b c d => (Wide a ∧ Wide b) ∧ Wide c ∧ Wide d) := by
  go_enter Try.func32, Try.ntmps32
  go_wp2_with fail
  have V0 := Go.Lib.hid ((Var2.new (w := w) (x := 0) (y := 0) (t := 25)).below ((Below.refl _ _).alloc (Nat.le_refl _) (.cells #[.int .i64 0, .int .i64 0] 25)))
  have U0 := (Var2.new (w := w.alloc (.cells #[.int .i64 0, .int .i64 0] 25)) (x := 0) (y := 0) (t := 25))
  rw [World.size_alloc] at U0
  have U0 := Go.Lib.hid U0
  have B0 : Below w.heap.size w ((w.alloc (.cells #[.int .i64 0, .int .i64 0] 25)).alloc (.cells #[.int .i64 0, .int .i64 0] 25)) := by go_grown
  generalize (w.alloc (.cells #[.int .i64 0, .int .i64 0] 25)).alloc (.cells #[.int .i64 0, .int .i64 0] 25) = w0 at V0 U0 B0 ⊢
  have h0 := (h.below B0 (Nat.le_refl _)).mono (Nat.le_refl _) B0.size
  have HN := Go.Lib.hid (fun m g w' h' => next g A n cap bs m w' h')
  have HD := Go.Lib.hid (fun g w' h' => drawIv g A n cap bs w' h')
  refine (from_ A n cap bs w0 h0 hs hn).mono ?_
  rintro e w1 ⟨g, rfl, hg, S1, b1⟩
  have C1 : Hid (DCtx w g A n cap bs [(w.heap.size, 0, 0), (w.heap.size + 1, 0, 0)] w1) := ⟨S1, Nat.le_trans B0.size hg, B0.trans (b1.mono B0.size), fun v hv => by
    rcases List.mem_cons.1 hv with rfl | hv
    · exact ⟨V0.out.below b1, by have := V0.out.lt; show w.heap.size ≠ g; omega, Nat.le_refl _⟩
    · obtain rfl : v = (w.heap.size + 1, 0, 0) := by simpa using hv
      exact ⟨U0.out.below b1, by have := U0.out.lt; show w.heap.size + 1 ≠ g; omega, by show w.heap.size ≤ w.heap.size + 1; omega⟩⟩
  have hA := Go.Lib.hid (drawAdd A n cap bs w1 (((h0.below b1 (Nat.le_refl _)).mono (Nat.le_refl _) b1.size)) hs hn)
  clear S1 b1 V0 B0 h0 hg U0
  go_wp2_with fail
  refine hA.out.mono ?_
  rintro e w2 ⟨a, b, c, d, rfl, ⟨⟨a1, b1⟩, c1, d1⟩, b2⟩
  unfold Fine at a1 b1 c1 d1
  have K2 := Keep.of_below b2 (Nat.le_refl _) g (g + 1)
  have C2 := C1.out.keep (C1.out.src.below b2) K2
  have q1 := C2.lt (r := w.heap.size) (x := 0) (y := 0) (by simp)
  have q2 := C2.lt (r := w.heap.size + 1) (x := 0) (y := 0) (by simp)
  have gq := C2.src.lt
  have C4 := Go.Lib.hid ((C2.var (x := a) (y := b) 25).var (x := c) (y := d) 25)
  rw [World.size_alloc] at C4
  clear C2 K2 b2 C1 hA
  go_wp2_with fail
  obtain ⟨q, hq⟩ : ∃ q, q = w2.heap.size := ⟨_, rfl⟩
  rw [← hq] at q1 q2 gq C4 ⊢
  generalize (w2.alloc (.cells #[.int .i64 a, .int .i64 b] 25)).alloc (.cells #[.int .i64 c, .int .i64 d] 25) = w4 at C4 ⊢
  clear hq
  refine (HN.out 2 g w4 C4.out.src).mono ?_
  rintro e w5 ⟨x2, rfl, x2l, x2h, S5, K5⟩
  have C5 := Go.Lib.hid (C4.out.keep S5 K5)
  clear S5 K5 C4
  by_cases hx : x2 = 0
  · subst hx
    have e0 := C5.out.c0 (r := q) (x := a) (y := b) (by simp)
    go_wp2_with fail
    go_region_held3 (fun w' => w'.cell? ⟨q, 0, none⟩ = some (.int .i64 a))
      (first | exact C.out.c0 (r := q) (x := a) (y := b) (by simp) | exact e0 | go_keep)
      (first | (go_at_call 48; refine (HN.out _ g _ (by first | exact C.out.src | exact (C.out.drewN 1).src | exact (C5.out.drewN 1).src | exact C5.out.src)).mono ?_; rintro e w6 ⟨va, rfl, val, vah, S, K⟩; (first | have C := Go.Lib.hid (C.out.keep S K) | have C := Go.Lib.hid ((C.out.drewN 1).keep S K) | have C := Go.Lib.hid ((C5.out.drewN 1).keep S K) | have C := Go.Lib.hid (C5.out.keep S K)); have v0 := C.out.c0 (r := q + 1) (x := c) (y := d) (by simp); have v1 := C.out.c1 (r := q + 1) (x := c) (y := d) (by simp); have v2 := C.out.fr (r := q + 1) (x := c) (y := d) (by simp); have v3 := C.out.lt (r := q + 1) (x := c) (y := d) (by simp)))
    have wz : IntKind.i64.wrap (IntKind.i64.wrap (a + va) - 10) = a + va - 10 := by rw [IntWalk.i64_in (a + va) (by omega), IntWalk.i64_in (a + va - 10) (by omega)]
    rw [wz]
    clear wz
    have hz1 : -4000000000 ≤ a + va - 10 := by omega
    have hz2 : a + va - 10 ≤ 3000000020 := by omega
    generalize a + va - 10 = z at hz1 hz2 ⊢
    have C7 : Hid (DCtx w g A n cap bs [(q + 1, z, d), (q, a, b), (w.heap.size, 0, 0), (w.heap.size + 1, 0, 0)] (w6.setCell ⟨q + 1, 0, none⟩ (.int .i64 z))) := C.out.set z (by omega) (by omega) (fun v hv => by
        simp only [List.mem_cons, List.not_mem_nil, or_false] at hv
        rcases hv with rfl | rfl | rfl | rfl
        · exact .inr ⟨rfl, (C.out.vars (q + 1, c, d) (by simp)).1.set0 z⟩
        · exact .inl ⟨show q ≠ q + 1 by omega, by simp⟩
        · exact .inl ⟨show w.heap.size ≠ q + 1 by omega, by simp⟩
        · exact .inl ⟨show w.heap.size + 1 ≠ q + 1 by omega, by simp⟩)
    generalize w6.setCell ⟨q + 1, 0, none⟩ (.int .i64 z) = w7 at C7 ⊢
    clear v0 v1 v2 v3 e0 C C5
    have e0 := C7.out.c0 (r := q + 1) (x := z) (y := d) (by simp)
    go_wp2_with fail
    go_region_held3 (fun w' => w'.cell? ⟨q + 1, 0, none⟩ = some (.int .i64 z))
      (first | exact C.out.c0 (r := q + 1) (x := z) (y := d) (by simp) | exact e0 | exact (World.cell?_setCell_other _ _ _ _ (by simp)).trans (by assumption) | go_keep)
      (first | (go_at_call 48; refine (HN.out _ g _ (by first | exact C.out.src | exact (C.out.drewN 1).src | exact (C7.out.drewN 1).src | exact C7.out.src)).mono ?_; rintro e w8 ⟨vb, rfl, vbl, vbh, S, K⟩; (first | have C := Go.Lib.hid (C.out.keep S K) | have C := Go.Lib.hid ((C.out.drewN 1).keep S K) | have C := Go.Lib.hid ((C7.out.drewN 1).keep S K) | have C := Go.Lib.hid (C7.out.keep S K)); have v0 := C.out.c0 (r := q + 1) (x := z) (y := d) (by simp); have v1 := C.out.c1 (r := q + 1) (x := z) (y := d) (by simp); have v2 := C.out.fr (r := q + 1) (x := z) (y := d) (by simp); have v3 := C.out.lt (r := q + 1) (x := z) (y := d) (by simp)))
    have wz : IntKind.i64.wrap (z + vb) = z + vb := IntWalk.i64_in _ (by omega)
    rw [wz]
    clear wz
    have hy1 : -4000000000 ≤ z + vb := by omega
    have hy2 : z + vb ≤ 3000000320 := by omega
    generalize z + vb = y at hy1 hy2 ⊢
    have C9 : Hid (DCtx w g A n cap bs [(q + 1, z, y), (q, a, b), (w.heap.size, 0, 0), (w.heap.size + 1, 0, 0)] (w8.setCell ⟨q + 1, 1, none⟩ (.int .i64 y))) := C.out.set y (by omega) (by omega) (fun v hv => by
        simp only [List.mem_cons, List.not_mem_nil, or_false] at hv
        rcases hv with rfl | rfl | rfl | rfl
        · exact .inr ⟨rfl, (C.out.vars (q + 1, z, d) (by simp)).1.set1 y⟩
        · exact .inl ⟨show q ≠ q + 1 by omega, by simp⟩
        · exact .inl ⟨show w.heap.size ≠ q + 1 by omega, by simp⟩
        · exact .inl ⟨show w.heap.size + 1 ≠ q + 1 by omega, by simp⟩)
    generalize w8.setCell ⟨q + 1, 1, none⟩ (.int .i64 y) = w9 at C9 ⊢
    clear v0 v1 v2 v3 e0 C C7
    have f0 := C9.out.c0 (r := w.heap.size) (x := 0) (y := 0) (by simp)
    have f1 := C9.out.c1 (r := w.heap.size) (x := 0) (y := 0) (by simp)
    have f2 := C9.out.fr (r := w.heap.size) (x := 0) (y := 0) (by simp)
    have f3 := C9.out.lt (r := w.heap.size) (x := 0) (y := 0) (by simp)
    have k0 := C9.out.c0 (r := w.heap.size + 1) (x := 0) (y := 0) (by simp)
    have k1 := C9.out.c1 (r := w.heap.size + 1) (x := 0) (y := 0) (by simp)
    have k2 := C9.out.fr (r := w.heap.size + 1) (x := 0) (y := 0) (by simp)
    have k3 := C9.out.lt (r := w.heap.size + 1) (x := 0) (y := 0) (by simp)
    have u0 := C9.out.c0 (r := q) (x := a) (y := b) (by simp)
    have u1 := C9.out.c1 (r := q) (x := a) (y := b) (by simp)
    have u2 := C9.out.fr (r := q) (x := a) (y := b) (by simp)
    have u3 := C9.out.lt (r := q) (x := a) (y := b) (by simp)
    have v0 := C9.out.c0 (r := q + 1) (x := z) (y := y) (by simp)
    have v1 := C9.out.c1 (r := q + 1) (x := z) (y := y) (by simp)
    have v2 := C9.out.fr (r := q + 1) (x := z) (y := y) (by simp)
    have v3 := C9.out.lt (r := q + 1) (x := z) (y := y) (by simp)
    have B9 := C9.out.below
    go_wp2_with fail
    go_region_held3 (fun w' => w'.cell? ⟨q, 0, none⟩ = some (.int .i64 a) ∧ w'.cell? ⟨q, 1, none⟩ = some (.int .i64 b) ∧ w'.cell? ⟨q + 1, 0, none⟩ = some (.int .i64 (z)) ∧ w'.cell? ⟨q + 1, 1, none⟩ = some (.int .i64 (y)))
      (first | exact ⟨u0, u1, v0, v1⟩ | exact four_other (by assumption) (by omega) (by omega) | go_keep)
      (first | fail)
    all_goals go_wp2_with fail
    all_goals refine bodyPost_ret (v := .tuple #[ivV a b, ivV (z) (y)]) (by simp [results, Try.results32, go_sem, f0, f1, k0, k1]) rfl ⟨a, b, z, y, rfl, by unfold Wide; omega, by go_grown⟩
  · have hxb : (x2 == 0) = false := by simpa using hx
    have f0 := C5.out.c0 (r := w.heap.size) (x := 0) (y := 0) (by simp)
    have f1 := C5.out.c1 (r := w.heap.size) (x := 0) (y := 0) (by simp)
    have f2 := C5.out.fr (r := w.heap.size) (x := 0) (y := 0) (by simp)
    have f3 := C5.out.lt (r := w.heap.size) (x := 0) (y := 0) (by simp)
    have k0 := C5.out.c0 (r := w.heap.size + 1) (x := 0) (y := 0) (by simp)
    have k1 := C5.out.c1 (r := w.heap.size + 1) (x := 0) (y := 0) (by simp)
    have k2 := C5.out.fr (r := w.heap.size + 1) (x := 0) (y := 0) (by simp)
    have k3 := C5.out.lt (r := w.heap.size + 1) (x := 0) (y := 0) (by simp)
    have u0 := C5.out.c0 (r := q) (x := a) (y := b) (by simp)
    have u1 := C5.out.c1 (r := q) (x := a) (y := b) (by simp)
    have u2 := C5.out.fr (r := q) (x := a) (y := b) (by simp)
    have u3 := C5.out.lt (r := q) (x := a) (y := b) (by simp)
    have v0 := C5.out.c0 (r := q + 1) (x := c) (y := d) (by simp)
    have v1 := C5.out.c1 (r := q + 1) (x := c) (y := d) (by simp)
    have v2 := C5.out.fr (r := q + 1) (x := c) (y := d) (by simp)
    have v3 := C5.out.lt (r := q + 1) (x := c) (y := d) (by simp)
    have B9 := C5.out.below
    go_wp2_with fail
    go_region_held3 (fun w' => w'.cell? ⟨q, 0, none⟩ = some (.int .i64 a) ∧ w'.cell? ⟨q, 1, none⟩ = some (.int .i64 b) ∧ w'.cell? ⟨q + 1, 0, none⟩ = some (.int .i64 (c)) ∧ w'.cell? ⟨q + 1, 1, none⟩ = some (.int .i64 (d)))
      (first | exact ⟨u0, u1, v0, v1⟩ | exact four_other (by assumption) (by omega) (by omega) | go_keep)
      (first | fail)
    all_goals go_wp2_with fail
    all_goals refine bodyPost_ret (v := .tuple #[ivV a b, ivV (c) (d)]) (by simp [results, Try.results32, go_sem, f0, f1, k0, k1]) rfl ⟨a, b, c, d, rfl, by unfold Wide; omega, by go_grown⟩

end Go.Proofs.Ytcknknicknolaaa
