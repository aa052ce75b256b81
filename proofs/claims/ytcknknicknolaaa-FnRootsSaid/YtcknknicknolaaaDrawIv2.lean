/- The whole draws of intervals. -/
import Derived.Test.YtcknknicknolaaaDrawIv
import Derived.Deep.RegionHeld3
namespace Go.Proofs.Ytcknknicknolaaa
open Go.RowKit

/-- What a draw holds while it runs: its source, all that was there before, its own variables. -/
structure DCtx (w : World) (g : Nat) (A : Option Addr) (n cap : Nat) (bs : List Int) (rs : List (Nat × Int × Int)) (W : World) : Prop where
  src : Src W g A n cap bs
  ge : w.heap.size ≤ g
  below : Below w.heap.size w W
  vars : ∀ v ∈ rs, Var2 W v.1 v.2.1 v.2.2 ∧ v.1 ≠ g ∧ w.heap.size ≤ v.1
section
variable {w W W1 : World} {g : Nat} {A : Option Addr} {n cap : Nat} {bs : List Int} {rs : List (Nat × Int × Int)} {r : Nat} {x y : Int}
theorem DCtx.keep (h : DCtx w g A n cap bs rs W) (s : Src W1 g A n cap bs) (k : Keep g (g + 1) W W1) : DCtx w g A n cap bs rs W1 :=
  ⟨s, h.ge, h.below.trans (k.below h.ge h.below.size), fun v hv => by
    obtain ⟨a, b, c⟩ := h.vars v hv
    exact ⟨a.keep k (by omega), b, c⟩⟩
theorem DCtx.drewN (h : DCtx w g A n cap bs rs W) (m : Nat) : DCtx w g A n cap bs rs (W.drewN m) :=
  ⟨h.src.drewN m, h.ge, below_drewN h.below m, fun v hv => by
    obtain ⟨a, b, c⟩ := h.vars v hv
    exact ⟨a.drewN m, b, c⟩⟩
theorem DCtx.alloc (h : DCtx w g A n cap bs rs W) (o : Obj) : DCtx w g A n cap bs rs (W.alloc o) :=
  ⟨h.src.below ((Below.refl _ _).alloc (Nat.le_refl _) o), h.ge, h.below.alloc h.below.size o, fun v hv => by
    obtain ⟨a, b, c⟩ := h.vars v hv
    exact ⟨a.below ((Below.refl _ _).alloc (Nat.le_refl _) o), b, c⟩⟩
theorem DCtx.var (h : DCtx w g A n cap bs rs W) (t : TypeId) : DCtx w g A n cap bs ((W.heap.size, x, y) :: rs) (W.alloc (.cells #[.int .i64 x, .int .i64 y] t)) :=
  ⟨(h.alloc _).src, h.ge, (h.alloc _).below, fun v hv => by
    rcases List.mem_cons.1 hv with rfl | hv
    · exact ⟨Var2.new, by have := h.src.lt; show W.heap.size ≠ g; omega, h.below.size⟩
    · exact (h.alloc _).vars v hv⟩
theorem DCtx.c0 (h : DCtx w g A n cap bs rs W) (hm : (r, x, y) ∈ rs) : W.cell? ⟨r, 0, none⟩ = some (.int .i64 x) := (h.vars _ hm).1.c0
theorem DCtx.c1 (h : DCtx w g A n cap bs rs W) (hm : (r, x, y) ∈ rs) : W.cell? ⟨r, 1, none⟩ = some (.int .i64 y) := (h.vars _ hm).1.c1
theorem DCtx.fr (h : DCtx w g A n cap bs rs W) (hm : (r, x, y) ∈ rs) : ∀ j, W.frozen? ⟨r, j, none⟩ = false := (h.vars _ hm).1.fr
theorem DCtx.lt (h : DCtx w g A n cap bs rs W) (hm : (r, x, y) ∈ rs) : r < W.heap.size := (h.vars _ hm).1.lt
/-- A store into a variable of the draw's own (others than the one that is stored into stay known). -/
theorem DCtx.set (h : DCtx w g A n cap bs rs W) {rs' : List (Nat × Int × Int)} {q j : Nat} (z : Int) (hg : g < q) (hq : w.heap.size ≤ q) (hs : ∀ v ∈ rs', (v.1 ≠ q ∧ v ∈ rs) ∨ (v.1 = q ∧ Var2 (W.setCell ⟨q, j, none⟩ (.int .i64 z)) q v.2.1 v.2.2)) :
    DCtx w g A n cap bs rs' (W.setCell ⟨q, j, none⟩ (.int .i64 z)) := by
  refine ⟨h.src.other (p := ⟨q, j, none⟩) hg _, h.ge, h.below.setCell (p := ⟨q, j, none⟩) hq _, fun v hv => ?_⟩
  rcases hs v hv with ⟨h1, h2⟩ | ⟨h1, h2⟩
  · obtain ⟨a, b, c⟩ := h.vars v h2
    exact ⟨a.other (p := ⟨q, j, none⟩) (show q ≠ v.1 by omega) _, b, c⟩
  · rw [h1]
    exact ⟨h2, by omega, hq⟩
end
theorem two_other {W : World} {q r : Nat} {x y : Int} {u v : Value} (h : W.cell? ⟨q, 0, none⟩ = some (.int .i64 x) ∧ W.cell? ⟨q, 1, none⟩ = some (.int .i64 y)) (hr : r ≠ q) :
    ((W.setCell ⟨r, 0, none⟩ u).setCell ⟨r, 1, none⟩ v).cell? ⟨q, 0, none⟩ = some (.int .i64 x) ∧ ((W.setCell ⟨r, 0, none⟩ u).setCell ⟨r, 1, none⟩ v).cell? ⟨q, 1, none⟩ = some (.int .i64 y) := by
  refine ⟨?_, ?_⟩
  · rw [World.cell?_setCell_other _ _ _ _ (by simp <;> omega), World.cell?_setCell_other _ _ _ _ (by simp <;> omega)]; exact h.1
  · rw [World.cell?_setCell_other _ _ _ _ (by simp <;> omega), World.cell?_setCell_other _ _ _ _ (by simp <;> omega)]; exact h.2

/-- What the whole draw of an interval hands back. -/
def OneEnd (w : World) (p : Int → Int → Prop) (e : Ending) (w' : World) : Prop := ∃ lo hi : Int, e = .returned (ivV lo hi) ∧ p lo hi ∧ Below w.heap.size w w'
def TwoEnd (w : World) (p : Int → Int → Int → Int → Prop) (e : Ending) (w' : World) : Prop := ∃ a b c d : Int, e = .returned (.tuple #[ivV a b, ivV c d]) ∧ p a b c d ∧ Below w.heap.size w w'
def MixEnd (w : World) (p : Int → Int → Int → Prop) (e : Ending) (w' : World) : Prop := ∃ a b c : Int, e = .returned (.tuple #[ivV a b, .int .i64 c]) ∧ p a b c ∧ Below w.heap.size w w'
def Fine (x : Int) : Prop := -3000000000 ≤ x ∧ x ≤ 3000000000
theorem near_fine {a b : Int} (h : Near a b) : Fine a ∧ Fine b := by unfold Near at h; unfold Fine; omega

set_option maxRecDepth 100000 in
theorem drawSquare (A : Option Addr) (n cap : Nat) (bs : List Int) (w : World) (h : Rd w 0 w.heap.size A n (byts bs)) (hs : ∀ z ∈ bs, 0 ≤ z ∧ z ≤ 255) (hn : n ≤ 140737488355328) : Calls Try.prog 26 #[.slice A n cap] w (OneEnd w fun a b => Fine a ∧ Fine b) := by
  go_enter Try.func26, Try.ntmps26
  go_wp2_with fail
  have V0 := Go.Lib.hid (Var2.new (w := w) (x := 0) (y := 0) (t := 25))
  have B0 := (Below.refl w.heap.size w).alloc (Nat.le_refl _) (.cells #[.int .i64 0, .int .i64 0] 25)
  generalize w.alloc (.cells #[.int .i64 0, .int .i64 0] 25) = w0 at V0 B0 ⊢
  have h0 := (h.below B0 (Nat.le_refl _)).mono (Nat.le_refl _) B0.size
  have HN := Go.Lib.hid (fun m g w' h' => next g A n cap bs m w' h')
  have HD := Go.Lib.hid (fun g w' h' => drawIv g A n cap bs w' h')
  refine (from_ A n cap bs w0 h0 hs hn).mono ?_
  rintro e w1 ⟨g, rfl, hg, S1, b1⟩
  have C1 : Hid (DCtx w g A n cap bs [(w.heap.size, 0, 0)] w1) := ⟨S1, Nat.le_trans B0.size hg, B0.trans (b1.mono B0.size), fun v hv => by
    obtain rfl : v = (w.heap.size, 0, 0) := by simpa using hv
    exact ⟨V0.out.below b1, by have := V0.out.lt; show w.heap.size ≠ g; omega, Nat.le_refl _⟩⟩
  clear S1 b1 V0 B0 h0 hg
  go_wp2_with fail
  refine (HD.out g w1 C1.out.src).mono ?_
  rintro e w2 ⟨lo, hi, rfl, hnear, S2, K2⟩
  have C2 := C1.out.keep S2 K2
  have c0 := C2.c0 (r := w.heap.size) (x := 0) (y := 0) (by simp)
  have c1 := C2.c1 (r := w.heap.size) (x := 0) (y := 0) (by simp)
  have cf := C2.fr (r := w.heap.size) (x := 0) (y := 0) (by simp)
  have cl := C2.lt (r := w.heap.size) (x := 0) (y := 0) (by simp)
  have B2 := C2.below
  clear C1 C2 S2 K2
  go_wp2_with fail
  refine bodyPost_ret (v := ivV lo hi) (by simp [results, Try.results26, go_sem, c0, c1]) rfl ⟨lo, hi, rfl, near_fine hnear, by go_grown⟩

set_option maxRecDepth 100000 in
set_option maxHeartbeats 4000000 in
theorem drawAdd (A : Option Addr) (n cap : Nat) (bs : List Int) (w : World) (h : Rd w 0 w.heap.size A n (byts bs)) (hs : ∀ z ∈ bs, 0 ≤ z ∧ z ≤ 255) (hn : n ≤ 140737488355328) : Calls Try.prog 15 #[.slice A n cap] w (TwoEnd w fun a b c d => (Fine a ∧ Fine b) ∧ Fine c ∧ Fine d) := by
  go_enter Try.func15, Try.ntmps15
  go_wp2_with fail
  have V0 := Go.Lib.hid ((Var2.new (w := w) (x := 0) (y := 0) (t := 25)).below ((Below.refl _ _).alloc (Nat.le_refl _) (.cells #[.int .i64 0, .int .i64 0] 25)))
  have U0 := (Var2.new (w := w.alloc (.cells #[.int .i64 0, .int .i64 0] 25)) (x := 0) (y := 0) (t := 25))
  rw [World.size_alloc] at U0
  have U0 := Go.Lib.hid U0
  have B0 : Below w.heap.size w ((w.alloc (.cells #[.int .i64 0, .int .i64 0] 25)).alloc (.cells #[.int .i64 0, .int .i64 0] 25)) := by go_grown
  generalize (w.alloc (.cells #[.int .i64 0, .int .i64 0] 25)).alloc (.cells #[.int .i64 0, .int .i64 0] 25) = w0 at V0 U0 B0 ⊢
  have h0 := (h.below B0 (Nat.le_refl _)).mono (Nat.le_refl _) B0.size
  have HN := Go.Lib.hid (fun m g w' h' => next g A n cap bs m w' h')
  have HD := Go.Lib.hid (fun g w' h' => drawIv g A n cap bs w' h')
  refine (from_ A n cap bs w0 h0 hs hn).mono ?_
  rintro e w1 ⟨g, rfl, hg, S1, b1⟩
  have C1 : Hid (DCtx w g A n cap bs [(w.heap.size, 0, 0), (w.heap.size + 1, 0, 0)] w1) := ⟨S1, Nat.le_trans B0.size hg, B0.trans (b1.mono B0.size), fun v hv => by
    rcases List.mem_cons.1 hv with rfl | hv
    · exact ⟨V0.out.below b1, by have := V0.out.lt; show w.heap.size ≠ g; omega, Nat.le_refl _⟩
    · obtain rfl : v = (w.heap.size + 1, 0, 0) := by simpa using hv
      exact ⟨U0.out.below b1, by have := U0.out.lt; show w.heap.size + 1 ≠ g; omega, by show w.heap.size ≤ w.heap.size + 1; omega⟩⟩
  clear S1 b1 V0 B0 h0 hg U0
  go_wp2_with fail
  refine (HD.out g w1 C1.out.src).mono ?_
  rintro e w2 ⟨lo, hi, rfl, ⟨n1, n2, n3, n4⟩, S2, K2⟩
  have C2 := Go.Lib.hid ((C1.out.keep S2 K2).var (x := lo) (y := hi) 25)
  have q0 := C1.out.keep S2 K2
  have q1 := q0.lt (r := w.heap.size) (x := 0) (y := 0) (by simp)
  have q2 := q0.lt (r := w.heap.size + 1) (x := 0) (y := 0) (by simp)
  clear q0 S2 K2 C1
  go_wp2_with fail
  obtain ⟨q, hq⟩ : ∃ q, q = w2.heap.size := ⟨_, rfl⟩
  rw [← hq] at q1 q2 C2 ⊢
  generalize w2.alloc (.cells #[.int .i64 lo, .int .i64 hi] 25) = w3 at C2 ⊢
  clear hq
  have e0 := C2.out.c0 (r := q) (x := lo) (y := hi) (by simp)
  have e1 := C2.out.c1 (r := q) (x := lo) (y := hi) (by simp)
  go_region_held3 (fun w' => w'.cell? ⟨q, 0, none⟩ = some (.int .i64 lo) ∧ w'.cell? ⟨q, 1, none⟩ = some (.int .i64 hi))
    (first | exact ⟨C.out.c0 (r := q) (x := lo) (y := hi) (by simp), C.out.c1 (r := q) (x := lo) (y := hi) (by simp)⟩ | exact ⟨e0, e1⟩ | exact two_other (by assumption) (by omega) | go_keep)
    (first | (go_at_call 42; refine (HD.out g _ (by first | exact C.out.src | exact (C.out.drewN 1).src | exact (C2.out.drewN 1).src | exact C2.out.src)).mono ?_; rintro e w4 ⟨lo2, hi2, rfl, hnear2, S, K⟩; (first | have C := Go.Lib.hid (C.out.keep S K) | have C := Go.Lib.hid ((C.out.drewN 1).keep S K) | have C := Go.Lib.hid ((C2.out.drewN 1).keep S K) | have C := Go.Lib.hid (C2.out.keep S K)); have f0 := C.out.c0 (r := w.heap.size) (x := 0) (y := 0) (by simp); have f1 := C.out.c1 (r := w.heap.size) (x := 0) (y := 0) (by simp); have f2 := C.out.fr (r := w.heap.size) (x := 0) (y := 0) (by simp); have f3 := C.out.lt (r := w.heap.size) (x := 0) (y := 0) (by simp); have k0 := C.out.c0 (r := w.heap.size + 1) (x := 0) (y := 0) (by simp); have k1 := C.out.c1 (r := w.heap.size + 1) (x := 0) (y := 0) (by simp); have k2 := C.out.fr (r := w.heap.size + 1) (x := 0) (y := 0) (by simp); have k3 := C.out.lt (r := w.heap.size + 1) (x := 0) (y := 0) (by simp)))
  have B4 := C.out.below
  go_wp2_with fail
  refine bodyPost_ret (v := .tuple #[ivV lo hi, ivV lo2 hi2]) (by simp [results, Try.results15, go_sem, f0, f1, k0, k1]) rfl ⟨lo, hi, lo2, hi2, rfl, ⟨near_fine ⟨n1, n2, n3, n4⟩, near_fine hnear2⟩, by go_grown⟩

end Go.Proofs.Ytcknknicknolaaa
