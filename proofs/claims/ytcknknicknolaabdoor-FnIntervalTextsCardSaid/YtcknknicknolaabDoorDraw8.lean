/- The draws of the texts of intervals. -/
import Derived.Test.YtcknknicknolaabDoorDrawIv
import Derived.Test.YtcknknicknolaabDoorDraw7
import Derived.Test.YtcknknicknolaabDoorIvText
import Derived.Deep.RegionHeld3
namespace Go.Proofs.YtcknknicknolaabDoor
open Go.RowKit

/-- What a draw holds while it runs: its source, all that was there before, its own variables. -/
structure DCtx (w : World) (g : Nat) (A : Option Addr) (n cap : Nat) (bs : List Int) (rs : List (Nat × Int × Int)) (W : World) : Prop where
  src : Src W g A n cap bs
  ge : w.heap.size ≤ g
  below : Below w.heap.size w W
  vars : ∀ v ∈ rs, Var2 W v.1 v.2.1 v.2.2 ∧ v.1 ≠ g ∧ w.heap.size ≤ v.1
section
variable {w W W1 : World} {g : Nat} {A : Option Addr} {n cap : Nat} {bs : List Int} {rs : List (Nat × Int × Int)} {r : Nat} {x y : Int}
theorem DCtx.keep (h : DCtx w g A n cap bs rs W) (s : Src W1 g A n cap bs) (k : Keep g (g + 1) W W1) : DCtx w g A n cap bs rs W1 :=
  ⟨s, h.ge, h.below.trans (k.below h.ge h.below.size), fun v hv => by
    obtain ⟨a, b, c⟩ := h.vars v hv
    exact ⟨a.keep k (by omega), b, c⟩⟩
theorem DCtx.drewN (h : DCtx w g A n cap bs rs W) (m : Nat) : DCtx w g A n cap bs rs (W.drewN m) :=
  ⟨h.src.drewN m, h.ge, below_drewN h.below m, fun v hv => by
    obtain ⟨a, b, c⟩ := h.vars v hv
    exact ⟨a.drewN m, b, c⟩⟩
theorem DCtx.alloc (h : DCtx w g A n cap bs rs W) (o : Obj) : DCtx w g A n cap bs rs (W.alloc o) :=
  ⟨h.src.below ((Below.refl _ _).alloc (Nat.le_refl _) o), h.ge, h.below.alloc h.below.size o, fun v hv => by
    obtain ⟨a, b, c⟩ := h.vars v hv
    exact ⟨a.below ((Below.refl _ _).alloc (Nat.le_refl _) o), b, c⟩⟩
theorem DCtx.var (h : DCtx w g A n cap bs rs W) (t : TypeId) : DCtx w g A n cap bs ((W.heap.size, x, y) :: rs) (W.alloc (.cells #[.int .i64 x, .int .i64 y] t)) :=
  ⟨(h.alloc _).src, h.ge, (h.alloc _).below, fun v hv => by
    rcases List.mem_cons.1 hv with rfl | hv
    · exact ⟨Var2.new, by have := h.src.lt; show W.heap.size ≠ g; omega, h.below.size⟩
    · exact (h.alloc _).vars v hv⟩
theorem DCtx.c0 (h : DCtx w g A n cap bs rs W) (hm : (r, x, y) ∈ rs) : W.cell? ⟨r, 0, none⟩ = some (.int .i64 x) := (h.vars _ hm).1.c0
theorem DCtx.c1 (h : DCtx w g A n cap bs rs W) (hm : (r, x, y) ∈ rs) : W.cell? ⟨r, 1, none⟩ = some (.int .i64 y) := (h.vars _ hm).1.c1
theorem DCtx.fr (h : DCtx w g A n cap bs rs W) (hm : (r, x, y) ∈ rs) : ∀ j, W.frozen? ⟨r, j, none⟩ = false := (h.vars _ hm).1.fr
theorem DCtx.lt (h : DCtx w g A n cap bs rs W) (hm : (r, x, y) ∈ rs) : r < W.heap.size := (h.vars _ hm).1.lt
/-- A store into a variable of the draw's own (others than the one that is stored into stay known). -/
theorem DCtx.set (h : DCtx w g A n cap bs rs W) {rs' : List (Nat × Int × Int)} {q j : Nat} (z : Int) (hg : g < q) (hq : w.heap.size ≤ q) (hs : ∀ v ∈ rs', (v.1 ≠ q ∧ v ∈ rs) ∨ (v.1 = q ∧ Var2 (W.setCell ⟨q, j, none⟩ (.int .i64 z)) q v.2.1 v.2.2)) :
    DCtx w g A n cap bs rs' (W.setCell ⟨q, j, none⟩ (.int .i64 z)) := by
  refine ⟨h.src.other (p := ⟨q, j, none⟩) hg _, h.ge, h.below.setCell (p := ⟨q, j, none⟩) hq _, fun v hv => ?_⟩
  rcases hs v hv with ⟨h1, h2⟩ | ⟨h1, h2⟩
  · obtain ⟨a, b, c⟩ := h.vars v h2
    exact ⟨a.other (p := ⟨q, j, none⟩) (show q ≠ v.1 by omega) _, b, c⟩
  · rw [h1]
    exact ⟨h2, by omega, hq⟩
end
theorem two_other {W : World} {q r : Nat} {x y : Int} {u v : Value} (h : W.cell? ⟨q, 0, none⟩ = some (.int .i64 x) ∧ W.cell? ⟨q, 1, none⟩ = some (.int .i64 y)) (hr : r ≠ q) :
    ((W.setCell ⟨r, 0, none⟩ u).setCell ⟨r, 1, none⟩ v).cell? ⟨q, 0, none⟩ = some (.int .i64 x) ∧ ((W.setCell ⟨r, 0, none⟩ u).setCell ⟨r, 1, none⟩ v).cell? ⟨q, 1, none⟩ = some (.int .i64 y) := by
  refine ⟨?_, ?_⟩
  · rw [World.cell?_setCell_other _ _ _ _ (by simp <;> omega), World.cell?_setCell_other _ _ _ _ (by simp <;> omega)]; exact h.1
  · rw [World.cell?_setCell_other _ _ _ _ (by simp <;> omega), World.cell?_setCell_other _ _ _ _ (by simp <;> omega)]; exact h.2

def OneEnd (w : World) (p : Int → Int → Prop) (e : Ending) (w' : World) : Prop := ∃ lo hi : Int, e = .returned (ivV lo hi) ∧ p lo hi ∧ Below w.heap.size w w'

set_option maxRecDepth 100000 in
set_option maxHeartbeats 2000000 in
theorem drawIntervalText (A : Option Addr) (n cap : Nat) (bs : List Int) (w : World) (h : Rd w 0 w.heap.size A n (byts bs)) (hs : ∀ z ∈ bs, 0 ≤ z ∧ z ≤ 255) (hn : n ≤ 140737488355328) : Calls Tryd.prog 16 #[.slice A n cap] w (OneEnd w Near) := by
  go_enter Tryd.func16, Tryd.ntmps16
  go_wp2_with fail
  have V0 := Go.Lib.hid (Var2.new (w := w) (x := 0) (y := 0) (t := 31))
  have B0 := (Below.refl w.heap.size w).alloc (Nat.le_refl _) (.cells #[.int .i64 0, .int .i64 0] 31)
  generalize w.alloc (.cells #[.int .i64 0, .int .i64 0] 31) = w0 at V0 B0 ⊢
  have h0 := (h.below B0 (Nat.le_refl _)).mono (Nat.le_refl _) B0.size
  have HN := Go.Lib.hid (fun m g w' h' => next g A n cap bs m w' h')
  have HD := Go.Lib.hid (fun g w' h' => drawIv g A n cap bs w' h')
  refine (from_ A n cap bs w0 h0 hs hn).mono ?_
  rintro e w1 ⟨g, rfl, hg, S1, b1⟩
  have C1 : Hid (DCtx w g A n cap bs [(w.heap.size, 0, 0)] w1) := ⟨S1, Nat.le_trans B0.size hg, B0.trans (b1.mono B0.size), fun v hv => by
    obtain rfl : v = (w.heap.size, 0, 0) := by simpa using hv
    exact ⟨V0.out.below b1, by have := V0.out.lt; show w.heap.size ≠ g; omega, Nat.le_refl _⟩⟩
  clear S1 b1 V0 B0 h0 hg
  go_wp2_with fail
  refine (HD.out g w1 C1.out.src).mono ?_
  rintro e w2 ⟨lo, hi, rfl, hnear, S2, K2⟩
  have C2 := C1.out.keep S2 K2
  have c0 := C2.c0 (r := w.heap.size) (x := 0) (y := 0) (by simp)
  have c1 := C2.c1 (r := w.heap.size) (x := 0) (y := 0) (by simp)
  have cf := C2.fr (r := w.heap.size) (x := 0) (y := 0) (by simp)
  have cl := C2.lt (r := w.heap.size) (x := 0) (y := 0) (by simp)
  have B2 := C2.below
  clear C1 C2 S2 K2
  go_wp2_with fail
  refine bodyPost_ret (v := ivV lo hi) (by simp [results, Tryd.results16, go_sem, c0, c1]) rfl ⟨lo, hi, rfl, hnear, by go_grown⟩

theorem ivL_len (a b : Int) (h1 : -1000000000 ≤ a) (h2 : a ≤ 1000000000) (h3 : -1000000000 ≤ b) (h4 : b ≤ 1000000000) : (ivL a b).length ≤ 60 := by
  have la := itoa_len a (by omega) (by omega)
  have lb := itoa_len b (by omega) (by omega)
  unfold ivL
  split
  · omega
  · simp only [List.length_append, List.length_cons]; omega

set_option maxRecDepth 100000 in
set_option maxHeartbeats 2000000 in
theorem drawReadInterval (A : Option Addr) (n cap : Nat) (bs : List Int) (w : World) (h : Rd w 0 w.heap.size A n (byts bs)) (hs : ∀ z ∈ bs, 0 ≤ z ∧ z ≤ 255) (hn : n ≤ 140737488355328) :
    Calls Tryd.prog 19 #[.slice A n cap] w (StrEnd w 100) := by
  have HN := Go.Lib.hid (fun g m w' h' => next g A n cap bs m w' h')
  go_enter Tryd.func19, Tryd.ntmps19
  go_wp2_with fail
  refine (from_ A n cap bs w h hs hn).mono ?_
  rintro e w1 ⟨g, rfl, hg, hS1, hb1⟩
  have hgw : w.heap.size ≤ g := hg
  go_wp2_with fail
  refine (good g A n cap bs w1 hS1).mono ?_
  rintro e w4 ⟨lo, hi, rfl, ⟨q1, q2, q3⟩, hS4, hK4⟩
  have B4 := Go.Lib.hid (hb1.trans (hK4.below hg hb1.size))
  clear hK4 hb1 hS1
  go_wp2_with fail
  refine (specIvTextL lo hi w4 (by omega) (by omega) (by omega) (by omega)).mono ?_
  rintro e w5 ⟨rfl, b5⟩
  have hS5 := hS4.below b5
  have B5 := Go.Lib.hid (B4.out.trans (b5.mono B4.out.size))
  have hl := ivL_len lo hi (by omega) (by omega) (by omega) (by omega)
  generalize ivL lo hi = tl at hl ⊢
  obtain ⟨t, ht⟩ : ∃ t : ByteArray, t = ⟨tl.toArray⟩ := ⟨_, rfl⟩
  have hts : t.size ≤ 60 := by rw [ht]; show tl.length ≤ 60; exact hl
  rw [← ht]
  clear B4 hS4 b5 hl ht
  go_wp2_with fail
  refine (HN.out g 4 w5 hS5).mono ?_
  rintro e w6 ⟨r6, rfl, hr60, hr61, hS6, hK6⟩
  have B6 := Go.Lib.hid (B5.out.trans (hK6.below hgw B5.out.size))
  clear hK6 B5 hS5
  by_cases h0 : r6 = 0
  · subst h0
    go_wp2_with fail
    refine (damage g A n cap bs t w6 hS6 (by omega)).mono ?_
    rintro e w7 ⟨y, rfl, hy, hS7, hK7⟩
    go_wp2_with fail
    go_ret
    exact ⟨y, rfl, by omega, B6.out.trans (hK7.below hgw B6.out.size)⟩
  · by_cases h1 : r6 = 1
    · subst h1
      have HA := Go.Lib.hid (fun o => hS6.below ((Below.refl w6.heap.size w6).alloc (Nat.le_refl _) o))
      have HK := Go.Lib.hid (fun o => keepAlloc w6 g o)
      have hg6 := hS6.lt
      go_wp2_with fail
      refine (HN.out g 6 _ (HA.out _)).mono ?_
      rintro e w7 ⟨r7, rfl, hr70, hr71, hS7, hK7⟩
      obtain ⟨k, rfl, hk, hki0, hki1⟩ := idx6 hr70 hr71
      obtain ⟨y, hy, hysz⟩ := lit_at _ _ 6 rfl rfl hg6 hK7 k hk
      have hK := Go.Lib.hid ((HK.out _).trans hK7)
      clear hK7
      go_wp2_with fail
      go_ret
      exact ⟨y, rfl, by omega, B6.out.trans (hK.out.below hgw B6.out.size)⟩
    · have a0 : (r6 == 0) = false := by simpa using h0
      have a1 : (r6 == 1) = false := by simpa using h1
      go_wp2_with fail
      go_ret
      exact ⟨t, rfl, by omega, B6.out⟩

end Go.Proofs.YtcknknicknolaabDoor
