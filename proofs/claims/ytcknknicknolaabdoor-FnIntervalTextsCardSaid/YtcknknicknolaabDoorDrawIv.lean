/- The draws of intervals. -/
import Derived.Test.YtcknknicknolaabDoorDraw3
import Derived.Test.YtcknknicknolaabDoorIv2
namespace Go.Proofs.YtcknknicknolaabDoor
open Go.RowKit

/-- A variable of two cells in block r. -/
structure Var2 (w : World) (r : Nat) (x y : Int) : Prop where
  c0 : w.cell? ⟨r, 0, none⟩ = some (.int .i64 x)
  c1 : w.cell? ⟨r, 1, none⟩ = some (.int .i64 y)
  fr : ∀ j, w.frozen? ⟨r, j, none⟩ = false
  lt : r < w.heap.size
theorem Var2.new {w : World} {x y : Int} {t : TypeId} : Var2 (w.alloc (.cells #[.int .i64 x, .int .i64 y] t)) w.heap.size x y := by
  have hh := heap_alloc_new w (.cells #[.int .i64 x, .int .i64 y] t)
  refine ⟨by simp [go_sem], by simp [go_sem], fun j => ?_, by simp⟩
  simp only [World.frozen?, hh]
  simp
theorem Var2.keep {w w' : World} {r lo hi : Nat} {x y : Int} (h : Var2 w r x y) (k : Keep lo hi w w') (hr : r < lo ∨ hi ≤ r) : Var2 w' r x y := by
  have hb := k.block r h.lt hr
  refine ⟨(World.cell?_of_block hb).trans h.c0, (World.cell?_of_block hb).trans h.c1, fun j => ?_, Nat.lt_of_lt_of_le h.lt k.size⟩
  have := h.fr j
  simp only [World.frozen?] at this ⊢
  rw [hb]
  exact this
theorem Var2.below {w w' : World} {r : Nat} {x y : Int} (h : Var2 w r x y) (k : Below w.heap.size w w') : Var2 w' r x y :=
  h.keep (Keep.of_below k (Nat.le_refl _) w.heap.size w.heap.size) (.inl h.lt)
theorem Var2.drewN {w : World} {r : Nat} {x y : Int} (h : Var2 w r x y) (m : Nat) : Var2 (w.drewN m) r x y := ⟨h.c0, h.c1, h.fr, h.lt⟩
theorem Var2.set0 {w : World} {r : Nat} {x y : Int} (h : Var2 w r x y) (z : Int) : Var2 (w.setCell ⟨r, 0, none⟩ (.int .i64 z)) r z y := by
  refine ⟨World.cell?_setCell_same _ _ _ h.c0, ?_, fun j => ?_, by simpa [World.setCell] using h.lt⟩
  · rw [World.cell?_setCell_other _ _ _ _ (by simp)]; exact h.c1
  · rw [World.frozen?_setCell]; exact h.fr j
theorem Var2.set1 {w : World} {r : Nat} {x y : Int} (h : Var2 w r x y) (z : Int) : Var2 (w.setCell ⟨r, 1, none⟩ (.int .i64 z)) r x z := by
  refine ⟨?_, World.cell?_setCell_same _ _ _ h.c1, fun j => ?_, by simpa [World.setCell] using h.lt⟩
  · rw [World.cell?_setCell_other _ _ _ _ (by simp)]; exact h.c0
  · rw [World.frozen?_setCell]; exact h.fr j
theorem Var2.other {w : World} {r : Nat} {x y : Int} (h : Var2 w r x y) {p : Addr} (hp : p.block ≠ r) (u : Value) : Var2 (w.setCell p u) r x y :=
  h.keep (lo := p.block) (hi := p.block + 1) ((Keep.refl _ _ w).setCell (Nat.le_refl _) (Nat.lt_succ_self _) u) (by omega)
theorem Keep.setNew {w w' : World} {lo hi : Nat} (h : Keep lo hi w w') {p : Addr} (hp : w.heap.size ≤ p.block) (u : Value) : Keep lo hi w (w'.setCell p u) :=
  ⟨h.os, h.tape, h.output, by simpa [World.setCell] using h.size, fun k hk ho => (Below.heap_setCell _ _ _ _ (by omega)).trans (h.block k hk ho)⟩
theorem Src.other {w : World} {g : Nat} {A : Option Addr} {n cap : Nat} {bs : List Int} (h : Src w g A n cap bs) {p : Addr} (hp : g < p.block) (u : Value) : Src (w.setCell p u) g A n cap bs := by
  have hk : Keep p.block (p.block + 1) w (w.setCell p u) := (Keep.refl _ _ w).setCell (Nat.le_refl _) (Nat.lt_succ_self _) u
  have hb : ∀ k, k < w.heap.size → k ≤ g → (w.setCell p u).heap[k]? = w.heap[k]? := fun k h1 h2 => hk.block k h1 (.inl (by omega))
  have hc : ∀ j, (w.setCell p u).cell? ⟨g, j, none⟩ = w.cell? ⟨g, j, none⟩ := fun j => World.cell?_of_block (hb g h.lt (Nat.le_refl _))
  refine ⟨Nat.lt_of_lt_of_le h.lt hk.size, (hc 0).trans h.code, ?_, ?_, fun j => ?_, h.rd.of_blocks fun k _ q => hb k (by have := h.lt; omega) (by omega), h.small, h.many⟩
  · obtain ⟨k, hk, hp⟩ := h.place
    exact ⟨k, hk, (hc 1).trans hp⟩
  · obtain ⟨z, h0, h1, hp⟩ := h.seed
    exact ⟨z, h0, h1, (hc 2).trans hp⟩
  · have := h.free j
    simp only [World.frozen?] at this ⊢
    rw [hb g h.lt (Nat.le_refl _)]
    exact this

/-- What a draw of an interval hands back. -/
def IvEnd (w : World) (g : Nat) (A : Option Addr) (n cap : Nat) (bs : List Int) (p : Int → Int → Prop) (e : Ending) (w' : World) : Prop :=
  ∃ lo hi : Int, e = .returned (ivV lo hi) ∧ p lo hi ∧ Src w' g A n cap bs ∧ Keep g (g + 1) w w'
def Good (lo hi : Int) : Prop := -1000000000 ≤ lo ∧ lo ≤ hi ∧ hi ≤ 1000000000
def Near (lo hi : Int) : Prop := -1000000001 ≤ lo ∧ lo ≤ 1000000001 ∧ -1000000001 ≤ hi ∧ hi ≤ 1000000001

set_option maxRecDepth 100000 in
set_option maxHeartbeats 2000000 in
theorem good (g : Nat) (A : Option Addr) (n cap : Nat) (bs : List Int) (w : World) (h : Src w g A n cap bs) : Calls Tryd.prog 56 #[.pointer (some ⟨g, 0, none⟩)] w (IvEnd w g A n cap bs Good) := by
  have HN := Go.Lib.hid (fun m w' h' => next g A n cap bs m w' h')
  have hg := h.lt
  go_enter Tryd.func56, Tryd.ntmps56
  go_wp2_with fail
  have V0 := Go.Lib.hid (Var2.new (w := w) (x := 0) (y := 0) (t := 31))
  have S0 := h.below ((Below.refl w.heap.size w).alloc (Nat.le_refl _) (.cells #[.int .i64 0, .int .i64 0] 31))
  have K0 := keepAlloc w g (.cells #[.int .i64 0, .int .i64 0] 31)
  generalize w.alloc (.cells #[.int .i64 0, .int .i64 0] 31) = w0 at V0 S0 K0 ⊢
  refine (HN.out 2001 w0 S0).mono ?_
  rintro e w1 ⟨r1, rfl, p1, q1, S1, K1⟩
  go_wp2_with fail
  refine (HN.out 60001 w1 S1).mono ?_
  rintro e w2 ⟨r2, rfl, p2, q2, S2, K2⟩
  go_wp2_with fail
  refine (HN.out 41 w2 S2).mono ?_
  rintro e w3 ⟨r3, rfl, p3, q3, S3, K3⟩
  go_wp2_with fail
  refine (pickNew g A n cap bs w3 S3 [r1 - 1000, r2 - 30000, r3 - 20] 3 rfl (by omega) (by omega) (fun x => -30000 ≤ x ∧ x ≤ 30001) (fun x hx => by
      simp only [List.mem_cons, List.not_mem_nil, or_false] at hx
      omega) rfl).mono ?_
  rintro e w4 ⟨lo, rfl, lop, S4, K4⟩
  obtain ⟨lol, loh⟩ := lop
  go_wp2_with fail
  refine (HN.out 200 w4 S4).mono ?_
  rintro e w5 ⟨r5, rfl, p5, q5, S5, K5⟩
  go_wp2_with fail
  refine (HN.out 5000 w5 S5).mono ?_
  rintro e w6 ⟨r6, rfl, p6, q6, S6, K6⟩
  go_wp2_with fail
  refine (pickNew g A n cap bs w6 S6 [0, r5, r6] 3 rfl (by omega) (by omega) (fun x => 0 ≤ x ∧ x ≤ 5000) (fun x hx => by
      simp only [List.mem_cons, List.not_mem_nil, or_false] at hx
      omega) rfl).mono ?_
  rintro e w7 ⟨d, rfl, dp, S7, K7⟩
  obtain ⟨dl, dh⟩ := dp
  have K07 := Go.Lib.hid (((((((K0.trans K1).trans K2).trans K3).trans K4).trans K5).trans K6).trans K7)
  have V07 := Go.Lib.hid (V0.out.keep ((((((K1.trans K2).trans K3).trans K4).trans K5).trans K6).trans K7) (.inr (by omega)))
  have z7 : w.heap.size < w7.heap.size := V07.out.lt
  clear K0 K1 K2 K3 K4 K5 K6 K7 V0
  go_wp2_with fail
  have V8 := Go.Lib.hid (Var2.new (w := w7) (x := lo) (y := (lo + d)) (t := 31))
  have S8 := S7.below ((Below.refl w7.heap.size w7).alloc (Nat.le_refl _) (.cells #[.int .i64 lo, .int .i64 (lo + d)] 31))
  have K8 := keepAlloc w7 g (.cells #[.int .i64 lo, .int .i64 (lo + d)] 31)
  generalize w7.alloc (.cells #[.int .i64 lo, .int .i64 (lo + d)] 31) = w8 at V8 S8 K8 ⊢
  refine (HN.out 20 w8 S8).mono ?_
  rintro e w9 ⟨r9, rfl, p9, q9, S9, K9⟩
  have K09 := Go.Lib.hid ((K07.out.trans K8).trans K9)
  have V09 := Go.Lib.hid ((V07.out.keep K8 (.inr (by omega))).keep K9 (.inr (by omega)))
  have W09 := Go.Lib.hid (V8.out.keep K9 (.inr (by omega)))
  clear K8 K9 V8 K07 V07
  by_cases h9 : r9 = 0
  · subst h9
    go_wp2_with fail
    refine (HN.out 1000000001 w9 S9).mono ?_
    rintro e w10 ⟨r10, rfl, p10, q10, S10, K10⟩
    go_wp2_with fail
    refine (HN.out 1000000001 w10 S10).mono ?_
    rintro e w11 ⟨r11, rfl, p11, q11, S11, K11⟩
    have V := V09.out.keep (K10.trans K11) (.inr (by omega))
    obtain ⟨c0, c1, cf, cl⟩ := V
    have K := Go.Lib.hid ((K09.out.trans K10).trans K11)
    clear K10 K11
    go_wp2_with fail
    refine bodyPost_ret (v := ivV (-r10) r11) (by simp [results, Tryd.results56, go_sem, c0, c1, cl]) rfl ⟨-r10, r11, rfl, ⟨by omega, by omega, by omega⟩, ?_, ?_⟩
    · exact (S11.other (p := ⟨w.heap.size, 0, none⟩) hg _).other (p := ⟨w.heap.size, 1, none⟩) hg _
    · exact (K.out.setNew (p := ⟨w.heap.size, 0, none⟩) (Nat.le_refl _) _).setNew (p := ⟨w.heap.size, 1, none⟩) (Nat.le_refl _) _
  · have h9b : (r9 == 0) = false := by simpa using h9
    obtain ⟨c0, c1, cf, cl⟩ := V09.out
    obtain ⟨d0, d1, df, dl⟩ := W09.out
    go_wp2_with fail
    refine bodyPost_ret (v := ivV lo (lo + d)) (by simp [results, Tryd.results56, go_sem, c0, c1, cl]) rfl ⟨lo, lo + d, rfl, ⟨by omega, by omega, by omega⟩, ?_, ?_⟩
    · exact (S9.other (p := ⟨w.heap.size, 0, none⟩) hg _).other (p := ⟨w.heap.size, 1, none⟩) hg _
    · exact (K09.out.setNew (p := ⟨w.heap.size, 0, none⟩) (Nat.le_refl _) _).setNew (p := ⟨w.heap.size, 1, none⟩) (Nat.le_refl _) _

set_option maxRecDepth 100000 in
set_option maxHeartbeats 2000000 in
theorem drawIv (g : Nat) (A : Option Addr) (n cap : Nat) (bs : List Int) (w : World) (h : Src w g A n cap bs) : Calls Tryd.prog 51 #[.pointer (some ⟨g, 0, none⟩)] w (IvEnd w g A n cap bs Near) := by
  have HN := Go.Lib.hid (fun m w' h' => next g A n cap bs m w' h')
  have hg := h.lt
  go_enter Tryd.func51, Tryd.ntmps51
  go_wp2_with fail
  have V0 := Go.Lib.hid (Var2.new (w := w) (x := 0) (y := 0) (t := 31))
  have S0 := h.below ((Below.refl w.heap.size w).alloc (Nat.le_refl _) (.cells #[.int .i64 0, .int .i64 0] 31))
  have K0 := keepAlloc w g (.cells #[.int .i64 0, .int .i64 0] 31)
  generalize w.alloc (.cells #[.int .i64 0, .int .i64 0] 31) = w0 at V0 S0 K0 ⊢
  refine (good g A n cap bs w0 S0).mono ?_
  rintro e w1 ⟨lo, hi, rfl, ⟨gl, gm, gh⟩, S1, K1⟩
  have V01 := Go.Lib.hid (V0.out.keep K1 (.inr (by omega)))
  have K01 := Go.Lib.hid (K0.trans K1)
  have z1 : w.heap.size < w1.heap.size := V01.out.lt
  clear K0 K1 V0
  go_wp2_with fail
  have B2 := Go.Lib.hid (Var2.new (w := w1) (x := lo) (y := hi) (t := 31))
  have S2 := S1.below ((Below.refl w1.heap.size w1).alloc (Nat.le_refl _) (.cells #[.int .i64 lo, .int .i64 hi] 31))
  have K2 := keepAlloc w1 g (.cells #[.int .i64 lo, .int .i64 hi] 31)
  generalize w1.alloc (.cells #[.int .i64 lo, .int .i64 hi] 31) = w2 at B2 S2 K2 ⊢
  refine (HN.out 30 w2 S2).mono ?_
  rintro e w3 ⟨r3, rfl, p3, q3, S3, K3⟩
  have K03 := Go.Lib.hid ((K01.out.trans K2).trans K3)
  have V03 := Go.Lib.hid ((V01.out.keep K2 (.inr (by omega))).keep K3 (.inr (by omega)))
  have B3 := Go.Lib.hid (B2.out.keep K3 (.inr (by omega)))
  clear K2 K3 B2 K01 V01
  by_cases h0 : r3 = 0
  · subst h0
    have zq : w1.heap.size ≠ w.heap.size := by omega
    have V9 := Go.Lib.hid (V03.out.other (p := ⟨w1.heap.size, 1, none⟩) (show w1.heap.size ≠ w.heap.size by omega) (.int .i64 (lo - 1)))
    have B9 := Go.Lib.hid (B3.out.set1 (lo - 1))
    have S9 := S3.other (p := ⟨w1.heap.size, 1, none⟩) (show g < w1.heap.size by omega) (.int .i64 (lo - 1))
    have K9 := Go.Lib.hid (K03.out.setNew (p := ⟨w1.heap.size, 1, none⟩) (show w.heap.size ≤ w1.heap.size by omega) (.int .i64 (lo - 1)))
    obtain ⟨e0, e1, ef, el⟩ := B3.out
    obtain ⟨c0, c1, cf, cl⟩ := V03.out
    go_wp2_with fail
    refine bodyPost_ret (v := ivV (lo) (lo - 1)) (by simp [results, Tryd.results51, go_sem, c0, c1, cl, e0, e1, el]) rfl ⟨lo, lo - 1, rfl, ⟨by omega, by omega, by omega, by omega⟩, ?_, ?_⟩
    · exact (S9.other (p := ⟨w.heap.size, 0, none⟩) hg _).other (p := ⟨w.heap.size, 1, none⟩) hg _
    · exact (K9.out.setNew (p := ⟨w.heap.size, 0, none⟩) (Nat.le_refl _) _).setNew (p := ⟨w.heap.size, 1, none⟩) (Nat.le_refl _) _
  · by_cases h1 : r3 = 1
    · subst h1
      have zq : w1.heap.size ≠ w.heap.size := by omega
      go_wp2_with fail
      refine (pickNew g A n cap bs w3 S3 [1000000000, 1000000001] 2 rfl (by omega) (by omega) (fun x => 1000000000 ≤ x ∧ x ≤ 1000000001) (fun x hx => by
          simp only [List.mem_cons, List.not_mem_nil, or_false] at hx
          omega) rfl).mono ?_
      rintro e w4 ⟨v, rfl, vp, S4, K4⟩
      obtain ⟨vl, vh⟩ := vp
      have V4 := Go.Lib.hid (V03.out.keep K4 (.inr (by omega)))
      have B4 := Go.Lib.hid (B3.out.keep K4 (.inr (by omega)))
      have K04 := Go.Lib.hid (K03.out.trans K4)
      clear K4 V03 B3 K03
      have V9 := Go.Lib.hid (V4.out.other (p := ⟨w1.heap.size, 1, none⟩) (show w1.heap.size ≠ w.heap.size by omega) (.int .i64 (v)))
      have B9 := Go.Lib.hid (B4.out.set1 (v))
      have S9 := S4.other (p := ⟨w1.heap.size, 1, none⟩) (show g < w1.heap.size by omega) (.int .i64 (v))
      have K9 := Go.Lib.hid (K04.out.setNew (p := ⟨w1.heap.size, 1, none⟩) (show w.heap.size ≤ w1.heap.size by omega) (.int .i64 (v)))
      obtain ⟨e0, e1, ef, el⟩ := B4.out
      obtain ⟨c0, c1, cf, cl⟩ := V4.out
      go_wp2_with fail
      refine bodyPost_ret (v := ivV (lo) (v)) (by simp [results, Tryd.results51, go_sem, c0, c1, cl, e0, e1, el]) rfl ⟨lo, v, rfl, ⟨by omega, by omega, by omega, by omega⟩, ?_, ?_⟩
      · exact (S9.other (p := ⟨w.heap.size, 0, none⟩) hg _).other (p := ⟨w.heap.size, 1, none⟩) hg _
      · exact (K9.out.setNew (p := ⟨w.heap.size, 0, none⟩) (Nat.le_refl _) _).setNew (p := ⟨w.heap.size, 1, none⟩) (Nat.le_refl _) _
    · by_cases h2 : r3 = 2
      · subst h2
        have zq : w1.heap.size ≠ w.heap.size := by omega
        go_wp2_with fail
        refine (pickNew g A n cap bs w3 S3 [-1000000000, -1000000001] 2 rfl (by omega) (by omega) (fun x => -1000000001 ≤ x ∧ x ≤ -1000000000) (fun x hx => by
            simp only [List.mem_cons, List.not_mem_nil, or_false] at hx
            omega) rfl).mono ?_
        rintro e w4 ⟨v, rfl, vp, S4, K4⟩
        obtain ⟨vl, vh⟩ := vp
        have V4 := Go.Lib.hid (V03.out.keep K4 (.inr (by omega)))
        have B4 := Go.Lib.hid (B3.out.keep K4 (.inr (by omega)))
        have K04 := Go.Lib.hid (K03.out.trans K4)
        clear K4 V03 B3 K03
        have V9 := Go.Lib.hid (V4.out.other (p := ⟨w1.heap.size, 0, none⟩) (show w1.heap.size ≠ w.heap.size by omega) (.int .i64 (v)))
        have B9 := Go.Lib.hid (B4.out.set0 (v))
        have S9 := S4.other (p := ⟨w1.heap.size, 0, none⟩) (show g < w1.heap.size by omega) (.int .i64 (v))
        have K9 := Go.Lib.hid (K04.out.setNew (p := ⟨w1.heap.size, 0, none⟩) (show w.heap.size ≤ w1.heap.size by omega) (.int .i64 (v)))
        obtain ⟨e0, e1, ef, el⟩ := B4.out
        obtain ⟨c0, c1, cf, cl⟩ := V4.out
        go_wp2_with fail
        refine bodyPost_ret (v := ivV (v) (hi)) (by simp [results, Tryd.results51, go_sem, c0, c1, cl, e0, e1, el]) rfl ⟨v, hi, rfl, ⟨by omega, by omega, by omega, by omega⟩, ?_, ?_⟩
        · exact (S9.other (p := ⟨w.heap.size, 0, none⟩) hg _).other (p := ⟨w.heap.size, 1, none⟩) hg _
        · exact (K9.out.setNew (p := ⟨w.heap.size, 0, none⟩) (Nat.le_refl _) _).setNew (p := ⟨w.heap.size, 1, none⟩) (Nat.le_refl _) _
      · have h0b : (r3 == 0) = false := by simpa using h0
        have h1b : (r3 == 1) = false := by simpa using h1
        have h2b : (r3 == 2) = false := by simpa using h2
        obtain ⟨e0, e1, ef, el⟩ := B3.out
        obtain ⟨c0, c1, cf, cl⟩ := V03.out
        go_wp2_with fail
        refine bodyPost_ret (v := ivV lo hi) (by simp [results, Tryd.results51, go_sem, c0, c1, cl]) rfl ⟨lo, hi, rfl, ⟨by omega, by omega, by omega, by omega⟩, ?_, ?_⟩
        · exact (S3.other (p := ⟨w.heap.size, 0, none⟩) hg _).other (p := ⟨w.heap.size, 1, none⟩) hg _
        · exact (K03.out.setNew (p := ⟨w.heap.size, 0, none⟩) (Nat.le_refl _) _).setNew (p := ⟨w.heap.size, 1, none⟩) (Nat.le_refl _) _

end Go.Proofs.YtcknknicknolaabDoor
