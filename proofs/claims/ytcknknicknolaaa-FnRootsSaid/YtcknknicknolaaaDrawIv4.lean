/- The whole draw of an interval for a root. -/
import Derived.Test.YtcknknicknolaaaDrawIv2
namespace Go.Proofs.Ytcknknicknolaaa
open Go.RowKit
theorem absNeg (x : Int) (w : World) (h0 : x < 0) (h1 : -3000000000 ≤ x) : Calls Try.prog 52 #[.int .i64 x] w fun e w' => e = .returned (.int .i64 (-x)) ∧ w = w' := by
  go_enter Try.func52, Try.ntmps52
  go_wp2_with fail
  go_ret
  exact ⟨rfl, rfl⟩

set_option maxRecDepth 100000 in
set_option maxHeartbeats 4000000 in
theorem drawRoot (A : Option Addr) (n cap : Nat) (bs : List Int) (w : World) (h : Rd w 0 w.heap.size A n (byts bs)) (hs : ∀ z ∈ bs, 0 ≤ z ∧ z ≤ 255) (hn : n ≤ 140737488355328) : Calls Try.prog 29 #[.slice A n cap] w (OneEnd w fun a b => Fine a ∧ Fine b) := by
  go_enter Try.func29, Try.ntmps29
  go_wp2_with fail
  have V0 := Go.Lib.hid (Var2.new (w := w) (x := 0) (y := 0) (t := 25))
  have B0 := (Below.refl w.heap.size w).alloc (Nat.le_refl _) (.cells #[.int .i64 0, .int .i64 0] 25)
  generalize w.alloc (.cells #[.int .i64 0, .int .i64 0] 25) = w0 at V0 B0 ⊢
  have h0 := (h.below B0 (Nat.le_refl _)).mono (Nat.le_refl _) B0.size
  have HN := Go.Lib.hid (fun m g w' h' => next g A n cap bs m w' h')
  have HD := Go.Lib.hid (fun g w' h' => drawIv g A n cap bs w' h')
  refine (from_ A n cap bs w0 h0 hs hn).mono ?_
  rintro e w1 ⟨g, rfl, hg, S1, b1⟩
  have C1 : Hid (DCtx w g A n cap bs [(w.heap.size, 0, 0)] w1) := ⟨S1, Nat.le_trans B0.size hg, B0.trans (b1.mono B0.size), fun v hv => by
    obtain rfl : v = (w.heap.size, 0, 0) := by simpa using hv
    exact ⟨V0.out.below b1, by have := V0.out.lt; show w.heap.size ≠ g; omega, Nat.le_refl _⟩⟩
  clear S1 b1 V0 B0 h0 hg
  go_wp2_with fail
  refine (HD.out g w1 C1.out.src).mono ?_
  rintro e w2 ⟨lo, hi, rfl, ⟨n1, n2, n3, n4⟩, S2, K2⟩
  have C2 := Go.Lib.hid ((C1.out.keep S2 K2).var (x := lo) (y := hi) 25)
  have q0 := C1.out.keep S2 K2
  have q1 := q0.lt (r := w.heap.size) (x := 0) (y := 0) (by simp)
  have f0 := q0.c0 (r := w.heap.size) (x := 0) (y := 0) (by simp)
  have f1 := q0.c1 (r := w.heap.size) (x := 0) (y := 0) (by simp)
  have f2 := q0.fr (r := w.heap.size) (x := 0) (y := 0) (by simp)
  have B2 := q0.below
  have F2 := Go.Lib.hid (And.intro f0 (And.intro f1 (And.intro f2 B2)))
  clear f0 f1 f2 B2 q0 S2 K2 C1
  by_cases hneg : lo < 0
  · clear F2
    go_wp2_with fail
    obtain ⟨q, hq⟩ : ∃ q, q = w2.heap.size := ⟨_, rfl⟩
    rw [← hq] at q1 C2 ⊢
    generalize w2.alloc (.cells #[.int .i64 lo, .int .i64 hi] 25) = w3 at C2 ⊢
    clear hq
    have e0 := C2.out.c0 (r := q) (x := lo) (y := hi) (by simp)
    refine (HN.out 6 g w3 C2.out.src).mono ?_
    rintro e w5 ⟨x6, rfl, x6l, x6h, S5, K5⟩
    have C5 := Go.Lib.hid (C2.out.keep S5 K5)
    clear S5 K5 e0 C2
    by_cases h6 : 0 < x6
    · have e0 := C5.out.c0 (r := q) (x := lo) (y := hi) (by simp)
      have e1 := C5.out.c1 (r := q) (x := lo) (y := hi) (by simp)
      go_wp2_with fail
      go_region_held3 (fun w' => w'.cell? ⟨q, 0, none⟩ = some (.int .i64 lo) ∧ w'.cell? ⟨q, 1, none⟩ = some (.int .i64 hi))
        (first | exact ⟨C.out.c0 (r := q) (x := lo) (y := hi) (by simp), C.out.c1 (r := q) (x := lo) (y := hi) (by simp)⟩ | exact ⟨e0, e1⟩ | assumption | exact two_other (by assumption) (by omega) | go_keep)
        (first | (go_at_call 52; refine (absNeg lo _ hneg (by omega)).mono ?_; rintro e w' ⟨rfl, rfl⟩) | (go_at_call 48; refine (HN.out _ g _ (by first | exact C.out.src | exact (C.out.drewN 1).src | exact (C5.out.drewN 1).src | exact C5.out.src)).mono ?_; rintro e w4 ⟨va, rfl, val, vah, S, K⟩; (first | have C := Go.Lib.hid (C.out.keep S K) | have C := Go.Lib.hid ((C.out.drewN 1).keep S K) | have C := Go.Lib.hid ((C5.out.drewN 1).keep S K) | have C := Go.Lib.hid (C5.out.keep S K)); have f0 := C.out.c0 (r := w.heap.size) (x := 0) (y := 0) (by simp); have f1 := C.out.c1 (r := w.heap.size) (x := 0) (y := 0) (by simp); have f2 := C.out.fr (r := w.heap.size) (x := 0) (y := 0) (by simp); have f3 := C.out.lt (r := w.heap.size) (x := 0) (y := 0) (by simp)))
      have B4 := C.out.below
      go_wp2_with fail
      refine bodyPost_ret (v := ivV (IntKind.i64.wrap (-lo)) (IntKind.i64.wrap (-lo + va))) (by simp [results, Try.results29, go_sem, f0, f1]) rfl ⟨_, _, rfl, ?_, by go_grown⟩
      rw [IntWalk.i64_in (-lo) (by omega), IntWalk.i64_in (-lo + va) (by omega)]
      unfold Fine
      omega
    · have e0 := C5.out.c0 (r := q) (x := lo) (y := hi) (by simp)
      have e1 := C5.out.c1 (r := q) (x := lo) (y := hi) (by simp)
      have f0 := C5.out.c0 (r := w.heap.size) (x := 0) (y := 0) (by simp)
      have f1 := C5.out.c1 (r := w.heap.size) (x := 0) (y := 0) (by simp)
      have f2 := C5.out.fr (r := w.heap.size) (x := 0) (y := 0) (by simp)
      have f3 := C5.out.lt (r := w.heap.size) (x := 0) (y := 0) (by simp)
      have B4 := C5.out.below
      go_wp2_with fail
      refine bodyPost_ret (v := ivV lo hi) (by simp [results, Try.results29, go_sem, f0, f1]) rfl ⟨lo, hi, rfl, near_fine ⟨n1, n2, n3, n4⟩, by go_grown⟩
  · clear C2
    obtain ⟨f0, f1, f2, B2⟩ := F2.out
    have hne : w.heap.size ≠ w2.heap.size := by omega
    go_wp2_with fail
    refine bodyPost_ret (v := ivV lo hi) (by simp [results, Try.results29, go_sem, f0, f1, q1]) rfl ⟨lo, hi, rfl, near_fine ⟨n1, n2, n3, n4⟩, by go_grown⟩

end Go.Proofs.Ytcknknicknolaaa
