/- Draws of chapter 5 with a stock: DrawChooseSpoke. -/
import Derived.Test.YtifblmcocikopabDrawStock
namespace Go.Proofs.Ytifblmcocikopab
open Go.RowKit

/-- A stock of m lengths in block q, made behind w, and the source. -/
structure StIs (w : World) (g : Nat) (A : Option Addr) (n cap : Nat) (bs : List Int) (ys : List Int) (m q c2 : Nat) (W : World) : Prop where
  ow : Ow W w.heap.size W.heap.size 2 (some ⟨q, 0, none⟩) m c2 (ints ys)
  src : Src W g A n cap bs
  kp : Keep g (g + 1) w W
  gl : g < w.heap.size
section
variable {w W W1 : World} {g n cap m q c2 : Nat} {A : Option Addr} {bs ys : List Int}
theorem StIs.keep (h : StIs w g A n cap bs ys m q c2 W) (hS : Src W1 g A n cap bs) (hK : Keep g (g + 1) W W1) : StIs w g A n cap bs ys m q c2 W1 := by
  have ho1 := h.ow.keep hK (Nat.le_refl _) (.inr h.gl)
  exact ⟨⟨ho1.1, fun j hj => Nat.lt_of_lt_of_le (ho1.2 j hj) hK.size⟩, hS, h.kp.trans hK, h.gl⟩
theorem StIs.drewN (h : StIs w g A n cap bs ys m q c2 W) (x : Nat) : StIs w g A n cap bs ys m q c2 (W.drewN x) := ⟨h.ow.drewN x, h.src.drewN x, h.kp.drewN x, h.gl⟩
theorem StIs.drew (h : StIs w g A n cap bs ys m q c2 W) : StIs w g A n cap bs ys m q c2 W.drew := h.drewN 1
theorem StIs.cells (h : StIs w g A n cap bs ys m q c2 W) : ∀ k : Nat, k < m → W.cell? ⟨q, k, none⟩ = some (.int .i64 (ys.getD k 0)) := fun k hk => by
  have hl : ys.length = m := by have := h.ow.len; rwa [ints_len] at this
  exact (h.ow.cell hk).trans (ints_at ys k (by omega))
end
theorem below_of {M v : Int} (h : 0 < M) (k : v < M ∨ v = 0) : v < M := by omega
def GotLN (w : World) (e : Ending) (w' : World) : Prop :=
  ∃ (zs : List Int) (A : Option Addr) (c2 : Nat) (z : Int), e = .returned (.tuple #[.slice A zs.length c2, .int .i64 z]) ∧ Ow w' w.heap.size w'.heap.size 2 A zs.length c2 (ints zs) ∧ zs.length ≤ 40 ∧ Below w.heap.size w w'
theorem StIs.done {w0 w W : World} {g n cap m q c2 : Nat} {A : Option Addr} {bs ys : List Int} (h : StIs w g A n cap bs ys m q c2 W) (hm : m ≤ 40) (hb : Below w0.heap.size w0 w) (hg : w0.heap.size ≤ g) (z : Int) :
    GotLN w0 (.returned (.tuple #[.slice (some ⟨q, 0, none⟩) m c2, .int .i64 z])) W := by
  have hl : ys.length = m := by have := h.ow.len; rwa [ints_len] at this
  subst hl
  exact ⟨ys, _, c2, z, rfl, h.ow.lower (hb.size), hm, hb.trans (h.kp.below hg hb.size)⟩

set_option maxRecDepth 100000 in
set_option maxHeartbeats 4000000 in
theorem drawChooseSpoke (A : Option Addr) (n cap : Nat) (bs : List Int) (w : World) (h : Rd w 0 w.heap.size A n (byts bs)) (hs : ∀ z ∈ bs, 0 ≤ z ∧ z ≤ 255) (hn : n ≤ 140737488355328) : Calls Try.prog 7 #[.slice A n cap] w (GotLN w) := by
  go_enter Try.func7, Try.ntmps7
  go_wp2_with fail
  refine (from_ A n cap bs w h hs hn).mono ?_
  rintro _ W1 ⟨g, rfl, hg, S1, b1⟩
  have hgl := S1.lt
  go_wp2_with fail
  refine (drawStock g A n cap bs W1 S1).mono ?_
  rintro _ W2 ⟨ys, q, c2, rfl, ho, hm, S2, k2⟩
  obtain ⟨m, hm2⟩ : ∃ m, m = ys.length := ⟨_, rfl⟩
  rw [← hm2] at ho hm ⊢
  have C := Go.Lib.hid (StIs.mk (w := W1) ho S2 k2 hgl)
  have B1 := Go.Lib.hid b1
  clear ho S2 k2 hm2 b1 S1 h hs hn
  have HN := Go.Lib.hid (fun m w' h' => next g A n cap bs m w' h')
  have hg0 := Go.Lib.hid hg
  clear hg hgl
  by_cases h0 : m = 0
  · subst h0
    go_wp2_with fail
    have C := Go.Lib.hid (C.out.drewN 0)
    refine (HN.out 5001 _ C.out.src).mono ?_
    rintro e w6 ⟨r6, rfl, r60, r61, hS6, hK6⟩
    have C := Go.Lib.hid (C.out.keep hS6 hK6)
    clear hK6 hS6
    go_wp2_with fail
    refine (pickNew g A n cap bs w6 C.out.src [r6, 5000, 5001, -1, 2600] 5 rfl (by omega) (by omega) (fun _ => True) (fun _ _ => trivial) rfl).mono ?_
    rintro e w7 ⟨z, rfl, -, hS7, hK7⟩
    have C := Go.Lib.hid (C.out.keep hS7 hK7)
    clear hK7 hS7
    go_wp2_with fail
    go_ret2
    exact C.out.done hm B1.out hg0.out z
  · have hpos : (0 : Int) < (m : Int) := by omega
    go_wp2_with fail
    refine (HN.out 2 _ C.out.src).mono ?_
    rintro e w3 ⟨r, rfl, r0, r1, hS, hK⟩
    have C3 := Go.Lib.hid (C.out.keep hS hK)
    clear hK hS C
    by_cases hr : r = 0
    · subst hr
      go_wp2_with fail
      have C := C3
      clear C3
      have e0 := C.out.cells
      have hm1 : 0 < m := by omega
      go_region_held3 (fun w' => ∀ k : Nat, k < m → w'.cell? ⟨q, k, none⟩ = some (.int .i64 (ys.getD k 0)))
        (first | with_reducible exact C.out.cells | with_reducible exact C.out.drew.cells | with_reducible exact (C.out.drewN 1).cells)
        (first | (go_at_call 24; refine (HN.out _ _ (by first | exact C.out.src | exact (C.out.drewN 1).src)).mono ?_; rintro e w6 ⟨va, rfl, val, vah, S, K⟩; obtain ⟨va, rfl⟩ := Int.eq_ofNat_of_zero_le val; (first | (have vi := below_of hpos vah; have vn := Int.ofNat_lt.1 vi) | skip); (first | have C := Go.Lib.hid (C.out.keep S K) | have C := Go.Lib.hid ((C.out.drewN 1).keep S K)); clear S K))
      go_wp2_with fail
      go_ret2
      exact C.out.done hm B1.out hg0.out _
    · have hrb : (r == 0) = false := by simpa using hr
      go_wp2_with fail
      have C := C3
      clear C3
      have C := Go.Lib.hid (C.out.drewN 0)
      refine (HN.out 5001 _ C.out.src).mono ?_
      rintro e w6 ⟨r6, rfl, r60, r61, hS6, hK6⟩
      have C := Go.Lib.hid (C.out.keep hS6 hK6)
      clear hK6 hS6
      go_wp2_with fail
      refine (pickNew g A n cap bs w6 C.out.src [r6, 5000, 5001, -1, 2600] 5 rfl (by omega) (by omega) (fun _ => True) (fun _ _ => trivial) rfl).mono ?_
      rintro e w7 ⟨z, rfl, -, hS7, hK7⟩
      have C := Go.Lib.hid (C.out.keep hS7 hK7)
      clear hK7 hS7
      go_wp2_with fail
      go_ret2
      exact C.out.done hm B1.out hg0.out z
end Go.Proofs.Ytifblmcocikopab
