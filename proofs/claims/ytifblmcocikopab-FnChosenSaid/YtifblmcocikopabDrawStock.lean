/- The draw of a stock of spokes. -/
import Derived.Test.YtifblmcocikopabDraw3
import Derived.Test.YtifblmcocikopabInts
import Derived.Deep.AppendLies
import Derived.Deep.RegionHeld3
namespace Go.Proofs.Ytifblmcocikopab
open Go.RowKit

/-- What a draw of a stock hands back: a list of the call's own. -/
def StockEnd (w : World) (g : Nat) (A : Option Addr) (n cap : Nat) (bs : List Int) (e : Ending) (w' : World) : Prop :=
  ∃ zs q c2, e = .returned (.slice (some ⟨q, 0, none⟩) zs.length c2) ∧ Ow w' w.heap.size w'.heap.size 2 (some ⟨q, 0, none⟩) zs.length c2 (ints zs) ∧ zs.length ≤ 40 ∧ Src w' g A n cap bs ∧ Keep g (g + 1) w w'
/-- .. under way. -/
def StockAt (w : World) (g : Nat) (A : Option Addr) (n cap : Nat) (bs : List Int) (k : Nat) (v : Value) (wr : World) : Prop :=
  ∃ ys q c2, v = .slice (some ⟨q, 0, none⟩) k c2 ∧ Ow wr w.heap.size wr.heap.size 2 (some ⟨q, 0, none⟩) k c2 (ints ys) ∧ Src wr g A n cap bs ∧ Keep g (g + 1) w wr
section
variable {w wr w1 w2 w3 : World} {g : Nat} {A : Option Addr} {n cap : Nat} {bs : List Int}
theorem StockAt.next {k q c2 q3 c3 : Nat} {ys : List Int} {x : Int} {o : Obj} (hg : g < w.heap.size)
    (ho : Ow wr w.heap.size wr.heap.size 2 (some ⟨q, 0, none⟩) k c2 (ints ys)) (hK : Keep g (g + 1) w wr) (hK1 : Keep g (g + 1) wr w1) (hS1 : Src w1 g A n cap bs)
    (hown : w3.ownsRow w.heap.size 2 1 (.slice (some ⟨q3, 0, none⟩) (k + 1) c3) (k + 1) (ints ys ++ [.int .i64 x])) (hgrow : (w1.alloc o).grownBy w3 (some q)) (hlt : q3 < w3.heap.size) :
    StockAt w g A n cap bs (k + 1) (.slice (some ⟨q3, 0, none⟩) (k + 1) c3) w3 := by
  have hq := (ho.1.lt q rfl).1
  have hk1 := hK.trans hK1
  have hb : Below w.heap.size w1 w3 := ((Below.refl _ _).alloc hk1.size _).grown hgrow (by have := hk1.size; simp; omega) (fun j hj => by cases hj; exact hq)
  exact ⟨ys ++ [x], q3, c3, rfl, ⟨by simpa [ints] using hown, fun j hj => by rw [← show q3 = j by simpa [Value.ownBlock] using hj]; exact hlt⟩, hS1.below' hb hg, hk1.then_below hb⟩
theorem StockAt.keep {k : Nat} {v : Value} (h : StockAt w g A n cap bs k v w1) (hg : g < w.heap.size) (hS : Src w2 g A n cap bs) (hK : Keep g (g + 1) w1 w2) : StockAt w g A n cap bs k v w2 := by
  obtain ⟨ys, q, c2, hv, ho, -, hK0⟩ := h
  have ho1 := ho.keep hK (Nat.le_refl _) (.inr hg)
  exact ⟨ys, q, c2, hv, ⟨ho1.1, fun j hj => Nat.lt_of_lt_of_le (ho1.2 j hj) hK.size⟩, hS, hK0.trans hK⟩
theorem StockAt.src {k : Nat} {v : Value} (h : StockAt w g A n cap bs k v w1) : Src w1 g A n cap bs := by
  obtain ⟨_, _, _, _, _, hS, _⟩ := h
  exact hS
theorem StockAt.done {k : Nat} {v : Value} (h : StockAt w g A n cap bs k v w1) (hk : k ≤ 40) : StockEnd w g A n cap bs (.returned v) w1 := by
  obtain ⟨ys, q, c2, rfl, ho, hS, hK⟩ := h
  have hl : ys.length = k := by have := ho.len; rwa [ints_len] at this
  subst hl
  exact ⟨ys, q, c2, rfl, ho, hk, hS, hK⟩
theorem made0 (hg : g < w.heap.size) (m : Nat) (hm : m ≤ 40) {vs : List Value} (hv : vs = ints (List.replicate m 0))
    (hown : w3.ownsRow w.heap.size 2 1 (.slice (some ⟨w2.heap.size, 0, none⟩) m m) m vs) (hgr : w2.grownBy w3 none) (hK : Keep g (g + 1) w w2) (hS : Src w2 g A n cap bs) :
    StockEnd w g A n cap bs (.returned (.slice (some ⟨w2.heap.size, 0, none⟩) m m)) w3 := by
  subst hv
  have hb : Below w.heap.size w2 w3 := (Below.refl _ _).grown hgr hK.size (by simp)
  have hlt := (hown.lt w2.heap.size rfl).2
  have hl : (List.replicate m (0 : Int)).length = m := by simp
  exact ⟨List.replicate m 0, w2.heap.size, m, by rw [hl], by rw [hl]; exact ⟨hown, fun j hj => by rw [← show w2.heap.size = j by simpa [Value.ownBlock] using hj]; exact hlt⟩, by rw [hl]; exact hm, hS.below' hb hg, hK.then_below hb⟩
end

set_option maxRecDepth 100000 in
set_option maxHeartbeats 4000000 in
theorem drawStock (g : Nat) (A : Option Addr) (n cap : Nat) (bs : List Int) (w : World) (h : Src w g A n cap bs) :
    Calls Try.prog 23 #[.pointer (some ⟨g, 0, none⟩)] w (StockEnd w g A n cap bs) := by
  obtain ⟨i0, hi, hz0, hz1, hz2⟩ := info_parts infoInt
  have HN := Go.Lib.hid (fun m w' h' => next g A n cap bs m w' h')
  have hg := h.lt
  have hS0 : Src (w.alloc (.cells #[] 2)) g A n cap bs := h.below ((Below.refl _ _).alloc (Nat.le_refl _) _)
  have hO0 : Ow (w.alloc (.cells #[] 2)) w.heap.size (w.alloc (.cells #[] 2)).heap.size 2 (some ⟨w.heap.size, 0, none⟩) 0 0 (ints []) := ⟨own_empty' rfl (Nat.le_refl _), fun j hj => by rw [← show w.heap.size = j by simpa [Value.ownBlock] using hj]; simp⟩
  have hK0 := keepAlloc w g (.cells #[] 2)
  have C0 := Go.Lib.hid (show StockAt w g A n cap bs 0 (.slice (some ⟨w.heap.size, 0, none⟩) 0 0) _ from ⟨[], _, _, rfl, hO0, hS0, hK0⟩)
  clear hO0 hK0
  go_enter Try.func23, Try.ntmps23
  go_wp2_with fail
  refine (HN.out 200 _ hS0).mono ?_
  rintro e w1 ⟨r0, rfl, p0, p1, hS1, hK1⟩
  have C0 := Go.Lib.hid (C0.out.keep hg hS1 hK1)
  clear hS0 hK1
  go_wp2_with fail
  refine (HN.out 20 _ hS1).mono ?_
  rintro e w2 ⟨r, rfl, hr0, hr1, hS2, hK2⟩
  have START := Go.Lib.hid (C0.out.keep hg hS2 hK2)
  clear C0 hS1 hK2 hS2 h
  go_wp2_with fail
  go_loopw [3, 4, 5] (fun v m i wr => ∃ (k : Nat) (r y : Int), 0 ≤ r ∧ k + r ≤ 19 ∧ i = .int .i64 r ∧ m = .int .i64 y ∧ StockAt w g A n cap bs k v wr) (fun _ _ i _ => (intOf i).toNat)
  case atStart => exact ⟨0, r, _, hr0, by omega, rfl, rfl, START.out⟩
  case round =>
    clear START hr0 hr1 p0 p1
    obtain ⟨k, r, y, hr0, hkr, rfl, rfl, ys, q, c2, rfl, ho, hS, hK⟩ := hrel
    have hsz := hK.size
    by_cases hr : 0 < r
    · go_wp2_with (at_builtin; refine wpList_append_lies _ rfl _ _ 24 rfl w.heap.size 2 i0 (.int .i64 0) 1 8 Try.underlying24 hi hz0 hz1 hz2 rfl (by omega) _ k _ rfl (ho.1.alloc _) ⟨wr.heap.size, 0, none⟩ 1 1 [.int .i64 y] rfl rfl (World.news_of_block (heap_alloc_new wr _)) (by simp [Value.oneCell']) (by omega) (by unfold maxLen; omega) (by omega) (by simp; omega) _ rfl ?_; intro q4 c4 w4 hown hgrow hat hlt4)
      have HG := Go.Lib.hid (StockAt.next hg ho hK (Keep.refl _ _ _) hS hown hgrow hlt4)
      clear hown hgrow hat hlt4 ho hS hK hsz
      refine (HN.out 60 w4 HG.out.src).mono ?_
      rintro e w5 ⟨r1, rfl, hr10, hr11, hS5, hK5⟩
      have HG := Go.Lib.hid (HG.out.keep hg hS5 hK5)
      clear hK5
      go_wp2_with fail
      refine (pickNew g A n cap bs w5 hS5 [10, 20, 5, r1 + 1] 4 rfl (by omega) (by omega) (fun _ => True) (fun _ _ => trivial) rfl).mono ?_
      rintro e w6 ⟨x, rfl, -, hS6, hK6⟩
      have HG := Go.Lib.hid (HG.out.keep hg hS6 hK6)
      clear hS5 hS6 hK6 hr10 hr11
      go_wp2
      go_roundw
      case rel => exact ⟨k + 1, r - 1, _, by omega, by omega, by go_num, rfl, HG.out⟩
      case measure => simp [intOf]; omega
    · obtain rfl : r = 0 := by omega
      have C : Hid (StockAt w g A n cap bs k (.slice (some ⟨q, 0, none⟩) k c2) wr) := ⟨ys, q, c2, rfl, ho, hS, hK⟩
      clear ho hK
      go_wp2_with fail
      refine (HN.out 30 wr hS).mono ?_
      rintro e w1 ⟨r1, rfl, hr10, hr11, hS1, hK1⟩
      have C := Go.Lib.hid (C.out.keep hg hS1 hK1)
      clear hS hK1
      by_cases h0 : r1 = 0
      · subst h0
        go_wp2_with fail
        refine (pickNew g A n cap bs w1 hS1 [0, 5000, 5001] 3 rfl (by omega) (by omega) (fun _ => True) (fun _ _ => trivial) rfl).mono ?_
        rintro e w6 ⟨x, rfl, -, hS6, hK6⟩
        obtain ⟨ys, q1, c1, hv, ho, hS, hK⟩ := C.out.keep hg hS6 hK6
        clear C hS1 hK6 hS6
        injection hv with hv1 _ hv2
        injection hv1 with hv1
        injection hv1 with hv1 _ _
        subst hv1 hv2
        have hsz := hK.size
        go_wp2_with (at_builtin; refine wpList_append_lies _ rfl _ _ 24 rfl w.heap.size 2 i0 (.int .i64 0) 1 8 Try.underlying24 hi hz0 hz1 hz2 rfl (by omega) _ k _ rfl (ho.1.alloc _) ⟨w6.heap.size, 0, none⟩ 1 1 [.int .i64 x] rfl rfl (World.news_of_block (heap_alloc_new w6 _)) (by simp [Value.oneCell']) (by omega) (by unfold maxLen; omega) (by omega) (by simp; omega) _ rfl ?_; intro q4 c4 w4 hown hgrow hat hlt4)
        go_ret
        exact (StockAt.next hg ho hK (Keep.refl _ _ _) hS hown hgrow hlt4).done (by omega)
      · have h0b : (r1 == 0) = false := by simpa using h0
        by_cases h1 : r1 = 1
        · subst h1
          obtain ⟨_, _, _, _, _, hS2, hK2⟩ := C.out
          clear C
          go_wp2_with (at_make; refine wpList_make_full _ rfl _ _ 24 rfl w.heap.size 2 i0 (.int .i64 0) 1 Try.underlying24 hi hz0 hz1 .i64 .i64 _ _ 2 rfl rfl rfl rfl (by rw [hz2]; omega) (by unfold maxLen; omega) hK2.size ?_; intro w3 hown hgr)
          go_ret
          exact made0 hg 2 (by omega) (by kernel_rfl) hown hgr hK2 hS2
        · have h1b : (r1 == 1) = false := by simpa using h1
          go_wp2_with fail
          go_ret
          exact C.out.done (by omega)
end Go.Proofs.Ytifblmcocikopab
