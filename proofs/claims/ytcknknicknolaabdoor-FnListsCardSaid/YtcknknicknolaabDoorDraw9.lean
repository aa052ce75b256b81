/- The draws of a list's text. -/
import Derived.Test.YtcknknicknolaabDoorDraw4
import Derived.Test.YtcknknicknolaabDoorDraw7
import Derived.Test.YtcknknicknolaabDoorListText
namespace Go.Proofs.YtcknknicknolaabDoor
open Go.RowKit
def Tiny (x : Int) : Prop := -1000 ≤ x ∧ x ≤ 1000
/-- .. under way. -/
def ListTiny (w : World) (g : Nat) (A : Option Addr) (n cap : Nat) (bs : List Int) (k : Nat) (v : Value) (wr : World) : Prop :=
  ∃ ys q c2, v = .slice (some ⟨q, 0, none⟩) k c2 ∧ Ow wr w.heap.size wr.heap.size 2 (some ⟨q, 0, none⟩) k c2 (ints ys) ∧ (∀ z ∈ ys, Tiny z) ∧ Src wr g A n cap bs ∧ Keep g (g + 1) w wr
theorem ListTiny.next {w wr w1 w3 : World} {g : Nat} {A : Option Addr} {n cap : Nat} {bs : List Int} {k q c2 q3 c3 : Nat} {ys : List Int} {x : Int} {o : Obj} (hx : Tiny x) (hg : g < w.heap.size)
    (ho : Ow wr w.heap.size wr.heap.size 2 (some ⟨q, 0, none⟩) k c2 (ints ys)) (hy : ∀ z ∈ ys, Tiny z) (hK : Keep g (g + 1) w wr) (hK1 : Keep g (g + 1) wr w1) (hS1 : Src w1 g A n cap bs)
    (hown : w3.ownsRow w.heap.size 2 1 (.slice (some ⟨q3, 0, none⟩) (k + 1) c3) (k + 1) (ints ys ++ [.int .i64 x])) (hgrow : (w1.alloc o).grownBy w3 (some q)) (hlt : q3 < w3.heap.size) :
    ListTiny w g A n cap bs (k + 1) (.slice (some ⟨q3, 0, none⟩) (k + 1) c3) w3 := by
  have hq := (ho.1.lt q rfl).1
  have hk1 := hK.trans hK1
  have hb : Below w.heap.size w1 w3 := ((Below.refl _ _).alloc hk1.size _).grown hgrow (by have := hk1.size; simp; omega) (fun j hj => by cases hj; exact hq)
  refine ⟨ys ++ [x], q3, c3, rfl, ⟨by simpa [ints] using hown, fun j hj => by rw [← show q3 = j by simpa [Value.ownBlock] using hj]; exact hlt⟩, fun z hz => ?_, hS1.below' hb hg, hk1.then_below hb⟩
  rcases List.mem_append.1 hz with h | h
  · exact hy z h
  · simp at h; subst h; exact hx

theorem tiny_ok {ys : List Int} (h : ∀ z ∈ ys, Tiny z) : ys.all okVal = true := by
  refine List.all_eq_true.2 fun z hz => ?_
  have := h z hz
  unfold Tiny at this
  unfold okVal
  simp
  omega
theorem ltext_len {ys : List Int} (h : ∀ z ∈ ys, Tiny z) (hl : ys.length ≤ 5) : (ltext ys).length ≤ 1320 := by
  by_cases h0 : ys.length = 0
  · rw [ltext_nil h0]; simp
  · rw [ltext_cons h0]; exact ltextLen (tiny_ok h) (by omega)
set_option maxRecDepth 100000 in
set_option maxHeartbeats 2000000 in
theorem drawReadList (A : Option Addr) (n cap : Nat) (bs : List Int) (w00 : World) (h00 : Rd w00 0 w00.heap.size A n (byts bs)) (hs : ∀ z ∈ bs, 0 ≤ z ∧ z ≤ 255) (hn : n ≤ 140737488355328) :
    Calls Tryd.prog 26 #[.slice A n cap] w00 (StrEnd w00 1400) := by
  obtain ⟨i0, hi, hz0, hz1, hz2⟩ := info_parts infoInt
  have HN := Go.Lib.hid (fun g m w' h' => next g A n cap bs m w' h')
  go_enter Tryd.func26, Tryd.ntmps26
  go_wp2_with fail
  refine (from_ A n cap bs w00 h00 hs hn).mono ?_
  rintro e w ⟨g, rfl, hgw, h, hb1⟩
  have hg := h.lt
  have hS0 : Src (w.alloc (.cells #[] 2)) g A n cap bs := h.below ((Below.refl _ _).alloc (Nat.le_refl _) _)
  have hO0 : Ow (w.alloc (.cells #[] 2)) w.heap.size (w.alloc (.cells #[] 2)).heap.size 2 (some ⟨w.heap.size, 0, none⟩) 0 0 (ints []) := ⟨own_empty' rfl (Nat.le_refl _), fun j hj => by rw [← show w.heap.size = j by simpa [Value.ownBlock] using hj]; simp⟩
  have hK0 := keepAlloc w g (.cells #[] 2)
  have HB1 := Go.Lib.hid hb1
  clear hb1
  go_wp2_with fail
  refine (HN.out g 6 _ hS0).mono ?_
  rintro e w1 ⟨r, rfl, hr0, hr1, hS1, hK1⟩
  have hO1 := hO0.keep hK1 (Nat.le_refl _) (.inr hg)
  have start : ListTiny w g A n cap bs 0 (.slice (some ⟨w.heap.size, 0, none⟩) 0 0) w1 := ⟨[], _, _, rfl, ⟨hO1.1, fun j hj => Nat.lt_of_lt_of_le (hO1.2 j hj) hK1.size⟩, (fun z hz => by cases hz), hS1, hK0.trans hK1⟩
  have START := Go.Lib.hid start
  clear start hO0 hO1 hS0 hK0 hS1 hK1 h
  go_wp2_with fail
  go_loopw [4, 5] (fun v i wr => ∃ (k : Nat) (r : Int), 0 ≤ r ∧ k + r ≤ 5 ∧ i = .int .i64 r ∧ ListTiny w g A n cap bs k v wr) (fun _ i _ => (intOf i).toNat)
  case atStart => exact ⟨0, r, hr0, by omega, rfl, START.out⟩
  case round =>
    clear START hr0 hr1
    obtain ⟨k, r, hr0, hkr, rfl, ys, q, c2, rfl, ho, hy, hS, hK⟩ := hrel
    by_cases hr : 0 < r
    · go_wp2_with fail
      refine (HN.out g 200 wr hS).mono ?_
      rintro e w3 ⟨r1, rfl, hr10, hr11, hS3, hK13⟩
      have ho3 := (ho.keep hK13 (Nat.le_refl _) (.inr hg)).1
      have hsz3 : w.heap.size ≤ w3.heap.size := (hK.trans hK13).size
      have hx : Tiny (r1 - 100) := by unfold Tiny; omega
      go_wp2_with (at_builtin; refine wpList_append_lies _ rfl _ _ 37 rfl w.heap.size 2 i0 (.int .i64 0) 1 8 Tryd.underlying37 hi hz0 hz1 hz2 rfl (by omega) _ k _ rfl (ho3.alloc _) ⟨w3.heap.size, 0, none⟩ 1 1 [.int .i64 (r1 - 100)] rfl rfl (World.news_of_block (heap_alloc_new w3 _)) (by simp [Value.oneCell']) (by omega) (by unfold maxLen; omega) (by omega) (by simp; omega) _ rfl ?_; intro q4 c4 w4 hown hgrow hat hlt4)
      have HG := Go.Lib.hid (ListTiny.next hx hg ho hy hK hK13 hS3 hown hgrow hlt4)
      clear hown hgrow hat hlt4 ho3 ho hK13 hS3 hS hK
      go_wp2
      go_roundw
      case rel => exact ⟨k + 1, r - 1, by omega, by omega, rfl, HG.out⟩
      case measure => simp [intOf]; omega
    · obtain rfl : r = 0 := by omega
      have hl : ys.length = k := by have := ho.len; rwa [ints_len] at this
      have hok := tiny_ok hy
      have hlen := ltext_len hy (by omega)
      have HT := Go.Lib.hid (specText (some ⟨q, 0, none⟩) k c2 ys w.heap.size wr ho.rd (by omega) hok)
      have B1 := Go.Lib.hid (HB1.out.trans (hK.below hgw HB1.out.size))
      clear ho hy hK hl hok
      generalize ltext ys = tl at HT hlen
      go_wp2_with fail
      refine HT.out.mono ?_
      rintro e w5 ⟨rfl, b5⟩
      have hS5 := hS.below b5
      have B5 := Go.Lib.hid (B1.out.trans (b5.mono B1.out.size))
      obtain ⟨t, ht⟩ : ∃ t : ByteArray, t = ⟨tl.toArray⟩ := ⟨_, rfl⟩
      have hts : t.size ≤ 1320 := by rw [ht]; show tl.length ≤ 1320; exact hlen
      rw [← ht]
      clear B1 b5 hS hlen ht HT
      go_wp2_with fail
      refine (HN.out g 3 w5 hS5).mono ?_
      rintro e w6 ⟨r6, rfl, hr60, hr61, hS6, hK6⟩
      have B6 := Go.Lib.hid (B5.out.trans (hK6.below hgw B5.out.size))
      clear hK6 B5 hS5
      by_cases h0 : r6 = 0
      · subst h0
        go_wp2_with fail
        refine (damage g A n cap bs t w6 hS6 (by omega)).mono ?_
        rintro e w7 ⟨y, rfl, hy, hS7, hK7⟩
        go_wp2_with fail
        go_ret
        exact ⟨y, rfl, by omega, B6.out.trans (hK7.below hgw B6.out.size)⟩
      · have a0 : (r6 == 0) = false := by simpa using h0
        go_wp2_with fail
        go_ret
        exact ⟨t, rfl, by omega, B6.out⟩

/-- The whole draw of a list. -/
theorem drawListText (A : Option Addr) (n cap : Nat) (bs : List Int) (w : World) (h : Rd w 0 w.heap.size A n (byts bs)) (hs : ∀ z ∈ bs, 0 ≤ z ∧ z ≤ 255) (hn : n ≤ 140737488355328) :
    Calls Tryd.prog 23 #[.slice A n cap] w fun e w' => ∃ zs q c2, e = .returned (.slice (some ⟨q, 0, none⟩) zs.length c2) ∧ Ow w' w.heap.size w'.heap.size 2 (some ⟨q, 0, none⟩) zs.length c2 (ints zs) ∧ zs.length ≤ 61 ∧ (∀ z ∈ zs, Fair z) ∧ Below w.heap.size w w' := by
  go_enter Tryd.func23, Tryd.ntmps23
  go_wp2_with fail
  refine (from_ A n cap bs w h hs hn).mono ?_
  rintro e w1 ⟨g, rfl, hg, hS1, hb1⟩
  go_wp2_with fail
  refine (drawList g A n cap bs w1 hS1).mono ?_
  rintro e w2 ⟨zs, q, c2, rfl, ho, hl, hf, hS2, hK2⟩
  go_wp2_with fail
  go_ret
  exact ⟨zs, q, c2, rfl, ho.lower hb1.size, hl, hf, hb1.trans (hK2.below hg hb1.size)⟩
end Go.Proofs.YtcknknicknolaabDoor
