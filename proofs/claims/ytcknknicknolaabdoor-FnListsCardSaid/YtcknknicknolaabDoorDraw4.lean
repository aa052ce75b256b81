/- The draw of a list of numbers. -/
import Derived.Test.YtcknknicknolaabDoorDraw3v
import Derived.Test.YtcknknicknolaabDoorInts
import Derived.Deep.AppendLies
namespace Go.Proofs.YtcknknicknolaabDoor
open Go.RowKit

theorem Src.below' {w w' : World} {g B : Nat} {A : Option Addr} {n cap : Nat} {bs : List Int} (h : Src w g A n cap bs) (hb : Below B w w') (hB : g < B) : Src w' g A n cap bs := by
  have hc : ∀ j, w'.cell? ⟨g, j, none⟩ = w.cell? ⟨g, j, none⟩ := fun j => World.cell?_of_block (hb.block g hB)
  refine ⟨Nat.lt_of_lt_of_le h.lt hb.size, (hc 0).trans h.code, ?_, ?_, fun j => ?_, h.rd.below hb (by omega), h.small, h.many⟩
  · obtain ⟨k, hk, hp⟩ := h.place
    exact ⟨k, hk, (hc 1).trans hp⟩
  · obtain ⟨z, h0, h1, hp⟩ := h.seed
    exact ⟨z, h0, h1, (hc 2).trans hp⟩
  · have := h.free j
    simp only [World.frozen?] at this ⊢
    rw [hb.block g hB]
    exact this
theorem Keep.then_below {w w1 w2 : World} {g : Nat} (h : Keep g (g + 1) w w1) (hb : Below w.heap.size w1 w2) : Keep g (g + 1) w w2 :=
  ⟨hb.os.trans h.os, hb.tape.trans h.tape, hb.output.trans h.output, Nat.le_trans h.size hb.size, fun k hk ho => (hb.block k hk).trans (h.block k hk ho)⟩

def Fair (x : Int) : Prop := -1000000000001 ≤ x ∧ x ≤ 1000000000001
/-- What a draw of a list hands back. -/
def ListEndD (w : World) (g : Nat) (A : Option Addr) (n cap : Nat) (bs : List Int) (e : Ending) (w' : World) : Prop :=
  ∃ zs q c2, e = .returned (.slice (some ⟨q, 0, none⟩) zs.length c2) ∧ Ow w' w.heap.size w'.heap.size 2 (some ⟨q, 0, none⟩) zs.length c2 (ints zs) ∧ zs.length ≤ 61 ∧ (∀ z ∈ zs, Fair z) ∧ Src w' g A n cap bs ∧ Keep g (g + 1) w w'
/-- .. under way. -/
def ListAt (w : World) (g : Nat) (A : Option Addr) (n cap : Nat) (bs : List Int) (k : Nat) (v : Value) (wr : World) : Prop :=
  ∃ ys q c2, v = .slice (some ⟨q, 0, none⟩) k c2 ∧ Ow wr w.heap.size wr.heap.size 2 (some ⟨q, 0, none⟩) k c2 (ints ys) ∧ (∀ z ∈ ys, Fair z) ∧ Src wr g A n cap bs ∧ Keep g (g + 1) w wr
theorem own_empty' {w : World} {base g : Nat} {t : TypeId} (hg : w.heap.size = g) (hb : base ≤ g) : (w.alloc (.cells #[] t)).ownsRow base t 1 (.slice (some ⟨g, 0, none⟩) 0 0) 0 [] := by
  subst hg
  exact ⟨rfl, .inr ⟨w.heap.size, 0, #[], rfl, hb, heap_alloc_new w _, Nat.le_refl _, Nat.zero_le _, rfl, rfl⟩⟩

theorem ListAt.next {w wr w1 w3 : World} {g : Nat} {A : Option Addr} {n cap : Nat} {bs : List Int} {k q c2 q3 c3 : Nat} {ys : List Int} {x : Int} {o : Obj} (hx : Fair x) (hg : g < w.heap.size)
    (ho : Ow wr w.heap.size wr.heap.size 2 (some ⟨q, 0, none⟩) k c2 (ints ys)) (hy : ∀ z ∈ ys, Fair z) (hK : Keep g (g + 1) w wr) (hK1 : Keep g (g + 1) wr w1) (hS1 : Src w1 g A n cap bs)
    (hown : w3.ownsRow w.heap.size 2 1 (.slice (some ⟨q3, 0, none⟩) (k + 1) c3) (k + 1) (ints ys ++ [.int .i64 x])) (hgrow : (w1.alloc o).grownBy w3 (some q)) (hlt : q3 < w3.heap.size) :
    ListAt w g A n cap bs (k + 1) (.slice (some ⟨q3, 0, none⟩) (k + 1) c3) w3 := by
  have hq := (ho.1.lt q rfl).1
  have hk1 := hK.trans hK1
  have hb : Below w.heap.size w1 w3 := ((Below.refl _ _).alloc hk1.size _).grown hgrow (by have := hk1.size; simp; omega) (fun j hj => by cases hj; exact hq)
  refine ⟨ys ++ [x], q3, c3, rfl, ⟨by simpa [ints] using hown, fun j hj => by rw [← show q3 = j by simpa [Value.ownBlock] using hj]; exact hlt⟩, fun z hz => ?_, hS1.below' hb hg, hk1.then_below hb⟩
  rcases List.mem_append.1 hz with h | h
  · exact hy z h
  · simp at h; subst h; exact hx

theorem made {w w2 w3 : World} {g : Nat} {A : Option Addr} {n cap : Nat} {bs : List Int} (hg : g < w.heap.size) (m : Nat) (hm : m ≤ 61) {vs : List Value} (hv : vs = ints (List.replicate m 0))
    (hown : w3.ownsRow w.heap.size 2 1 (.slice (some ⟨w2.heap.size, 0, none⟩) m m) m vs) (hgr : w2.grownBy w3 none) (hK : Keep g (g + 1) w w2) (hS : Src w2 g A n cap bs) :
    ListEndD w g A n cap bs (.returned (.slice (some ⟨w2.heap.size, 0, none⟩) m m)) w3 := by
  subst hv
  have hb : Below w.heap.size w2 w3 := (Below.refl _ _).grown hgr hK.size (by simp)
  have hlt := (hown.lt w2.heap.size rfl).2
  have hl : (List.replicate m (0 : Int)).length = m := by simp
  refine ⟨List.replicate m 0, w2.heap.size, m, by rw [hl], by rw [hl]; exact ⟨hown, fun j hj => by rw [← show w2.heap.size = j by simpa [Value.ownBlock] using hj]; exact hlt⟩, by rw [hl]; exact hm, fun z hz => ?_, hS.below' hb hg, hK.then_below hb⟩
  obtain rfl := List.eq_of_mem_replicate hz
  unfold Fair
  omega

theorem drawList (g : Nat) (A : Option Addr) (n cap : Nat) (bs : List Int) (w : World) (h : Src w g A n cap bs) :
    Calls Tryd.prog 60 #[.pointer (some ⟨g, 0, none⟩)] w (ListEndD w g A n cap bs) := by
  obtain ⟨i0, hi, hz0, hz1, hz2⟩ := info_parts infoInt
  have HN := Go.Lib.hid (fun m w' h' => next g A n cap bs m w' h')
  have hg := h.lt
  have hS0 : Src (w.alloc (.cells #[] 2)) g A n cap bs := h.below ((Below.refl _ _).alloc (Nat.le_refl _) _)
  have hO0 : Ow (w.alloc (.cells #[] 2)) w.heap.size (w.alloc (.cells #[] 2)).heap.size 2 (some ⟨w.heap.size, 0, none⟩) 0 0 (ints []) := ⟨own_empty' rfl (Nat.le_refl _), fun j hj => by rw [← show w.heap.size = j by simpa [Value.ownBlock] using hj]; simp⟩
  have hK0 := keepAlloc w g (.cells #[] 2)
  go_enter Tryd.func60, Tryd.ntmps60
  go_wp2_with fail
  refine (HN.out 6 _ hS0).mono ?_
  rintro e w1 ⟨r, rfl, hr0, hr1, hS1, hK1⟩
  have hO1 := hO0.keep hK1 (Nat.le_refl _) (.inr hg)
  have start : ListAt w g A n cap bs 0 (.slice (some ⟨w.heap.size, 0, none⟩) 0 0) w1 := ⟨[], _, _, rfl, ⟨hO1.1, fun j hj => Nat.lt_of_lt_of_le (hO1.2 j hj) hK1.size⟩, (fun z hz => by cases hz), hS1, hK0.trans hK1⟩
  have START := Go.Lib.hid start
  clear start hO0 hO1 hS0 hK0 hS1 hK1 h
  go_wp2_with fail
  go_loopw [3, 4] (fun v i wr => ∃ (k : Nat) (r : Int), 0 ≤ r ∧ k + r ≤ 5 ∧ i = .int .i64 r ∧ ListAt w g A n cap bs k v wr) (fun _ i _ => (intOf i).toNat)
  case atStart => exact ⟨0, r, hr0, by omega, rfl, START.out⟩
  case round =>
    clear START hr0 hr1
    obtain ⟨k, r, hr0, hkr, rfl, ys, q, c2, rfl, ho, hy, hS, hK⟩ := hrel
    by_cases hr : 0 < r
    · go_wp2_with fail
      refine (HN.out 200 wr hS).mono ?_
      rintro e w1 ⟨r1, rfl, hr10, hr11, hS1, hK1⟩
      go_wp2_with fail
      refine (drawValue g A n cap bs w1 hS1).mono ?_
      rintro e w2 ⟨v, rfl, hv, hS2, hK2⟩
      go_wp2_with fail
      refine (pickNew g A n cap bs w2 hS2 [r1 - 100, v] 2 rfl (by omega) (by omega) Fair (fun x hx => by
        simp only [List.mem_cons, List.not_mem_nil, or_false] at hx
        unfold Fair
        omega) rfl).mono ?_
      rintro e w3 ⟨x, rfl, hx, hS3, hK3⟩
      have hK13 := (hK1.trans hK2).trans hK3
      have ho3 := (ho.keep hK13 (Nat.le_refl _) (.inr hg)).1
      have hsz3 : w.heap.size ≤ w3.heap.size := (hK.trans hK13).size
      go_wp2_with (at_builtin; refine wpList_append_lies _ rfl _ _ 37 rfl w.heap.size 2 i0 (.int .i64 0) 1 8 Tryd.underlying37 hi hz0 hz1 hz2 rfl (by omega) _ k _ rfl (ho3.alloc _) ⟨w3.heap.size, 0, none⟩ 1 1 [.int .i64 x] rfl rfl (World.news_of_block (heap_alloc_new w3 _)) (by simp [Value.oneCell']) (by omega) (by unfold maxLen; omega) (by omega) (by simp; omega) _ rfl ?_; intro q4 c4 w4 hown hgrow hat hlt4)
      have HG := Go.Lib.hid (ListAt.next hx hg ho hy hK hK13 hS3 hown hgrow hlt4)
      clear hown hgrow hat hlt4 ho3 ho hK13 hK1 hK2 hK3 hS1 hS2 hS3 hS hK
      go_wp2
      go_roundw
      case rel => exact ⟨k + 1, r - 1, by omega, by omega, rfl, HG.out⟩
      case measure => simp [intOf]; omega
    · obtain rfl : r = 0 := by omega
      go_wp2_with fail
      refine (HN.out 24 wr hS).mono ?_
      rintro e w1 ⟨r1, rfl, hr10, hr11, hS1, hK1⟩
      by_cases h1 : r1 = 0
      · subst h1
        go_wp2_with fail
        refine (HN.out 2 w1 hS1).mono ?_
        rintro e w2 ⟨r2, rfl, hr20, hr21, hS2, hK2⟩
        have hk2 := (hK.trans hK1).trans hK2
        clear ho hy hS hS1 hK hK1 hK2
        have h01 : r2 = 0 ∨ r2 = 1 := by omega
        rcases h01 with rfl | rfl
        · go_wp2_with (at_make; refine wpList_make_full _ rfl _ _ 37 rfl w.heap.size 2 i0 (.int .i64 0) 1 Tryd.underlying37 hi hz0 hz1 .i64 .i64 _ _ 60 rfl rfl rfl rfl (by rw [hz2]; omega) (by unfold maxLen; omega) hk2.size ?_; intro w3 hown hgr)
          go_ret
          exact made hg 60 (by omega) (by kernel_rfl) hown hgr hk2 hS2
        · go_wp2_with (at_make; refine wpList_make_full _ rfl _ _ 37 rfl w.heap.size 2 i0 (.int .i64 0) 1 Tryd.underlying37 hi hz0 hz1 .i64 .i64 _ _ 61 rfl rfl rfl rfl (by rw [hz2]; omega) (by unfold maxLen; omega) hk2.size ?_; intro w3 hown hgr)
          go_ret
          exact made hg 61 (by omega) (by kernel_rfl) hown hgr hk2 hS2
      · have h1b : (r1 == 0) = false := by simpa using h1
        go_wp2_with fail
        go_ret
        have hl : ys.length = k := by have := ho.len; rwa [ints_len] at this
        have ho1 := ho.keep hK1 (Nat.le_refl _) (.inr hg)
        exact ⟨ys, q, c2, by rw [hl]; rfl, by rw [hl]; exact ⟨ho1.1, fun j hj => Nat.lt_of_lt_of_le (ho1.2 j hj) hK1.size⟩, by omega, hy, hS1, hK.trans hK1⟩
end Go.Proofs.YtcknknicknolaabDoor
