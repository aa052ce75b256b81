/- The draws of words (door seat). -/
import Derived.Test.YtbagolmojenohaaDoorDamage
import Derived.Test.YtbagolmojenohaaDoorWordsText
import Derived.Test.YtbagolmojenohaaDoorPlainWords
import Derived.Deep.AppendLies
namespace Go.Proofs.YtbagolmojenohaaDoor
open Go.RowKit

def lenOf (v : Value) : Nat := match v with | .slice _ n _ => n | _ => 0
/-- What a draw of a text hands back. -/
def TextEnd (w : World) (g : Nat) (A : Option Addr) (n cap : Nat) (bs : List Int) (e : Ending) (w' : World) : Prop :=
  ∃ x : ByteArray, e = .returned (.string x) ∧ x.size ≤ 17 ∧ Src w' g A n cap bs ∧ Keep g (g + 1) w w'

theorem goodW (g : Nat) (A : Option Addr) (n cap : Nat) (bs : List Int) (w : World) (h : Src w g A n cap bs) :
    Calls Tryd.prog 27 #[.pointer (some ⟨g, 0, none⟩)] w (TextEnd w g A n cap bs) := by
  have HN := Go.Lib.hid (fun m w' h' => next g A n cap bs m w' h')
  have hg := h.lt
  have HA := Go.Lib.hid (fun o => h.below ((Below.refl w.heap.size w).alloc (Nat.le_refl _) o))
  have HK := Go.Lib.hid (fun o => keepAlloc w g o)
  clear h
  go_enter Tryd.func27, Tryd.ntmps27
  go_wp2_with fail
  refine (HN.out 12 _ (HA.out _)).mono ?_
  rintro e w1 ⟨r, rfl, hr0, hr1, hS1, hK1⟩
  obtain ⟨k, rfl⟩ : ∃ k : Nat, r = k := ⟨r.toNat, by omega⟩
  have hk : k < 12 := by omega
  obtain ⟨x, hx, hsz⟩ := lit_at _ _ 12 rfl rfl hg hK1 k hk
  have hK := (HK.out _).trans hK1
  go_wp2_with fail
  go_ret
  exact ⟨x, rfl, hsz, hS1, hK⟩

theorem drawWord (g : Nat) (A : Option Addr) (n cap : Nat) (bs : List Int) (w : World) (h : Src w g A n cap bs) :
    Calls Tryd.prog 22 #[.pointer (some ⟨g, 0, none⟩)] w (TextEnd w g A n cap bs) := by
  have HN := Go.Lib.hid (fun m w' h' => next g A n cap bs m w' h')
  go_enter Tryd.func22, Tryd.ntmps22
  go_wp2_with fail
  refine (HN.out 24 w h).mono ?_
  rintro e w1 ⟨r, rfl, hr0, hr1, hS1, hK1⟩
  by_cases hr : r = 0
  · subst hr
    have hg := hS1.lt
    have HA := Go.Lib.hid (fun o => hS1.below ((Below.refl w1.heap.size w1).alloc (Nat.le_refl _) o))
    have HK := Go.Lib.hid (fun o => hK1.trans (keepAlloc w1 g o))
    clear hS1 h hK1
    go_wp2_with fail
    refine (HN.out 6 _ (HA.out _)).mono ?_
    rintro e w2 ⟨r, rfl, hr0, hr1, hS2, hK2⟩
    obtain ⟨k, rfl⟩ : ∃ k : Nat, r = k := ⟨r.toNat, by omega⟩
    have hk : k < 6 := by omega
    obtain ⟨x, hx, hsz⟩ := lit_at _ _ 6 rfl rfl hg hK2 k hk
    have hK := (HK.out _).trans hK2
    go_wp2_with fail
    go_ret
    exact ⟨x, rfl, hsz, hS2, hK⟩
  · have hrb : (r == 0) = false := by simpa using hr
    go_wp2_with fail
    refine (goodW g A n cap bs w1 hS1).mono ?_
    rintro e w2 ⟨x, rfl, hx, hS2, hK2⟩
    go_wp2_with fail
    go_ret
    exact ⟨x, rfl, hx, hS2, hK1.trans hK2⟩


/-- The words that a draw has gathered. -/
def WordsAt (w : World) (g : Nat) (A : Option Addr) (n cap : Nat) (bs : List Int) (k : Nat) (v : Value) (wr : World) : Prop :=
  ∃ ys q c2, v = .slice (some ⟨q, 0, none⟩) k c2 ∧ Ow wr w.heap.size wr.heap.size 9 (some ⟨q, 0, none⟩) k c2 (bas ys) ∧ (∀ z ∈ ys, z.size ≤ 17) ∧ Src wr g A n cap bs ∧ Keep g (g + 1) w wr
theorem WordsAt.next {w wr w1 w3 : World} {g : Nat} {A : Option Addr} {n cap : Nat} {bs : List Int} {k q c2 q3 c3 : Nat} {ys : List ByteArray} {x : ByteArray} {o : Obj} (hx : x.size ≤ 17) (hg : g < w.heap.size)
    (ho : Ow wr w.heap.size wr.heap.size 9 (some ⟨q, 0, none⟩) k c2 (bas ys)) (hy : ∀ z ∈ ys, z.size ≤ 17) (hK : Keep g (g + 1) w wr) (hK1 : Keep g (g + 1) wr w1) (hS1 : Src w1 g A n cap bs)
    (hown : w3.ownsRow w.heap.size 9 1 (.slice (some ⟨q3, 0, none⟩) (k + 1) c3) (k + 1) (bas ys ++ [.string x])) (hgrow : (w1.alloc o).grownBy w3 (some q)) (hlt : q3 < w3.heap.size) :
    WordsAt w g A n cap bs (k + 1) (.slice (some ⟨q3, 0, none⟩) (k + 1) c3) w3 := by
  have hq := (ho.1.lt q rfl).1
  have hk1 := hK.trans hK1
  have hb : Below w.heap.size w1 w3 := ((Below.refl _ _).alloc hk1.size _).grown hgrow (by have := hk1.size; simp; omega) (fun j hj => by cases hj; exact hq)
  refine ⟨ys ++ [x], q3, c3, rfl, ⟨by simpa [bas] using hown, fun j hj => by rw [← show q3 = j by simpa [Value.ownBlock] using hj]; exact hlt⟩, fun z hz => ?_, hS1.below' hb hg, hk1.then_below hb⟩
  rcases List.mem_append.1 hz with h | h
  · exact hy z h
  · simp at h; subst h; exact hx
/-- What a draw of words hands back. -/
def WordsEndD (w : World) (g : Nat) (A : Option Addr) (n cap : Nat) (bs : List Int) (e : Ending) (w' : World) : Prop :=
  ∃ ys q c2, e = .returned (.slice (some ⟨q, 0, none⟩) ys.length c2) ∧ Ow w' w.heap.size w'.heap.size 9 (some ⟨q, 0, none⟩) ys.length c2 (bas ys) ∧ ys.length ≤ 61 ∧ (∀ z ∈ ys, z.size ≤ 17) ∧ Src w' g A n cap bs ∧ Keep g (g + 1) w w'
theorem WordsAt.done {w wr w1 : World} {g : Nat} {A : Option Addr} {n cap : Nat} {bs : List Int} {k q c2 : Nat} {ys : List ByteArray} (hg : g < w.heap.size) (hk : k ≤ 61)
    (ho : Ow wr w.heap.size wr.heap.size 9 (some ⟨q, 0, none⟩) k c2 (bas ys)) (hy : ∀ z ∈ ys, z.size ≤ 17) (hK : Keep g (g + 1) w wr) (hK1 : Keep g (g + 1) wr w1) (hS1 : Src w1 g A n cap bs) :
    WordsEndD w g A n cap bs (.returned (.slice (some ⟨q, 0, none⟩) k c2)) w1 := by
  have hl : ys.length = k := by have := ho.len; rwa [bas_len] at this
  have ho1 := ho.keep hK1 (Nat.le_refl _) (.inr hg)
  exact ⟨ys, q, c2, by rw [hl], by rw [hl]; exact ⟨ho1.1, fun j hj => Nat.lt_of_lt_of_le (ho1.2 j hj) hK1.size⟩, by omega, hy, hS1, hK.trans hK1⟩

set_option maxRecDepth 100000 in
set_option maxHeartbeats 2000000 in
theorem drawWords (g : Nat) (A : Option Addr) (n cap : Nat) (bs : List Int) (w : World) (h : Src w g A n cap bs) :
    Calls Tryd.prog 12 #[.pointer (some ⟨g, 0, none⟩)] w (WordsEndD w g A n cap bs) := by
  obtain ⟨i0, hi, hz0, hz1, hz2⟩ := info_parts infoStr
  have HN := Go.Lib.hid (fun m w' h' => next g A n cap bs m w' h')
  have HW := Go.Lib.hid (fun w' h' => drawWord g A n cap bs w' h')
  have hg := h.lt
  have hS0 : Src (w.alloc (.cells #[] 9)) g A n cap bs := h.below ((Below.refl _ _).alloc (Nat.le_refl _) _)
  have hO0 : Ow (w.alloc (.cells #[] 9)) w.heap.size (w.alloc (.cells #[] 9)).heap.size 9 (some ⟨w.heap.size, 0, none⟩) 0 0 (bas []) := ⟨own_empty' rfl (Nat.le_refl _), fun j hj => by rw [← show w.heap.size = j by simpa [Value.ownBlock] using hj]; simp⟩
  have hK0 := keepAlloc w g (.cells #[] 9)
  go_enter Tryd.func12, Tryd.ntmps12
  go_wp2_with fail
  refine (HN.out 6 _ hS0).mono ?_
  rintro e w1 ⟨r, rfl, hr0, hr1, hS1, hK1⟩
  have hO1 := hO0.keep hK1 (Nat.le_refl _) (.inr hg)
  have start : WordsAt w g A n cap bs 0 (.slice (some ⟨w.heap.size, 0, none⟩) 0 0) w1 := ⟨[], _, _, rfl, ⟨hO1.1, fun j hj => Nat.lt_of_lt_of_le (hO1.2 j hj) hK1.size⟩, (fun z hz => by cases hz), hS1, hK0.trans hK1⟩
  have START := Go.Lib.hid start
  clear start hO0 hO1 hS0 hK0 hS1 hK1 h
  go_wp2_with fail
  go_loopw [3, 4] (fun v i wr => ∃ (k : Nat) (r : Int), 0 ≤ r ∧ k + r ≤ 5 ∧ i = .int .i64 r ∧ WordsAt w g A n cap bs k v wr) (fun _ i _ => (intOf i).toNat)
  case atStart => exact ⟨0, r, hr0, by omega, rfl, START.out⟩
  case round =>
    clear START hr0 hr1
    obtain ⟨k, r, hr0, hkr, rfl, ys, q, c2, rfl, ho, hy, hS, hK⟩ := hrel
    by_cases hr : 0 < r
    · go_wp2_with fail
      refine (HW.out wr hS).mono ?_
      rintro e w3 ⟨x, rfl, hx, hS3, hK3⟩
      have ho3 := (ho.keep hK3 (Nat.le_refl _) (.inr hg)).1
      have hsz3 : w.heap.size ≤ w3.heap.size := (hK.trans hK3).size
      go_wp2_with (at_builtin; refine wpList_append_lies _ rfl _ _ 24 rfl w.heap.size 9 i0 (.string ⟨#[]⟩) 1 16 Tryd.underlying24 hi hz0 hz1 hz2 rfl (by omega) _ k _ rfl (ho3.alloc _) ⟨w3.heap.size, 0, none⟩ 1 1 [.string x] rfl rfl (World.news_of_block (heap_alloc_new w3 _)) (by simp [Value.oneCell']) (by omega) (by unfold maxLen; omega) (by omega) (by simp; omega) _ rfl ?_; intro q4 c4 w4 hown hgrow hat hlt4)
      have HG := Go.Lib.hid (WordsAt.next hx hg ho hy hK hK3 hS3 hown hgrow hlt4)
      clear hown hgrow hat hlt4 ho3 ho hK3 hS3 hS hK
      go_wp2
      go_roundw
      case rel => exact ⟨k + 1, r - 1, by omega, by omega, rfl, HG.out⟩
      case measure => simp [intOf]; omega
    · obtain rfl : r = 0 := by omega
      go_wp2_with fail
      refine (HN.out 24 wr hS).mono ?_
      rintro e w5 ⟨r1, rfl, hr10, hr11, hS1, hK1⟩
      by_cases h1 : r1 = 0
      · subst h1
        have hO1 := ho.keep hK1 (Nat.le_refl _) (.inr hg)
        have START := Go.Lib.hid (show WordsAt w g A n cap bs k (.slice (some ⟨q, 0, none⟩) k c2) w5 from ⟨ys, _, _, rfl, ⟨hO1.1, fun j hj => Nat.lt_of_lt_of_le (hO1.2 j hj) hK1.size⟩, hy, hS1, hK.trans hK1⟩)
        have hk5 : k ≤ 5 := by omega
        clear ho hy hS hK hS1 hK1 hO1 hkr
        go_wp2_with fail
        go_loopw [3] (fun v wr => ∃ (k : Nat), k ≤ 61 ∧ WordsAt w g A n cap bs k v wr) (fun v _ => 61 - (lenOf v))
        case atStart => exact ⟨k, by omega, START.out⟩
        case round =>
          clear START hk5
          obtain ⟨k, hk, ys, q, c2, rfl, ho, hy, hS, hK⟩ := hrel
          go_wp2_with fail
          refine (HN.out 2 _ hS).mono ?_
          rintro e w6 ⟨r2, rfl, hr20, hr21, hS6, hK6⟩
          by_cases hlt : (k : Int) < 60 + r2
          · have ho3 := (ho.keep hK6 (Nat.le_refl _) (.inr hg)).1
            have hsz3 : w.heap.size ≤ w6.heap.size := (hK.trans hK6).size
            go_wp2_with (at_builtin; refine wpList_append_lies _ rfl _ _ 24 rfl w.heap.size 9 i0 (.string ⟨#[]⟩) 1 16 Tryd.underlying24 hi hz0 hz1 hz2 rfl (by omega) _ k _ rfl (ho3.alloc _) ⟨w6.heap.size, 0, none⟩ 1 1 [.string ⟨#[97, 100, 97]⟩] rfl rfl (World.news_of_block (heap_alloc_new w6 _)) (by simp [Value.oneCell']) (by omega) (by unfold maxLen; omega) (by omega) (by simp; omega) _ rfl ?_; intro q4 c4 w4 hown hgrow hat hlt4)
            have HG := Go.Lib.hid (WordsAt.next (x := ⟨#[97, 100, 97]⟩) (by decide) hg ho hy hK hK6 hS6 hown hgrow hlt4)
            clear hown hgrow hat hlt4 ho3 ho hK6 hS6 hS hK
            go_wp2
            go_roundw
            case rel => exact ⟨k + 1, by omega, HG.out⟩
            case measure => simp [lenOf]; omega
          · go_wp2_with fail
            go_ret
            exact WordsAt.done hg (by omega) ho hy hK hK6 hS6
      · have h1b : (r1 == 0) = false := by simpa using h1
        go_wp2_with fail
        go_ret
        exact WordsAt.done hg (by omega) ho hy hK hK1 hS1
/-- The whole draw of words. -/
theorem drawWordsText (A : Option Addr) (n cap : Nat) (bs : List Int) (w : World) (h : Rd w 0 w.heap.size A n (byts bs)) (hs : ∀ z ∈ bs, 0 ≤ z ∧ z ≤ 255) (hn : n ≤ 140737488355328) :
    Calls Tryd.prog 5 #[.slice A n cap] w fun e w' => ∃ zs q c2, e = .returned (.slice (some ⟨q, 0, none⟩) zs.length c2) ∧ Ow w' w.heap.size w'.heap.size 9 (some ⟨q, 0, none⟩) zs.length c2 (bas zs) ∧ zs.length ≤ 61 ∧ (∀ z ∈ zs, z.size ≤ 17) ∧ Below w.heap.size w w' := by
  go_enter Tryd.func5, Tryd.ntmps5
  go_wp2_with fail
  refine (from_ A n cap bs w h hs hn).mono ?_
  rintro e w1 ⟨g, rfl, hg, hS1, hb1⟩
  go_wp2_with fail
  refine (drawWords g A n cap bs w1 hS1).mono ?_
  rintro e w2 ⟨zs, q, c2, rfl, ho, hl, hf, hS2, hK2⟩
  go_wp2_with fail
  go_ret
  exact ⟨zs, q, c2, rfl, ho.lower hb1.size, hl, hf, hb1.trans (hK2.below hg hb1.size)⟩
theorem specWordsAny (A : Option Addr) (n cap : Nat) (zs : List ByteArray) (lo hi : Nat) (w : World) (h : Rd w lo hi A n (bas zs)) (hn : n ≤ 1000000) (hok : ∀ z ∈ zs, z.size ≤ 17) :
    Calls Tryd.prog 17 #[.slice A n cap, .string ⟨#[44]⟩] w fun e w' => e = .returned (.string ⟨(Go.Lib.join (texts zs) [44]).toArray⟩) ∧ w = w' := by
  have hz : zs.length = n := by have := h.len; rwa [bas_len] at this
  have HZ := Go.Lib.hid hz
  clear hz
  go_enter Tryd.func17, Tryd.ntmps17
  go_wp2
  go_loop [5, 6] (fun u i => ∃ k : Nat, k ≤ n ∧ i = .int .i64 k ∧ u = .string ⟨(acc (texts zs) [44] k).toArray⟩) (fun _ i => n - (intOf i).toNat)
  case atStart => exact ⟨0, Nat.zero_le _, rfl, by rw [acc_zero]⟩
  case round =>
    obtain ⟨k, hk, rfl, rfl⟩ := hrel
    by_cases hlt : k < n
    · obtain ⟨b, o, rfl, p, q, c⟩ := h.at_ hlt
      have hkz : k < zs.length := by have := HZ.out; omega
      have hcell : w.cell? ⟨b, o + k, none⟩ = some (.string (zs.getD k ByteArray.empty)) := c k _ (bas_at zs k hkz)
      have hbd := hok (zs.getD k ByteArray.empty) (by simp [hkz])
      have hal := acc_len (L := texts zs) (sep := [44]) (m := 17) (by simp) (fun l hl => by obtain ⟨z, hz, rfl⟩ := List.mem_map.1 hl; have := hok z hz; simpa using this) k (by rw [texts_len]; omega)
      have hs1 := fun (h0 : 0 < k) => acc_succ (L := texts zs) [44] h0 (by rw [texts_len]; exact hkz)
      have hs0 := acc_one (L := texts zs) [44] (by rw [texts_len]; omega)
      rw [texts_at zs k hkz] at hs1
      obtain ⟨x, hx⟩ : ∃ x, x = zs.getD k ByteArray.empty := ⟨_, rfl⟩
      obtain ⟨l, hl⟩ : ∃ l, l = acc (texts zs) [44] k := ⟨_, rfl⟩
      rw [← hx] at hcell hbd hs1
      rw [← hl] at hal hs1 ⊢
      have HS := Go.Lib.hid hs1
      have HS0 := Go.Lib.hid hs0
      have HX := Go.Lib.hid hx
      have HL := Go.Lib.hid hl
      clear hs1 hs0 hx hl c
      by_cases h0 : 0 < k
      · have k1 := add_sep l [44] (by simp; omega)
        have k2 := add_ba (l ++ [44]) x (by simp; omega)
        go_wp2
        go_round
        case rel => exact ⟨k + 1, by omega, by go_num, by rw [HS.out h0]; simp⟩
        case measure => simp [intOf]; omega
      · obtain rfl : k = 0 := by omega
        simp only [Nat.add_zero] at hcell
        have k1 := add_ba l x (by omega)
        go_wp2
        go_round
        case rel => exact ⟨1, by omega, by go_num, by rw [HS0.out, HL.out, acc_zero, texts_at zs 0 hkz, HX.out]; rfl⟩
        case measure => simp [intOf]; omega
    · obtain rfl : k = n := by omega
      go_wp2
      go_ret
      exact ⟨by rw [← acc_all, texts_len, HZ.out]; rfl, rfl⟩


theorem joined_below {t : ByteArray} {tl : List UInt8} (ht : t = ⟨tl.toArray⟩) (h : tl.length ≤ 1100) : t.size ≤ 1100 := by subst ht; exact h
/-- What the whole draw of a text hands back. -/
def StrEndW (w : World) (m : Nat) (e : Ending) (w' : World) : Prop := ∃ x : ByteArray, e = .returned (.string x) ∧ x.size ≤ m ∧ Below w.heap.size w w'
set_option maxRecDepth 100000 in
set_option maxHeartbeats 2000000 in
theorem drawReadWords (A : Option Addr) (n cap : Nat) (bs : List Int) (w : World) (h : Rd w 0 w.heap.size A n (byts bs)) (hs : ∀ z ∈ bs, 0 ≤ z ∧ z ≤ 255) (hn : n ≤ 140737488355328) :
    Calls Tryd.prog 8 #[.slice A n cap] w (StrEndW w 1200) := by
  have HN := Go.Lib.hid (fun g m w' h' => next g A n cap bs m w' h')
  go_enter Tryd.func8, Tryd.ntmps8
  go_wp2_with fail
  refine (from_ A n cap bs w h hs hn).mono ?_
  rintro e w1 ⟨g, rfl, hg, hS1, hb1⟩
  have hgw : w.heap.size ≤ g := hg
  go_wp2_with fail
  refine (drawWords g A n cap bs w1 hS1).mono ?_
  rintro e w5 ⟨zs, q, c2, rfl, ho, hl, hf, hS5, hK5⟩
  have B5 := Go.Lib.hid (hb1.trans (hK5.below hg hb1.size))
  have hlen := join_lenW hf hl
  have HT := Go.Lib.hid (specWordsAny (some ⟨q, 0, none⟩) zs.length c2 zs _ _ w5 ho.rd (by omega) hf)
  clear ho hf hl hK5 hb1 hS1
  obtain ⟨N, hN⟩ : ∃ N, N = zs.length := ⟨_, rfl⟩
  rw [← hN] at HT ⊢
  clear hN
  generalize Go.Lib.join (texts zs) [44] = tl at HT hlen
  obtain ⟨t, ht⟩ : ∃ t : ByteArray, t = ⟨tl.toArray⟩ := ⟨_, rfl⟩
  have hts := joined_below ht hlen
  rw [← ht] at HT
  clear hlen ht
  go_wp2_with fail
  refine HT.out.mono ?_
  rintro e w' ⟨rfl, rfl⟩
  clear HT
  go_wp2_with fail
  refine (HN.out g 3 w5 hS5).mono ?_
  rintro e w6 ⟨r6, rfl, hr60, hr61, hS6, hK6⟩
  have B6 := Go.Lib.hid (B5.out.trans (hK6.below hgw B5.out.size))
  clear hK6 B5 hS5
  by_cases h0 : r6 = 0
  · subst h0
    go_wp2_with fail
    refine (damage g A n cap bs t w6 hS6 (by omega)).mono ?_
    rintro e w7 ⟨y, rfl, hy, hS7, hK7⟩
    go_wp2_with fail
    go_ret
    exact ⟨y, rfl, by omega, B6.out.trans (hK7.below hgw B6.out.size)⟩
  · have a0 : (r6 == 0) = false := by simpa using h0
    go_wp2_with fail
    go_ret
    exact ⟨t, rfl, by omega, B6.out⟩
end Go.Proofs.YtbagolmojenohaaDoor
