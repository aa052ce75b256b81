/- Draws of chapter 5 with a wheel and a stock: DrawSpokesFor. -/
import Derived.Test.YtifblmcocikopabDrawSp2
import Derived.Test.YtifblmcocikopabDrawSp1
namespace Go.Proofs.Ytifblmcocikopab
open Go.RowKit

theorem StIs.under {w W W1 : World} {g n cap m q c2 : Nat} {A : Option Addr} {bs ys : List Int} (h : StIs w g A n cap bs ys m q c2 W) (hb : Below W.heap.size W W1) : StIs w g A n cap bs ys m q c2 W1 :=
  ⟨⟨(h.ow.below hb (Nat.le_refl _)).1, fun j hj => Nat.lt_of_lt_of_le (h.ow.2 j hj) hb.size⟩, h.src.below hb, h.kp.then_below (hb.mono h.kp.size), h.gl⟩
theorem StockAt.under {w W W1 : World} {g n cap k : Nat} {A : Option Addr} {bs : List Int} {v : Value} (h : StockAt w g A n cap bs k v W) (hb : Below W.heap.size W W1) : StockAt w g A n cap bs k v W1 := by
  obtain ⟨ys, q, c2, hv, ho, hS, hK⟩ := h
  exact ⟨ys, q, c2, hv, ⟨(ho.below hb (Nat.le_refl _)).1, fun j hj => Nat.lt_of_lt_of_le (ho.2 j hj) hb.size⟩, hS.below hb, hK.then_below (hb.mono hK.size)⟩
theorem StockAt.begin {w : World} {g n cap : Nat} {A : Option Addr} {bs : List Int} (hg : g < w.heap.size) (h : Src w g A n cap bs) : StockAt w g A n cap bs 0 (.slice (some ⟨w.heap.size, 0, none⟩) 0 0) (w.alloc (.cells #[] 2)) :=
  ⟨[], _, _, rfl, ⟨own_empty' rfl (Nat.le_refl _), fun j hj => by rw [← show w.heap.size = j by simpa [Value.ownBlock] using hj]; simp⟩, h.below ((Below.refl _ _).alloc (Nat.le_refl _) _), keepAlloc w g (.cells #[] 2)⟩
def lenOf : Value → Nat
  | .slice _ n _ => n
  | _ => 0
def GotWL (w : World) (e : Ending) (w' : World) : Prop :=
  ∃ (x : Wh) (zs : List Int) (A : Option Addr) (c2 : Nat), e = .returned (.tuple #[wheelV x, .slice A zs.length c2]) ∧ Ow w' w.heap.size w'.heap.size 2 A zs.length c2 (ints zs) ∧ zs.length ≤ 40 ∧ Below w.heap.size w w'
theorem StIs.wl {w0 w W W1 : World} {g n cap m q c2 : Nat} {A : Option Addr} {bs ys : List Int} (h : StIs w g A n cap bs ys m q c2 W) (hm : m ≤ 40) (hb : Below w0.heap.size w0 w) (hb1 : Below w0.heap.size w0 W1) (hlt : w0.heap.size < w.heap.size) (hk : Keep w0.heap.size (w0.heap.size + 1) W W1) (x : Wh) :
    GotWL w0 (.returned (.tuple #[wheelV x, .slice (some ⟨q, 0, none⟩) m c2])) W1 := by
  have hl : ys.length = m := by have := h.ow.len; rwa [ints_len] at this
  subst hl
  have h1 := h.ow.keep hk (Nat.le_refl _) (.inr hlt)
  exact ⟨x, ys, _, c2, rfl, ⟨(h1.lower hb.size).1, fun j hj => Nat.lt_of_lt_of_le (h1.2 j hj) hk.size⟩, hm, hb1⟩
set_option maxRecDepth 100000 in
set_option maxHeartbeats 4000000 in
theorem drawSpokesFor (A : Option Addr) (n cap : Nat) (bs : List Int) (w : World) (h : Rd w 0 w.heap.size A n (byts bs)) (hs : ∀ z ∈ bs, 0 ≤ z ∧ z ≤ 255) (hn : n ≤ 140737488355328) : Calls Try.prog 10 #[.slice A n cap] w (GotWL w) := by
  go_enter Try.func10, Try.ntmps10
  go_wp2_with fail
  refine calls_gen (R := fun w' => Box w' w.heap.size [.int .i64 0, .int .i64 0, .int .i64 0, .int .i64 0, .int .i64 0, .int .i64 0, .int .i64 0, .int .i64 0, .int .i64 0] ∧ Below w.heap.size w w') ⟨Box.new rfl rfl, by go_grown⟩ ?_
  rintro W0 ⟨X0, B0⟩
  refine (from_ A n cap bs W0 ((h.below B0 (Nat.le_refl _)).mono (Nat.le_refl _) B0.size) hs hn).mono ?_
  rintro _ W1 ⟨g, rfl, hg, S1, b1⟩
  have X1 := X0.below b1
  have B1 := upB B0 b1
  have hwg : w.heap.size < g := Nat.lt_of_lt_of_le X0.lt hg
  clear b1 X0 B0
  go_wp2_with fail
  refine (drawSpokeCounts A n cap bs W1 ((h.below B1 (Nat.le_refl _)).mono (Nat.le_refl _) B1.size) hs hn).mono ?_
  rintro _ W2 ⟨x, rfl, b2⟩
  have S2 := S1.below b2
  have X2 := X1.below b2
  have B2 := upB B1 b2
  have hgl := S2.lt
  clear b2 S1 X1 B1 hs h
  go_upto_region 3 with fail
  refine wp_gen (R := fun w' => QW w W2.heap.size x w' ∧ Src w' g A n cap bs) ⟨⟨Box.new rfl rfl, ⟨_, rfl, X2.alloc _⟩, B2.alloc B2.size _, Nat.lt_trans hwg hgl⟩, S2.below ((Below.refl _ _).alloc (Nat.le_refl _) _)⟩ ?_
  clear X2 B2 S2
  have hgq : g < W2.heap.size := hgl
  clear hgl
  generalize W2.heap.size = q at hgq ⊢
  rintro W3 ⟨c0, hS⟩
  have hg3 := hS.lt
  go_wp2_with fail
  refine (drawStock g A n cap bs W3 hS).mono ?_
  rintro _ W4 ⟨ys, q2, c2, rfl, ho, hm, S4, k4⟩
  obtain ⟨m, hm2⟩ : ∃ m, m = ys.length := ⟨_, rfl⟩
  rw [← hm2] at ho hm ⊢
  have B3 := Go.Lib.hid c0.below
  have D := Go.Lib.hid (c0.keep k4 hwg hgq)
  have C := Go.Lib.hid (StIs.mk (w := W3) ho S4 k4 hg3)
  clear ho S4 k4 hm2 hS c0
  have HN := Go.Lib.hid (fun m w' h' => next g A n cap bs m w' h')
  have HW := Go.Lib.hid (fun w0 => specIsWheel x w0)
  have HWG := Go.Lib.hid hwg
  have HGQ := Go.Lib.hid hgq
  clear hwg hgq
  obtain ⟨d0, d1, d2, d3, d4, d5, d6, d7, d8⟩ := D.out.cells
  cases hb : wheelB x
  · rw [hb] at HW
    clear hb
    go_wp2_with fail
    refine (HW.out _).mono ?_
    rintro _ W5 ⟨rfl, b5⟩
    have D := Go.Lib.hid (D.out.next b5)
    have C := Go.Lib.hid (C.out.under b5)
    clear b5 d0 d1 d2 d3 d4 d5 d6 d7 d8
    go_upto_region 10 with fail
    obtain ⟨d0, d1, d2, d3, d4, d5, d6, d7, d8⟩ := D.out.cells
    obtain ⟨l, hl, hr⟩ := D.out.res
    match l, hl with
    | [l0, l1, l2, l3, l4, l5, l6, l7, l8], _ =>
      have z0 := hr.fr
      have z1 := hr.lt
      have y0 := hr.at_ 0 _ rfl
      have y1 := hr.at_ 1 _ rfl
      have y2 := hr.at_ 2 _ rfl
      have y3 := hr.at_ 3 _ rfl
      have y4 := hr.at_ 4 _ rfl
      have y5 := hr.at_ 5 _ rfl
      have y6 := hr.at_ 6 _ rfl
      have y7 := hr.at_ 7 _ rfl
      have y8 := hr.at_ 8 _ rfl
      have BD := D.out.below
      clear hr
      go_wp2_with fail
      refine bodyPost_ret (v := .tuple #[wheelV x, .slice (some ⟨q2, 0, none⟩) m c2]) ?_ rfl ?_
      · simp [results, Try.results10, go_sem, *]
      · refine C.out.wl hm B3.out (by go_grown) (Nat.lt_trans HWG.out C.out.gl) ?_ x
        exact ((((((((((Keep.refl w.heap.size (w.heap.size + 1) _).setCell (p := ⟨w.heap.size, 0, none⟩) (Nat.le_refl _) (Nat.lt_succ_self _) _).setCell (p := ⟨w.heap.size, 1, none⟩) (Nat.le_refl _) (Nat.lt_succ_self _) _).setCell (p := ⟨w.heap.size, 2, none⟩) (Nat.le_refl _) (Nat.lt_succ_self _) _).setCell (p := ⟨w.heap.size, 3, none⟩) (Nat.le_refl _) (Nat.lt_succ_self _) _).setCell (p := ⟨w.heap.size, 4, none⟩) (Nat.le_refl _) (Nat.lt_succ_self _) _).setCell (p := ⟨w.heap.size, 5, none⟩) (Nat.le_refl _) (Nat.lt_succ_self _) _).setCell (p := ⟨w.heap.size, 6, none⟩) (Nat.le_refl _) (Nat.lt_succ_self _) _).setCell (p := ⟨w.heap.size, 7, none⟩) (Nat.le_refl _) (Nat.lt_succ_self _) _).setCell (p := ⟨w.heap.size, 8, none⟩) (Nat.le_refl _) (Nat.lt_succ_self _) _)
  · have HL := Go.Lib.hid (fun w0 => specLen5 x false w0 hb)
    rw [hb] at HW
    clear hb
    go_wp2_with fail
    refine (HW.out _).mono ?_
    rintro _ W5 ⟨rfl, b5⟩
    have D := Go.Lib.hid (D.out.next b5)
    have C := Go.Lib.hid (C.out.under b5)
    clear b5 d0 d1 d2 d3 d4 d5 d6 d7 d8
    go_wp2_with fail
    refine (HN.out 3 _ C.out.src).mono ?_
    rintro _ W6 ⟨r, rfl, r0, r1, S6, K6⟩
    have D := Go.Lib.hid (D.out.keep K6 HWG.out HGQ.out)
    have C := Go.Lib.hid (C.out.keep S6 K6)
    clear K6 S6 r1
    by_cases hr0 : 0 < r
    · skip
      have hg6 := C.out.src.lt
      have B6 := Go.Lib.hid D.out.below
      have C0 := Go.Lib.hid (StockAt.begin (w := W6) hg6 C.out.src)
      clear C r0 hm
      go_upto_region 6 with fail
      clear hr0
      refine wp_gen (R := fun w' => QW w q x w' ∧ StockAt W6 g A n cap bs 0 (.slice (some ⟨W6.heap.size, 0, none⟩) 0 0) w') ⟨D.out.alloc _, C0.out⟩ ?_
      clear C0
      have DK := Go.Lib.hid D.out
      clear D
      rintro W7 ⟨D7, C7⟩
      have D := Go.Lib.hid D7
      have C0 := Go.Lib.hid C7
      clear D7 C7
      obtain ⟨d0, d1, d2, d3, d4, d5, d6, d7, d8⟩ := D.out.cells
      go_wp2_with fail
      refine (HL.out _).mono ?_
      rintro _ W8 ⟨rfl, b8⟩
      have C0 := Go.Lib.hid (C0.out.under b8)
      clear b8 d0 d1 d2 d3 d4 d5 d6 d7 d8 D HL HW
      generalize spLen x false = s at *
      go_wp2_with fail
      go_loopw [6, 7] (fun v m wr => ∃ (k : Nat) (y : Int), k ≤ 14 ∧ m = .int .i64 y ∧ StockAt W6 g A n cap bs k v wr) (fun v _ _ => 14 - lenOf v)
      case atStart => exact ⟨0, _, Nat.zero_le _, rfl, C0.out⟩
      case round =>
        obtain ⟨i0, hi, hz0, hz1, hz2⟩ := info_parts infoInt
        clear C0
        obtain ⟨k, y, hk, rfl, ys, q4, c4, rfl, ho, hS, hK⟩ := hrel
        have hsz := hK.size
        by_cases hlt : k < 14
        · have hlI : (k : Int) < 14 := by omega
          have hmax : ∀ a b : Int, (if a < b then b else a) = max a b := fun a b => by split <;> omega
          go_wp2_with (at_builtin; refine wpList_append_lies _ rfl _ _ 24 rfl W6.heap.size 2 i0 (.int .i64 0) 1 8 Try.underlying24 hi hz0 hz1 hz2 rfl (by omega) _ k _ rfl (ho.1.alloc _) ⟨wr.heap.size, 0, none⟩ 1 1 [.int .i64 (max y k)] rfl rfl (World.news_of_block (heap_alloc_new wr _)) (by simp [Value.oneCell']) (by omega) (by unfold maxLen; omega) (by omega) (by simp; omega) _ rfl ?_; intro q5 c5 w5 hown hgrow hat hlt5)
          have HG := Go.Lib.hid (StockAt.next hg6 ho hK (Keep.refl _ _ _) hS hown hgrow hlt5)
          clear hown hgrow hat hlt5 ho hS hK hsz
          go_wp2_with fail
          refine (HN.out 15 _ HG.out.src).mono ?_
          rintro e w6 ⟨r1, rfl, hr10, hr11, hS6, hK6⟩
          have HG := Go.Lib.hid (HG.out.keep hg6 hS6 hK6)
          clear hK6 hS6
          go_wp2
          go_roundw
          case rel => exact ⟨k + 1, _, by omega, rfl, HG.out⟩
          case measure => simp [lenOf]; omega
        · obtain rfl : k = 14 := by omega
          have D := Go.Lib.hid (DK.out.keep hK HWG.out HGQ.out)
          have C := Go.Lib.hid (StIs.mk (w := W6) ho hS hK hg6)
          clear ho hS hK DK
          go_upto_region 10 with fail
          obtain ⟨d0, d1, d2, d3, d4, d5, d6, d7, d8⟩ := D.out.cells
          obtain ⟨l, hl, hr⟩ := D.out.res
          match l, hl with
          | [l0, l1, l2, l3, l4, l5, l6, l7, l8], _ =>
            have z0 := hr.fr
            have z1 := hr.lt
            have y0 := hr.at_ 0 _ rfl
            have y1 := hr.at_ 1 _ rfl
            have y2 := hr.at_ 2 _ rfl
            have y3 := hr.at_ 3 _ rfl
            have y4 := hr.at_ 4 _ rfl
            have y5 := hr.at_ 5 _ rfl
            have y6 := hr.at_ 6 _ rfl
            have y7 := hr.at_ 7 _ rfl
            have y8 := hr.at_ 8 _ rfl
            have BD := D.out.below
            clear hr
            go_wp2_with fail
            refine bodyPost_ret (v := .tuple #[wheelV x, .slice (some ⟨q4, 0, none⟩) 14 c4]) ?_ rfl ?_
            · simp [results, Try.results10, go_sem, *]
            · refine C.out.wl (by omega) B6.out (by go_grown) (Nat.lt_trans HWG.out C.out.gl) ?_ x
              exact ((((((((((Keep.refl w.heap.size (w.heap.size + 1) _).setCell (p := ⟨w.heap.size, 0, none⟩) (Nat.le_refl _) (Nat.lt_succ_self _) _).setCell (p := ⟨w.heap.size, 1, none⟩) (Nat.le_refl _) (Nat.lt_succ_self _) _).setCell (p := ⟨w.heap.size, 2, none⟩) (Nat.le_refl _) (Nat.lt_succ_self _) _).setCell (p := ⟨w.heap.size, 3, none⟩) (Nat.le_refl _) (Nat.lt_succ_self _) _).setCell (p := ⟨w.heap.size, 4, none⟩) (Nat.le_refl _) (Nat.lt_succ_self _) _).setCell (p := ⟨w.heap.size, 5, none⟩) (Nat.le_refl _) (Nat.lt_succ_self _) _).setCell (p := ⟨w.heap.size, 6, none⟩) (Nat.le_refl _) (Nat.lt_succ_self _) _).setCell (p := ⟨w.heap.size, 7, none⟩) (Nat.le_refl _) (Nat.lt_succ_self _) _).setCell (p := ⟨w.heap.size, 8, none⟩) (Nat.le_refl _) (Nat.lt_succ_self _) _)
    · obtain rfl : r = 0 := by omega
      go_upto_region 10 with fail
      obtain ⟨d0, d1, d2, d3, d4, d5, d6, d7, d8⟩ := D.out.cells
      obtain ⟨l, hl, hr⟩ := D.out.res
      match l, hl with
      | [l0, l1, l2, l3, l4, l5, l6, l7, l8], _ =>
        have z0 := hr.fr
        have z1 := hr.lt
        have y0 := hr.at_ 0 _ rfl
        have y1 := hr.at_ 1 _ rfl
        have y2 := hr.at_ 2 _ rfl
        have y3 := hr.at_ 3 _ rfl
        have y4 := hr.at_ 4 _ rfl
        have y5 := hr.at_ 5 _ rfl
        have y6 := hr.at_ 6 _ rfl
        have y7 := hr.at_ 7 _ rfl
        have y8 := hr.at_ 8 _ rfl
        have BD := D.out.below
        clear hr
        go_wp2_with fail
        refine bodyPost_ret (v := .tuple #[wheelV x, .slice (some ⟨q2, 0, none⟩) m c2]) ?_ rfl ?_
        · simp [results, Try.results10, go_sem, *]
        · refine C.out.wl hm B3.out (by go_grown) (Nat.lt_trans HWG.out C.out.gl) ?_ x
          exact ((((((((((Keep.refl w.heap.size (w.heap.size + 1) _).setCell (p := ⟨w.heap.size, 0, none⟩) (Nat.le_refl _) (Nat.lt_succ_self _) _).setCell (p := ⟨w.heap.size, 1, none⟩) (Nat.le_refl _) (Nat.lt_succ_self _) _).setCell (p := ⟨w.heap.size, 2, none⟩) (Nat.le_refl _) (Nat.lt_succ_self _) _).setCell (p := ⟨w.heap.size, 3, none⟩) (Nat.le_refl _) (Nat.lt_succ_self _) _).setCell (p := ⟨w.heap.size, 4, none⟩) (Nat.le_refl _) (Nat.lt_succ_self _) _).setCell (p := ⟨w.heap.size, 5, none⟩) (Nat.le_refl _) (Nat.lt_succ_self _) _).setCell (p := ⟨w.heap.size, 6, none⟩) (Nat.le_refl _) (Nat.lt_succ_self _) _).setCell (p := ⟨w.heap.size, 7, none⟩) (Nat.le_refl _) (Nat.lt_succ_self _) _).setCell (p := ⟨w.heap.size, 8, none⟩) (Nat.le_refl _) (Nat.lt_succ_self _) _)
end Go.Proofs.Ytifblmcocikopab
