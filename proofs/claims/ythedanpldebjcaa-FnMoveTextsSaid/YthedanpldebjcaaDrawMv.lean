/- Draws of moves and of their texts. -/
import Derived.Test.YthedanpldebjcaaDrawList
import Derived.Test.YthedanpldebjcaaDamage
import Derived.Test.YthedanpldebjcaaMvS
namespace Go.Proofs.Ythedanpldebjcaa
open Go.RowKit
set_option linter.unusedSimpArgs false
set_option linter.unusedVariables false

theorem mTextR_few (zs : List Int) : (mTextR zs).1.length ≤ 60 := by
  unfold mTextR
  split
  · rename_i h
    simp only [Bool.and_eq_true, decide_eq_true_eq] at h
    unfold mText
    split
    · simp
    · rw [List.length_map]; exact h.2
  · simp
theorem madeMv {w w2 w3 : World} {g : Nat} {A : Option Addr} {n cap : Nat} {bs : List Int} (hg : g < w.heap.size) (m : Nat) (hm : m ≤ 61) {vs : List Value} (hv : vs = ints (List.replicate m 0))
    (hown : w3.ownsRow w.heap.size 2 1 (.slice (some ⟨w2.heap.size, 0, none⟩) m m) m vs) (hgr : w2.grownBy w3 none) (hK : Keep g (g + 1) w w2) (hS : Src w2 g A n cap bs) :
    DrawnL w g A n cap bs 0 61 (.returned (.slice (some ⟨w2.heap.size, 0, none⟩) m m)) w3 := by
  subst hv
  have hb : Below w.heap.size w2 w3 := (Below.refl _ _).grown hgr hK.size (by simp)
  have hlt := (hown.lt w2.heap.size rfl).2
  have hl : (List.replicate m (0 : Int)).length = m := by simp
  have ho : Ow w3 w.heap.size w3.heap.size 2 (some ⟨w2.heap.size, 0, none⟩) m m (ints (List.replicate m 0)) := ⟨hown, fun j hj => by rw [← show w2.heap.size = j by simpa [Value.ownBlock] using hj]; exact hlt⟩
  refine ⟨List.replicate m 0, some ⟨w2.heap.size, 0, none⟩, m, by rw [hl], by rw [hl]; omega, ⟨hS.below' hb hg, hK.then_below hb, by rw [hl]; exact ho.rd, by rw [hl]; exact Nat.le_refl _⟩⟩
set_option maxRecDepth 100000 in
set_option maxHeartbeats 4000000 in
theorem drawMv (g : Nat) (A : Option Addr) (n cap : Nat) (bs : List Int) (w : World) (h : Src w g A n cap bs) :
    Calls Try.prog 72 #[.pointer (some ⟨g, 0, none⟩)] w (DrawnL w g A n cap bs 0 61) := by
  obtain ⟨i0, hi, hz0, hz1, hz2⟩ := info_parts infoI64
  have HN := Go.Lib.hid (fun m w' h' => next g A n cap bs m w' h')
  have HG := Go.Lib.hid h.lt
  have H0 := Go.Lib.hid (StL.empty h (Keep.refl g (g + 1) w))
  have hS0 := Go.Lib.hid H0.out.src
  clear h
  go_enter Try.func72, Try.ntmps72
  go_wp2_with fail
  refine (HN.out 8 _ hS0.out).mono ?_
  rintro _ w1 ⟨r, rfl, hr0, hr1, hS1, hK1⟩
  have H1 := Go.Lib.hid (H0.out.next HG.out hS1 hK1)
  clear hS1 hK1 H0 hS0
  go_wp2_with fail
  go_loopw [3, 4] (fun v i wr => ∃ (zs : List Int) (D : Option Addr) (c : Nat) (r : Int), 0 ≤ r ∧ (zs.length : Int) + r ≤ 7 ∧ i = .int .i64 r ∧ v = .slice D zs.length c ∧ StL w g A n cap bs zs D c wr) (fun _ i _ => (intOf i).toNat)
  case atStart => exact ⟨[], _, 0, r, hr0, by simp; omega, rfl, rfl, H1.out⟩
  case round =>
    clear H1 hr0 hr1
    obtain ⟨zs, D, c, r, hr0, hkr, rfl, rfl, hst⟩ := hrel
    have HT := Go.Lib.hid hst
    clear hst
    by_cases hr : 0 < r
    · go_wp2_with fail
      refine (HN.out 4 wr HT.out.src).mono ?_
      rintro _ w2 ⟨m, rfl, hm0, hm1, hS2, hK2⟩
      have HT2 := Go.Lib.hid (HT.out.next HG.out hS2 hK2)
      have how := HT2.out.ow.1
      have hsz := HT2.out.kp.size
      clear hS2 hK2 hm0 hm1
      obtain ⟨k, hk⟩ : ∃ k, zs.length = k := ⟨_, rfl⟩
      rw [hk] at how hkr
      go_wp2_with (at_builtin; refine wpList_append_own_at _ rfl _ _ 24 rfl w.heap.size 2 i0 (.int .i64 0) 1 8 Try.underlying24 hi hz0 hz1 hz2 rfl (by decide) _ _ _ rfl (how.alloc _) ⟨w2.heap.size, 0, none⟩ 1 1 [.int .i64 m] rfl rfl (cell_one_new _ _ _) (ints_oneCell .i64 [m]) (by unfold maxLen; omega) (by omega) (by simp; omega) ?_; intro v' w3 hown' hgrow hnil hat; clear hnil hat)
      obtain ⟨B', c', rfl, hst3⟩ := HT2.out.append (z := m) (m := k) HG.out hk hown' hgrow
      have HT3 := Go.Lib.hid hst3
      clear hown' hgrow how hst3
      go_wp2_with fail
      go_roundw
      case rel => exact ⟨zs ++ [m], B', c', r - 1, by omega, by rw [List.length_append, hk]; simp; omega, by go_num, by rw [List.length_append, hk]; rfl, HT3.out⟩
      case measure => simp [intOf]; omega
    · obtain rfl : r = 0 := by omega
      go_wp2_with fail
      refine (HN.out 30 wr HT.out.src).mono ?_
      rintro _ w2 ⟨m, rfl, hm0, hm1, hS2, hK2⟩
      have HT2 := Go.Lib.hid (HT.out.next HG.out hS2 hK2)
      clear hS2 hK2 hm1
      by_cases h0 : m = 0
      · subst h0
        have HP := Go.Lib.hid (pickNew g A n cap bs w2 HT2.out.src [-1, 4] 2 rfl (by omega) (by omega) (fun _ => True) (fun _ _ => trivial) (t := 2) rfl)
        go_wp2_with fail
        refine (HP.out).mono ?_
        rintro _ w4 ⟨x, rfl, -, hS4, hK4⟩
        have HT4 := Go.Lib.hid (HT2.out.next HG.out hS4 hK4)
        have how := HT4.out.ow.1
        have hsz := HT4.out.kp.size
        clear hS4 hK4
        obtain ⟨k, hk⟩ : ∃ k, zs.length = k := ⟨_, rfl⟩
        rw [hk] at how hkr
        go_wp2_with (at_builtin; refine wpList_append_own_at _ rfl _ _ 24 rfl w.heap.size 2 i0 (.int .i64 0) 1 8 Try.underlying24 hi hz0 hz1 hz2 rfl (by decide) _ _ _ rfl (how.alloc _) ⟨w4.heap.size, 0, none⟩ 1 1 [.int .i64 x] rfl rfl (cell_one_new _ _ _) (ints_oneCell .i64 [x]) (by unfold maxLen; omega) (by omega) (by simp; omega) ?_; intro v' w3 hown' hgrow hnil hat; clear hnil hat)
        obtain ⟨B', c', rfl, hst3⟩ := HT4.out.append (z := x) (m := k) HG.out hk hown' hgrow
        have HT3 := Go.Lib.hid hst3
        clear hown' hgrow how hst3
        go_wp2_with fail
        go_ret
        exact ⟨zs ++ [x], B', c', by rw [List.length_append, hk]; rfl, by rw [List.length_append, hk]; simp; omega, HT3.out.r⟩
      · have h0b : (m == 0) = false := by simpa using h0
        by_cases h1 : m = 1
        · subst h1
          clear h0 h0b hm0
          go_wp2_with fail
          refine (HN.out 2 w2 HT2.out.src).mono ?_
          rintro _ w4 ⟨q, rfl, hq0, hq1, hS4, hK4⟩
          have HK4 := Go.Lib.hid (HT2.out.kp.trans hK4)
          have HS4 := Go.Lib.hid hS4
          have hsz := HK4.out.size
          clear hS4 hK4
          have h01 : q = 0 ∨ q = 1 := by omega
          clear hq0 hq1
          rcases h01 with rfl | rfl
          · go_wp2_with (at_make; refine wpList_make_full _ rfl _ _ 24 rfl w.heap.size 2 i0 (.int .i64 0) 1 Try.underlying24 hi hz0 hz1 .i64 .i64 _ _ 60 rfl rfl rfl rfl (by rw [hz2]; omega) (by unfold maxLen; omega) hsz ?_; intro w3 hown hgr)
            go_ret
            exact madeMv HG.out 60 (by omega) (by kernel_rfl) hown hgr HK4.out HS4.out
          · go_wp2_with (at_make; refine wpList_make_full _ rfl _ _ 24 rfl w.heap.size 2 i0 (.int .i64 0) 1 Try.underlying24 hi hz0 hz1 .i64 .i64 _ _ 61 rfl rfl rfl rfl (by rw [hz2]; omega) (by unfold maxLen; omega) hsz ?_; intro w3 hown hgr)
            go_ret
            exact madeMv HG.out 61 (by omega) (by kernel_rfl) hown hgr HK4.out HS4.out
        · have h1b : (m == 1) = false := by simpa using h1
          clear h0 h1
          go_wp2_with fail
          go_ret
          exact ⟨zs, D, c, rfl, by omega, HT2.out.r⟩
/-- A list that has been drawn, of at most 61 numbers. -/
def DvM (w : World) (e : Ending) (w' : World) : Prop := ∃ (zs : List Int) (B : Option Addr) (c : Nat), e = .returned (.slice B zs.length c) ∧ zs.length ≤ 61 ∧ Ls zs B c w' ∧ Below w.heap.size w w'
set_option maxRecDepth 100000 in
theorem drawMovesText (A : Option Addr) (n cap : Nat) (bs : List Int) (w : World) (h : Rd w 0 w.heap.size A n (byts bs)) (hs : ∀ z ∈ bs, 0 ≤ z ∧ z ≤ 255) (hn : n ≤ 140737488355328) :
    Calls Try.prog 33 #[.slice A n cap] w (DvM w) := by
  go_enter Try.func33, Try.ntmps33
  go_wp2_with fail
  refine (from_ A n cap bs w h hs hn).mono ?_
  rintro _ w1 ⟨g, rfl, hg, hS1, hb1⟩
  go_wp2_with fail
  refine (drawMv g A n cap bs w1 hS1).mono ?_
  rintro _ w2 ⟨zs, B, c, rfl, hl, hst⟩
  have hlt := hS1.lt
  have HB := Go.Lib.hid (hb1.trans (hst.kp.below hg hb1.size))
  have HL := Go.Lib.hid (hst.ls (lo := 0) (by omega))
  clear hst hb1 hS1
  go_wp2_with fail
  go_ret
  exact ⟨zs, B, c, rfl, hl.2, HL.out, HB.out⟩
def StrM (w : World) (e : Ending) (w' : World) : Prop := ∃ l : List UInt8, e = .returned (.string ⟨l.toArray⟩) ∧ l.length ≤ 1048576 ∧ Below w.heap.size w w'
theorem ba_list (x : ByteArray) : x = ⟨x.data.toList.toArray⟩ := by
  obtain ⟨d⟩ := x
  simp
theorem ba_len (x : ByteArray) : x.data.toList.length = x.size := by
  obtain ⟨d⟩ := x
  rfl
theorem StrM.of {w w' : World} {x : ByteArray} (hx : x.size ≤ 1000) (hb : Below w.heap.size w w') : StrM w (.returned (.string x)) w' := by
  refine ⟨x.data.toList, by rw [← ba_list], ?_, hb⟩
  rw [ba_len]
  omega
set_option maxRecDepth 100000 in
set_option maxHeartbeats 2000000 in
theorem drawReadMoves (A : Option Addr) (n cap : Nat) (bs : List Int) (w : World) (h : Rd w 0 w.heap.size A n (byts bs)) (hs : ∀ z ∈ bs, 0 ≤ z ∧ z ≤ 255) (hn : n ≤ 140737488355328) :
    Calls Try.prog 36 #[.slice A n cap] w (StrM w) := by
  have HN := Go.Lib.hid (fun g m w' h' => next g A n cap bs m w' h')
  go_enter Try.func36, Try.ntmps36
  go_wp2_with fail
  refine (from_ A n cap bs w h hs hn).mono ?_
  rintro _ w1 ⟨g, rfl, hg, hS1, hb1⟩
  have hgw : w.heap.size ≤ g := hg
  go_wp2_with fail
  refine (drawMv g A n cap bs w1 hS1).mono ?_
  rintro _ w2 ⟨zs, B, c, rfl, hl, hst⟩
  have B2 := Go.Lib.hid (hb1.trans (hst.kp.below hg hb1.size))
  have HS2 := Go.Lib.hid hst.src
  have HM := Go.Lib.hid (specMovesText B c zs w2 (hst.ls (lo := 0) (by omega)))
  have hfew := mTextR_few zs
  obtain ⟨tx, z, hR⟩ : ∃ tx z, mTextR zs = (tx, z) := ⟨_, _, rfl⟩
  rw [hR] at HM hfew
  clear hst hb1 hS1 hR hl
  go_wp2_with fail
  refine HM.out.mono ?_
  rintro _ w3 ⟨rfl, b3⟩
  have HS3 := Go.Lib.hid (HS2.out.below b3)
  have B3 := Go.Lib.hid (B2.out.trans (b3.mono B2.out.size))
  obtain ⟨t, ht⟩ : ∃ t : ByteArray, t = ⟨tx.toArray⟩ := ⟨_, rfl⟩
  have hts : t.size ≤ 60 := by
    rw [ht, ← ba_len]
    exact hfew
  try dsimp only
  rw [← ht]
  clear b3 HS2 B2 HM hfew ht
  by_cases hz : z = 0
  · subst hz
    go_wp2_with fail
    refine (HN.out g 3 w3 HS3.out).mono ?_
    rintro _ w6 ⟨r6, rfl, hr60, hr61, hS6, hK6⟩
    have B6 := Go.Lib.hid (B3.out.trans (hK6.below hgw B3.out.size))
    clear hK6 B3
    by_cases h0 : r6 = 0
    · subst h0
      go_wp2_with fail
      refine (damage g A n cap bs t w6 hS6 (by omega)).mono ?_
      rintro _ w7 ⟨y, rfl, hy, hS7, hK7⟩
      go_wp2_with fail
      go_ret
      exact StrM.of (by omega) (B6.out.trans (hK7.below hgw B6.out.size))
    · have a0 : (r6 == 0) = false := by simpa using h0
      go_wp2_with fail
      go_ret
      exact StrM.of (by omega) B6.out
  · have hzb : (z != 0) = true := by simpa using hz
    go_wp2_with fail
    refine (HN.out g 3 w3 HS3.out).mono ?_
    rintro _ w6 ⟨r6, rfl, hr60, hr61, hS6, hK6⟩
    have B6 := Go.Lib.hid (B3.out.trans (hK6.below hgw B3.out.size))
    clear hK6 B3
    by_cases h0 : r6 = 0
    · subst h0
      go_wp2_with fail
      refine (damage g A n cap bs ⟨#[100, 117, 108, 114]⟩ w6 hS6 (by show (4 : Nat) ≤ _; omega)).mono ?_
      rintro _ w7 ⟨y, rfl, hy, hS7, hK7⟩
      have hy2 : y.size ≤ 21 := hy
      go_wp2_with fail
      go_ret
      exact StrM.of (by omega) (B6.out.trans (hK7.below hgw B6.out.size))
    · have a0 : (r6 == 0) = false := by simpa using h0
      go_wp2_with fail
      go_ret
      exact StrM.of (x := ⟨#[100, 117, 108, 114]⟩) (by show (4 : Nat) ≤ _; omega) B6.out
end Go.Proofs.Ythedanpldebjcaa
