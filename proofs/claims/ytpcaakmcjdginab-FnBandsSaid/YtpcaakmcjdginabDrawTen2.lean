/- Draws for chapter 7's laws. -/
import Derived.Test.YtpcaakmcjdginabDrawTen
namespace Go.Proofs.Ytpcaakmcjdginab
open Go.RowKit
set_option linter.unusedSimpArgs false
set_option linter.unusedVariables false

section
variable (A : Option Addr) (n cap : Nat) (bs : List Int) (w : World) (h : Rd w 0 w.heap.size A n (byts bs)) (hs : ∀ z ∈ bs, 0 ≤ z ∧ z ≤ 255) (hn : n ≤ 140737488355328)
include h hs hn
def Dr1 (w : World) (e : Ending) (w' : World) : Prop := ∃ (zs : List Int) (B : Option Addr) (c : Nat), e = .returned (.slice B zs.length c) ∧ (1 ≤ zs.length ∧ zs.length ≤ 49) ∧ Ls zs B c w' ∧ Below w.heap.size w w'
def Dr2 (w : World) (e : Ending) (w' : World) : Prop := ∃ (zs : List Int) (B : Option Addr) (c : Nat) (p : Int), e = .returned (.tuple #[.slice B zs.length c, .int .i64 p]) ∧ (3 ≤ zs.length ∧ zs.length ≤ 49) ∧ Ls zs B c w' ∧ Below w.heap.size w w'
def Dr3 (w : World) (e : Ending) (w' : World) : Prop := ∃ (zs : List Int) (B : Option Addr) (c : Nat) (s : List Int) (D : Option Addr) (d : Nat) (p : Int), e = .returned (.tuple #[.slice B zs.length c, .slice D s.length d, .int .i64 p]) ∧ (3 ≤ zs.length ∧ zs.length ≤ 49) ∧ (1 ≤ s.length ∧ s.length ≤ 5) ∧ Ls zs B c w' ∧ Ls s D d w' ∧ Below w.heap.size w w'
def DrT (w : World) (e : Ending) (w' : World) : Prop := ∃ (zs : List Int) (B : Option Addr) (c : Nat) (s : List Int) (D : Option Addr) (d : Nat) (ts : List Int) (E : Option Addr) (f : Nat), e = .returned (.tuple #[.slice B zs.length c, .slice D s.length d, .slice E ts.length f]) ∧ (3 ≤ zs.length ∧ zs.length ≤ 49) ∧ (1 ≤ s.length ∧ s.length ≤ 5) ∧ ts.length ≤ 50 ∧ Ls zs B c w' ∧ Ls s D d w' ∧ Ls ts E f w' ∧ Below w.heap.size w w'
theorem drawIsStiff : Calls Try.prog 16 #[.slice A n cap] w (Dr1 w) := by
  go_enter Try.func16, Try.ntmps16
  go_wp2_with fail
  refine (from_ A n cap bs w h hs hn).mono ?_
  rintro _ w1 ⟨g, rfl, hg, S1, b1⟩
  have HB := Go.Lib.hid b1
  have HG := Go.Lib.hid S1.lt
  have HD := Go.Lib.hid (drawStiff g A n cap bs w1 S1)
  clear b1 S1
  go_wp2_with fail
  refine HD.out.mono ?_
  rintro _ w2 ⟨s, D, d, rfl, ⟨l0, l1⟩, st⟩
  have ST := Go.Lib.hid st
  clear st
  go_wp2_with fail
  go_ret
  exact ⟨s, D, d, rfl, ⟨l0, by omega⟩, ST.out.ls (lo := 0) (by omega), HB.out.trans (ST.out.kp.below hg HB.out.size)⟩
set_option maxRecDepth 100000 in
set_option maxHeartbeats 8000000 in
theorem drawOut : Calls Try.prog 27 #[.slice A n cap] w (Dr2 w) := by
  go_enter Try.func27, Try.ntmps27
  go_wp2_with fail
  refine (from_ A n cap bs w h hs hn).mono ?_
  rintro _ w1 ⟨g, rfl, hg, S1, b1⟩
  have HB := Go.Lib.hid b1
  have HG := Go.Lib.hid S1.lt
  have HD := Go.Lib.hid (drawT g A n cap bs w1 S1)
  clear b1 S1
  go_wp2_with fail
  refine HD.out.mono ?_
  rintro _ w2 ⟨zs, B, c, rfl, hl, st⟩
  have ST := Go.Lib.hid st
  have HN := Go.Lib.hid (next g A n cap bs 12 w2 st.src)
  have HL := Go.Lib.hid hl
  clear st hl
  go_wp2_with fail
  refine HN.out.mono ?_
  rintro _ w3 ⟨r, rfl, hr0, hr1, S3, K3⟩
  have hr2 : r ≤ 11 := by omega
  have ST3 := Go.Lib.hid (ST.out.next HG.out S3 K3)
  have HP := Go.Lib.hid (fun t cs (hc : cs = (ints [r, 5, 0, 100, 101, -1]).toArray) => pickNew g A n cap bs w3 S3 [r, 5, 0, 100, 101, -1] 6 rfl (by omega) (by omega) (fun x => True) (fun _ _ => trivial) (t := t) hc)
  clear S3 K3 ST hr1
  go_wp2_with fail
  refine (HP.out _ _ rfl).mono ?_
  rintro _ w4 ⟨x, rfl, -, S4, K4⟩
  have ST4 := Go.Lib.hid (ST3.out.next HG.out S4 K4)
  clear S4 K4
  go_wp2_with fail
  go_ret2
  have hl := HL.out
  exact ⟨zs, B, c, x, rfl, hl, ST4.out.ls (lo := 0) (by omega), HB.out.trans (ST4.out.kp.below hg HB.out.size)⟩
set_option maxRecDepth 100000 in
set_option maxHeartbeats 8000000 in
theorem drawSlack : Calls Try.prog 30 #[.slice A n cap] w (Dr2 w) := by
  go_enter Try.func30, Try.ntmps30
  go_wp2_with fail
  refine (from_ A n cap bs w h hs hn).mono ?_
  rintro _ w1 ⟨g, rfl, hg, S1, b1⟩
  have HB := Go.Lib.hid b1
  have HG := Go.Lib.hid S1.lt
  have HD := Go.Lib.hid (drawT g A n cap bs w1 S1)
  clear b1 S1
  go_wp2_with fail
  refine HD.out.mono ?_
  rintro _ w2 ⟨zs, B, c, rfl, hl, st⟩
  have ST := Go.Lib.hid st
  have HN := Go.Lib.hid (next g A n cap bs 500 w2 st.src)
  have HL := Go.Lib.hid hl
  clear st hl
  go_wp2_with fail
  refine HN.out.mono ?_
  rintro _ w3 ⟨r, rfl, hr0, hr1, S3, K3⟩
  have hr2 : r ≤ 499 := by omega
  have ST3 := Go.Lib.hid (ST.out.next HG.out S3 K3)
  have HP := Go.Lib.hid (fun t cs (hc : cs = (ints [600 + r, 0, 3000, 3001]).toArray) => pickNew g A n cap bs w3 S3 [600 + r, 0, 3000, 3001] 4 rfl (by omega) (by omega) (fun x => True) (fun _ _ => trivial) (t := t) hc)
  clear S3 K3 ST hr1
  go_wp2_with fail
  refine (HP.out _ _ rfl).mono ?_
  rintro _ w4 ⟨x, rfl, -, S4, K4⟩
  have ST4 := Go.Lib.hid (ST3.out.next HG.out S4 K4)
  clear S4 K4
  go_wp2_with fail
  go_ret2
  have hl := HL.out
  exact ⟨zs, B, c, x, rfl, hl, ST4.out.ls (lo := 0) (by omega), HB.out.trans (ST4.out.kp.below hg HB.out.size)⟩
set_option maxRecDepth 100000 in
set_option maxHeartbeats 8000000 in
theorem drawFor : Calls Try.prog 22 #[.slice A n cap] w (Dr3 w) := by
  go_enter Try.func22, Try.ntmps22
  go_wp2_with fail
  refine (from_ A n cap bs w h hs hn).mono ?_
  rintro _ w1 ⟨g, rfl, hg, S1, b1⟩
  have HB := Go.Lib.hid b1
  have HG := Go.Lib.hid S1.lt
  have HD := Go.Lib.hid (drawT g A n cap bs w1 S1)
  clear b1 S1
  go_wp2_with fail
  refine HD.out.mono ?_
  rintro _ w2 ⟨zs, B, c, rfl, hl, st⟩
  have ST := Go.Lib.hid st
  have HG2 := Go.Lib.hid st.src.lt
  have HL := Go.Lib.hid hl
  have HD2 := Go.Lib.hid (drawStiff g A n cap bs w2 st.src)
  clear st hl
  go_wp2_with fail
  refine HD2.out.mono ?_
  rintro _ w3 ⟨s, D, d, rfl, hl2, st⟩
  have SS := Go.Lib.hid st
  have ST3 := Go.Lib.hid (ST.out.next HG.out st.src st.kp)
  have HL2 := Go.Lib.hid hl2
  have HN := Go.Lib.hid (next g A n cap bs 600 w3 st.src)
  clear st hl2 ST
  go_wp2_with fail
  refine HN.out.mono ?_
  rintro _ w4 ⟨r, rfl, hr0, hr1, S4, K4⟩
  have hr2 : r ≤ 599 := by omega
  have ST4 := Go.Lib.hid (ST3.out.next HG.out S4 K4)
  have SS4 := Go.Lib.hid (SS.out.next HG2.out S4 K4)
  have HP := Go.Lib.hid (fun t cs (hc : cs = (ints [600 + r, 900, 0, 3000, 3001]).toArray) => pickNew g A n cap bs w4 S4 [600 + r, 900, 0, 3000, 3001] 5 rfl (by omega) (by omega) (fun x => True) (fun _ _ => trivial) (t := t) hc)
  clear S4 K4 ST3 SS hr1
  go_wp2_with fail
  refine (HP.out _ _ rfl).mono ?_
  rintro _ w5 ⟨x, rfl, -, S5, K5⟩
  have ST5 := Go.Lib.hid (ST4.out.next HG.out S5 K5)
  have SS5 := Go.Lib.hid (SS4.out.next HG2.out S5 K5)
  clear S5 K5
  go_wp2_with fail
  refine bodyPost_ret (results_tmp3 rfl _ _ _) rfl ?_
  have hl := HL.out
  have hl2 := HL2.out
  exact ⟨zs, B, c, s, D, d, x, rfl, hl, hl2, ST5.out.ls (lo := 0) (by omega), SS5.out.ls (lo := 0) (by omega), HB.out.trans (ST5.out.kp.below hg HB.out.size)⟩
set_option maxRecDepth 100000 in
set_option maxHeartbeats 16000000 in
theorem drawAll : Calls Try.prog 11 #[.slice A n cap] w (DrT w) := by
  obtain ⟨i0, hi, hz0, hz1, hz2⟩ := info_parts infoI64
  go_enter Try.func11, Try.ntmps11
  go_wp2_with fail
  refine (from_ A n cap bs w h hs hn).mono ?_
  rintro _ w1 ⟨g, rfl, hg, S1, b1⟩
  have HB := Go.Lib.hid b1
  have HG := Go.Lib.hid S1.lt
  have HD := Go.Lib.hid (drawT g A n cap bs w1 S1)
  clear b1 S1
  go_wp2_with fail
  refine HD.out.mono ?_
  rintro _ w2 ⟨zs, B, c, rfl, hl, st⟩
  have ST := Go.Lib.hid st
  have HG2 := Go.Lib.hid st.src.lt
  have HL := Go.Lib.hid hl
  have HD2 := Go.Lib.hid (drawStiff g A n cap bs w2 st.src)
  clear st hl
  go_wp2_with fail
  refine HD2.out.mono ?_
  rintro _ w3 ⟨s, D, d, rfl, hl2, st⟩
  have SS := Go.Lib.hid st
  have HL2 := Go.Lib.hid hl2
  have HG3 := Go.Lib.hid st.src.lt
  have S0 := Go.Lib.hid (StL.empty (w := w3) st.src (Keep.refl g (g + 1) w3))
  have HN := Go.Lib.hid (fun (m : Int) (w0 : World) (s : Src w0 g A n cap bs) => next g A n cap bs m w0 s)
  have hl49 : zs.length ≤ 49 := HL.out.2
  have hl3 : 3 ≤ zs.length := HL.out.1
  clear st hl2
  go_upto_region 5 with fail
  refine wp_gen (R := fun W => StL w3 g A n cap bs [] (some ⟨w3.heap.size, 0, none⟩) 0 W) S0.out ?_
  rintro W hst
  have ST0 := Go.Lib.hid hst
  clear hst S0
  go_wp2_with fail
  go_loopw [8, 9] (fun o i wr => ∃ (ts : List Int) (E : Option Addr) (f : Nat) (m : Nat), o = .slice E m f ∧ ts.length = m ∧ i = .int .i64 m ∧ m ≤ zs.length ∧ StL w3 g A n cap bs ts E f wr) (fun _ i _ => zs.length - (intOf i).toNat)
  case atStart => exact ⟨[], _, 0, 0, rfl, rfl, rfl, Nat.zero_le _, ST0.out⟩
  case round =>
    obtain ⟨ts, E, f, m, rfl, hm, rfl, hmz, hst⟩ := hrel
    have HM := Go.Lib.hid hm
    clear ST0 hm
    have ST3 := Go.Lib.hid hst
    clear hst
    by_cases hj : m < zs.length
    case pos =>
      go_wp2_with fail
      refine (HN.out _ _ ST3.out.src).mono ?_
      rintro _ w5 ⟨a, rfl, ha0, ha1, s5, k5⟩
      have st5 := ST3.out.next HG3.out s5 k5
      have ST5 := Go.Lib.hid st5
      have ha2 : a ≤ 8 := by omega
      have HP := Go.Lib.hid (fun t cs (hc : cs = (ints [0, 0, a - 4]).toArray) => pickNew g A n cap bs w5 s5 [0, 0, a - 4] 3 rfl (by omega) (by omega) (fun x => True) (fun _ _ => trivial) (t := t) hc)
      clear s5 k5 ST3 st5 ha1
      go_wp2_with fail
      refine (HP.out _ _ rfl).mono ?_
      rintro _ w7 ⟨x, rfl, -, s7, k7⟩
      have st7 := ST5.out.next HG3.out s7 k7
      have hown := st7.ow.1
      rw [HM.out] at hown
      have hbs := st7.kp.size
      have ST7 := Go.Lib.hid st7
      clear s7 k7 ST5 st7
      go_wp2_with (at_builtin; refine wpList_append_own_at _ rfl _ _ 24 rfl w3.heap.size 2 i0 (.int .i64 0) 1 8 Try.underlying24 hi hz0 hz1 hz2 rfl (by decide) _ _ _ rfl (hown.alloc _) ⟨w7.heap.size, 0, none⟩ 1 1 [.int .i64 x] rfl rfl (cell_one_new _ _ _) (by simp [Value.oneCell']) (by unfold maxLen; omega) (by omega) (by simp; omega) ?_; intro v' w6 hown' hgrow hnil hat; clear hnil hat; obtain ⟨B6, c6, rfl, hst6⟩ := ST7.out.append HG3.out HM.out hown' hgrow; have ST6 := Go.Lib.hid hst6; clear hown hown' hgrow hst6)
      go_roundw
      case rel => exact ⟨ts ++ [x], B6, c6, m + 1, rfl, by rw [List.length_append, HM.out]; rfl, by go_num, by omega, ST6.out⟩
      case measure => simp [intOf]; omega
    case neg =>
      obtain rfl : m = zs.length := by omega
      go_wp2_with fail
      refine (HN.out _ _ ST3.out.src).mono ?_
      rintro _ w5 ⟨v, rfl, hv0, -, s5, k5⟩
      have st5 := ST3.out.next HG3.out s5 k5
      have ST5 := Go.Lib.hid st5
      clear s5 k5 ST3
      by_cases h0 : v = 0
      case pos =>
        have hown := st5.ow.1
        rw [HM.out] at hown
        have hbs := st5.kp.size
        subst h0
        clear st5
        go_wp2_with (at_builtin; refine wpList_append_own_at _ rfl _ _ 24 rfl w3.heap.size 2 i0 (.int .i64 0) 1 8 Try.underlying24 hi hz0 hz1 hz2 rfl (by decide) _ _ _ rfl (hown.alloc _) ⟨w5.heap.size, 0, none⟩ 1 1 [.int .i64 1] rfl rfl (cell_one_new _ _ _) (by simp [Value.oneCell']) (by unfold maxLen; omega) (by omega) (by simp; omega) ?_; intro v' w6 hown' hgrow hnil hat; clear hnil hat; obtain ⟨B6, c6, rfl, hst6⟩ := ST5.out.append HG3.out HM.out hown' hgrow; have ST6 := Go.Lib.hid hst6; clear hown hown' hgrow hst6)
        refine bodyPost_ret (results_tmp3 rfl _ _ _) rfl ?_
        exact ⟨zs, B, c, s, D, d, ts ++ [1], B6, c6, by rw [List.length_append, HM.out]; rfl, HL.out, HL2.out, by rw [List.length_append, HM.out]; simp; omega, ((ST.out.next HG.out SS.out.src SS.out.kp).next HG.out ST6.out.src ST6.out.kp).ls (lo := 0) (by have := HL.out; omega), (SS.out.next HG2.out ST6.out.src ST6.out.kp).ls (lo := 0) (by have := HL2.out; omega), ST6.out.r.ls (lo := 0) (by rw [List.length_append, HM.out]; simp; omega), HB.out.trans (((ST.out.next HG.out SS.out.src SS.out.kp).next HG.out ST6.out.src ST6.out.kp).kp.below hg HB.out.size)⟩
      case neg =>
      have hb0 : (v == 0) = false := by simpa using h0
      by_cases h1 : v = 1
      case pos =>
        obtain ⟨gd, hD, hgd, -, -⟩ := st5.ow.form (show 0 < ts.length by rw [HM.out]; omega)
        subst hD
        have HP := Go.Lib.hid (fun t cs (hc : cs = (ints [100, 101, -100, -101]).toArray) => pickNew g A n cap bs w5 st5.src [100, 101, -100, -101] 4 rfl (by omega) (by omega) (fun x => True) (fun _ _ => trivial) (t := t) hc)
        have HGD := Go.Lib.hid hgd
        have hmi : (0 : Int) < zs.length := by omega
        have hne : ¬ zs = [] := by rintro rfl; simp at hl3
        subst h1
        clear st5 h0
        go_wp2_with fail
        refine (HP.out _ _ rfl).mono ?_
        rintro _ w6 ⟨x, rfl, -, s6, k6⟩
        have st6 := ST5.out.next HG3.out s6 k6
        have hc0 : w6.cell? ⟨gd, 0, none⟩ = some (.int .i64 (ts.getD 0 0)) := (st6.ow.cell (by rw [HM.out]; omega)).trans (ints_at ts 0 (by rw [HM.out]; omega))
        have f0 := st6.ow.free 0
        have HE := Go.Lib.hid (st6.set (z := x) HG3.out HGD.out 0)
        clear s6 k6 st6
        generalize ts.getD 0 0 = y0 at *
        go_wp2_with fail
        refine bodyPost_ret (results_tmp3 rfl _ _ _) rfl ?_
        exact ⟨zs, B, c, s, D, d, ts.set 0 x, some ⟨gd, 0, none⟩, f, by rw [List.length_set, HM.out]; rfl, HL.out, HL2.out, by rw [List.length_set, HM.out]; omega, ((ST.out.next HG.out SS.out.src SS.out.kp).next HG.out HE.out.src HE.out.kp).ls (lo := 0) (by have := HL.out; omega), (SS.out.next HG2.out HE.out.src HE.out.kp).ls (lo := 0) (by have := HL2.out; omega), HE.out.r.ls (lo := 0) (by rw [List.length_set, HM.out]; omega), HB.out.trans (((ST.out.next HG.out SS.out.src SS.out.kp).next HG.out HE.out.src HE.out.kp).kp.below hg HB.out.size)⟩
      case neg =>
        have hb1 : (v == 1) = false := by simpa using h1
        clear st5 h0 h1
        go_wp2_with fail
        refine bodyPost_ret (results_tmp3 rfl _ _ _) rfl ?_
        exact ⟨zs, B, c, s, D, d, ts, E, f, by rw [HM.out]; rfl, HL.out, HL2.out, by rw [HM.out]; omega, ((ST.out.next HG.out SS.out.src SS.out.kp).next HG.out ST5.out.src ST5.out.kp).ls (lo := 0) (by have := HL.out; omega), (SS.out.next HG2.out ST5.out.src ST5.out.kp).ls (lo := 0) (by have := HL2.out; omega), ST5.out.r.ls (lo := 0) (by rw [HM.out]; omega), HB.out.trans (((ST.out.next HG.out SS.out.src SS.out.kp).next HG.out ST5.out.src ST5.out.kp).kp.below hg HB.out.size)⟩
end
end Go.Proofs.Ytpcaakmcjdginab
