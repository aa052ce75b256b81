/- Draws of plans. -/
import Derived.Test.YtpcaakmcjdginaaDrawTru2
namespace Go.Proofs.Ytpcaakmcjdginaa
open Go.RowKit
set_option linter.unusedSimpArgs false
set_option linter.unusedVariables false

section
variable (A : Option Addr) (n cap : Nat) (bs : List Int) (w : World) (h : Rd w 0 w.heap.size A n (byts bs)) (hs : ∀ z ∈ bs, 0 ≤ z ∧ z ≤ 255) (hn : n ≤ 140737488355328)
include h hs hn
def Dv4 (w : World) (e : Ending) (w' : World) : Prop := ∃ (zs : List Int) (B : Option Addr) (c : Nat) (s : List Int) (D : Option Addr) (d : Nat) (ts : List Int) (E : Option Addr) (f : Nat), e = .returned (.tuple #[.slice B zs.length c, .slice D s.length d, .slice E ts.length f]) ∧ (3 ≤ zs.length ∧ zs.length ≤ 13) ∧ (1 ≤ s.length ∧ s.length ≤ 4) ∧ ts.length ≤ 14 ∧ Ls zs B c w' ∧ Ls s D d w' ∧ Ls ts E f w' ∧ Rd w' w.heap.size w'.heap.size E ts.length (ints ts) ∧ Below w.heap.size w w'
def Dv1 (w : World) (e : Ending) (w' : World) : Prop := ∃ (zs : List Int) (B : Option Addr) (c : Nat), e = .returned (.slice B zs.length c) ∧ zs.length ≤ 14 ∧ Ls zs B c w' ∧ Below w.heap.size w w'
set_option maxRecDepth 100000 in
set_option maxHeartbeats 8000000 in
theorem drawAfterPlan : Calls Try.prog 19 #[.slice A n cap] w (Dv4 w) := by
  obtain ⟨i0, hi, hz0, hz1, hz2⟩ := info_parts infoI64
  go_enter Try.func19, Try.ntmps19
  go_wp2_with fail
  refine (from_ A n cap bs w h hs hn).mono ?_
  rintro _ w1 ⟨g, rfl, hg, S1, b1⟩
  have HB := Go.Lib.hid b1
  have HG := Go.Lib.hid S1.lt
  have HD := Go.Lib.hid (drawEff g A n cap bs w1 S1)
  clear b1 S1
  go_wp2_with fail
  refine HD.out.mono ?_
  rintro _ w2 ⟨s, D, d, rfl, ⟨l0, l1⟩, st⟩
  have HG1 := Go.Lib.hid (show g < w1.heap.size from HG.out)
  have HD2 := Go.Lib.hid (drawDev g A n cap bs w2 st.src D d s w1.heap.size w2.heap.size st.rd HG1.out (Nat.le_refl _) st.le (by omega))
  have HL := Go.Lib.hid (And.intro l0 l1)
  have ST := Go.Lib.hid st
  clear st l0 l1 HD
  go_wp2_with fail
  refine HD2.out.mono ?_
  rintro _ w3 ⟨zs, B, c, rfl, hl, st⟩
  have SE := Go.Lib.hid (ST.out.next HG1.out st.src st.kp)
  have SZ := Go.Lib.hid st
  have HG2 := Go.Lib.hid (show g < w2.heap.size from Nat.lt_of_lt_of_le HG1.out ST.out.kp.size)
  have HZ := Go.Lib.hid hl
  have HG3 := Go.Lib.hid st.src.lt
  have S0 := Go.Lib.hid (StL.empty (w := w3) st.src (Keep.refl g (g + 1) w3))
  clear st hl HD2
  have HN := Go.Lib.hid (fun (m : Int) (w0 : World) (s : Src w0 g A n cap bs) => next g A n cap bs m w0 s)
  have hl49 : zs.length ≤ 13 := HZ.out.2
  have hl3 : 3 ≤ zs.length := HZ.out.1
  have HLO := Go.Lib.hid (Nat.le_trans HB.out.size SE.out.kp.size)
  go_upto_region 5 with fail
  refine wp_gen (R := fun W => StL w3 g A n cap bs [] (some ⟨w3.heap.size, 0, none⟩) 0 W) S0.out ?_
  rintro W hst
  have ST0 := Go.Lib.hid hst
  clear hst S0 ST
  go_wp2_with fail
  go_loopw [8, 9] (fun o i wr => ∃ (ts : List Int) (E : Option Addr) (f : Nat) (m : Nat), o = .slice E m f ∧ ts.length = m ∧ i = .int .i64 m ∧ m ≤ zs.length ∧ StL w3 g A n cap bs ts E f wr) (fun _ i _ => zs.length - (intOf i).toNat)
  case atStart => exact ⟨[], _, 0, 0, rfl, rfl, rfl, Nat.zero_le _, ST0.out⟩
  case round =>
    obtain ⟨ts, E, f, m, rfl, hm, rfl, hmz, hst⟩ := hrel
    have HM := Go.Lib.hid hm
    clear ST0 hm
    have ST3 := Go.Lib.hid hst
    clear hst
    by_cases hj : m < zs.length
    case pos =>
      go_wp2_with fail
      refine (HN.out _ _ ST3.out.src).mono ?_
      rintro _ w5 ⟨a, rfl, ha0, ha1, s5, k5⟩
      have st5 := ST3.out.next HG3.out s5 k5
      have ST5 := Go.Lib.hid st5
      have ha2 : a ≤ 4 := by omega
      have HP := Go.Lib.hid (fun t cs (hc : cs = (ints [0, 0, a - 2]).toArray) => pickNew g A n cap bs w5 s5 [0, 0, a - 2] 3 rfl (by omega) (by omega) (fun x => True) (fun _ _ => trivial) (t := t) hc)
      clear s5 k5 ST3 st5 ha1
      go_wp2_with fail
      refine (HP.out _ _ rfl).mono ?_
      rintro _ w7 ⟨x, rfl, -, s7, k7⟩
      have st7 := ST5.out.next HG3.out s7 k7
      have hown := st7.ow.1
      rw [HM.out] at hown
      have hbs := st7.kp.size
      have ST7 := Go.Lib.hid st7
      clear s7 k7 ST5 st7
      go_wp2_with (at_builtin; refine wpList_append_own_at _ rfl _ _ 24 rfl w3.heap.size 2 i0 (.int .i64 0) 1 8 Try.underlying24 hi hz0 hz1 hz2 rfl (by decide) _ _ _ rfl (hown.alloc _) ⟨w7.heap.size, 0, none⟩ 1 1 [.int .i64 x] rfl rfl (cell_one_new _ _ _) (by simp [Value.oneCell']) (by unfold maxLen; omega) (by omega) (by simp; omega) ?_; intro v' w6 hown' hgrow hnil hat; clear hnil hat; obtain ⟨B6, c6, rfl, hst6⟩ := ST7.out.append HG3.out HM.out hown' hgrow; have ST6 := Go.Lib.hid hst6; clear hown hown' hgrow hst6)
      go_roundw
      case rel => exact ⟨ts ++ [x], B6, c6, m + 1, rfl, by rw [List.length_append, HM.out]; rfl, by go_num, by omega, ST6.out⟩
      case measure => simp [intOf]; omega
    case neg =>
      obtain rfl : m = zs.length := by omega
      go_wp2_with fail
      refine (HN.out _ _ ST3.out.src).mono ?_
      rintro _ w5 ⟨v, rfl, hv0, -, s5, k5⟩
      have st5 := ST3.out.next HG3.out s5 k5
      have ST5 := Go.Lib.hid st5
      clear s5 k5 ST3
      by_cases h0 : v = 0
      case pos =>
        have hown := st5.ow.1
        rw [HM.out] at hown
        have hbs := st5.kp.size
        subst h0
        clear st5
        go_wp2_with (at_builtin; refine wpList_append_own_at _ rfl _ _ 24 rfl w3.heap.size 2 i0 (.int .i64 0) 1 8 Try.underlying24 hi hz0 hz1 hz2 rfl (by decide) _ _ _ rfl (hown.alloc _) ⟨w5.heap.size, 0, none⟩ 1 1 [.int .i64 0] rfl rfl (cell_one_new _ _ _) (by simp [Value.oneCell']) (by unfold maxLen; omega) (by omega) (by simp; omega) ?_; intro v' w6 hown' hgrow hnil hat; clear hnil hat; obtain ⟨B6, c6, rfl, hst6⟩ := ST5.out.append HG3.out HM.out hown' hgrow; have ST6 := Go.Lib.hid hst6; clear hown hown' hgrow hst6)
        refine bodyPost_ret (results_tmp3 rfl _ _ _) rfl ?_
        exact ⟨zs, B, c, s, D, d, ts ++ [0], B6, c6, by rw [List.length_append, HM.out]; rfl, HZ.out, HL.out, by rw [List.length_append, HM.out]; simp; omega, (SZ.out.next HG2.out ST6.out.src ST6.out.kp).ls (lo := 0) (by have := HZ.out; omega), (SE.out.next HG1.out ST6.out.src ST6.out.kp).ls (lo := 0) (by have := HL.out; omega), ST6.out.r.ls (lo := 0) (by rw [List.length_append, HM.out]; simp; omega), ST6.out.r.rd.mono HLO.out (Nat.le_refl _), HB.out.trans ((SE.out.next HG1.out ST6.out.src ST6.out.kp).kp.below hg HB.out.size)⟩
      case neg =>
      have hb0 : (v == 0) = false := by simpa using h0
      by_cases h1 : v = 1
      case pos =>
        obtain ⟨gd, hD, hgd, -, -⟩ := st5.ow.form (show 0 < ts.length by rw [HM.out]; omega)
        subst hD
        have HP := Go.Lib.hid (fun t cs (hc : cs = (ints [-101, -100, 100, 101]).toArray) => pickNew g A n cap bs w5 st5.src [-101, -100, 100, 101] 4 rfl (by omega) (by omega) (fun x => True) (fun _ _ => trivial) (t := t) hc)
        have HGD := Go.Lib.hid hgd
        have hmi : (0 : Int) < zs.length := by omega
        have hne : ¬ zs = [] := by rintro rfl; simp at hl3
        subst h1
        clear st5 h0
        go_wp2_with fail
        refine (HP.out _ _ rfl).mono ?_
        rintro _ w6 ⟨x, rfl, -, s6, k6⟩
        have st6 := ST5.out.next HG3.out s6 k6
        have hc0 : w6.cell? ⟨gd, 0, none⟩ = some (.int .i64 (ts.getD 0 0)) := (st6.ow.cell (by rw [HM.out]; omega)).trans (ints_at ts 0 (by rw [HM.out]; omega))
        have f0 := st6.ow.free 0
        have HE := Go.Lib.hid (st6.set (z := x) HG3.out HGD.out 0)
        clear s6 k6 st6
        generalize ts.getD 0 0 = y0 at *
        go_wp2_with fail
        refine bodyPost_ret (results_tmp3 rfl _ _ _) rfl ?_
        exact ⟨zs, B, c, s, D, d, ts.set 0 x, some ⟨gd, 0, none⟩, f, by rw [List.length_set, HM.out]; rfl, HZ.out, HL.out, by rw [List.length_set, HM.out]; omega, (SZ.out.next HG2.out HE.out.src HE.out.kp).ls (lo := 0) (by have := HZ.out; omega), (SE.out.next HG1.out HE.out.src HE.out.kp).ls (lo := 0) (by have := HL.out; omega), HE.out.r.ls (lo := 0) (by rw [List.length_set, HM.out]; omega), HE.out.r.rd.mono HLO.out (Nat.le_refl _), HB.out.trans ((SE.out.next HG1.out HE.out.src HE.out.kp).kp.below hg HB.out.size)⟩
      case neg =>
        have hb1 : (v == 1) = false := by simpa using h1
        clear st5 h0 h1
        go_wp2_with fail
        refine bodyPost_ret (results_tmp3 rfl _ _ _) rfl ?_
        exact ⟨zs, B, c, s, D, d, ts, E, f, by rw [HM.out]; rfl, HZ.out, HL.out, by rw [HM.out]; omega, (SZ.out.next HG2.out ST5.out.src ST5.out.kp).ls (lo := 0) (by have := HZ.out; omega), (SE.out.next HG1.out ST5.out.src ST5.out.kp).ls (lo := 0) (by have := HL.out; omega), ST5.out.r.ls (lo := 0) (by rw [HM.out]; omega), ST5.out.r.rd.mono HLO.out (Nat.le_refl _), HB.out.trans ((SE.out.next HG1.out ST5.out.src ST5.out.kp).kp.below hg HB.out.size)⟩
set_option maxRecDepth 100000 in
set_option maxHeartbeats 8000000 in
theorem drawUndoPlan : Calls Try.prog 22 #[.slice A n cap] w (Dv1 w) := by
  have HA := Go.Lib.hid (fun w1 (b : Below w.heap.size w w1) => drawAfterPlan A n cap bs w1 ((h.below b (Nat.le_refl _)).mono (Nat.le_refl _) b.size) hs hn)
  obtain ⟨i0, hi, hz0, hz1, hz2⟩ := info_parts infoI64
  go_enter Try.func22, Try.ntmps22
  go_wp2_with fail
  refine (from_ A n cap bs w h hs hn).mono ?_
  rintro _ w1 ⟨g, rfl, hg, S1, b1⟩
  have HB := Go.Lib.hid b1
  have HS := Go.Lib.hid S1
  clear b1 S1 h
  go_wp2_with fail
  refine (HA.out _ HB.out).mono ?_
  rintro _ w2 ⟨zs, B, c, s, D, d, ts, E, f, rfl, -, -, hl, -, -, L, L2, b2⟩
  have HN := Go.Lib.hid (fun (m : Int) (w0 : World) (s : Src w0 g A n cap bs) => next g A n cap bs m w0 s)
  have HS2 := Go.Lib.hid (HS.out.below b2)
  have HB2 := Go.Lib.hid (HB.out.trans (b2.mono HB.out.size))
  have HL := Go.Lib.hid hl
  have LT := Go.Lib.hid L
  have hlo : g + 1 ≤ w1.heap.size := HS.out.lt
  clear b2 L hl HS
  go_wp2_with fail
  refine (HN.out _ _ HS2.out).mono ?_
  rintro _ w3 ⟨v, rfl, hv0, -, s3, k3⟩
  have hL3 := L2.keep k3 (Nat.le_refl _) (.inr hlo)
  have HL3 := Go.Lib.hid (show Ls ts E f w3 from Ls.of hL3 LT.out.le (by have := HL.out; omega))
  have HB3 := Go.Lib.hid (HB2.out.trans (k3.below hg HB2.out.size))
  have HS3 := Go.Lib.hid s3
  clear hL3 s3 k3 L2 hlo HB2 HS2
  by_cases h0 : v = 0
  case neg =>
    have hb0 : (v == 0) = false := by simpa using h0
    go_wp2_with fail
    go_ret
    exact ⟨ts, E, f, rfl, HL.out, HL3.out, HB3.out⟩
  case pos =>
    subst h0
    go_wp2_with fail
    refine (HN.out _ _ HS3.out).mono ?_
    rintro _ w4 ⟨r, rfl, hr0, hr1, s4, k4⟩
    have hr : r = 0 ∨ r = 1 := by omega
    have HB4 := Go.Lib.hid (HB3.out.trans (k4.below hg HB3.out.size))
    have hks := HB4.out.size
    clear s4 k4 hr0 hr1
    rcases hr with rfl | rfl
    · go_wp2_with (at_make; refine wpList_make_full _ rfl _ _ 24 rfl w.heap.size 2 i0 (.int .i64 0) 1 Try.underlying24 hi hz0 hz1 .i64 .i64 _ _ 10 rfl rfl rfl rfl (by rw [hz2]; omega) (by unfold maxLen; omega) hks ?_; intro w5 hown hg5; have ho := made_zero hown; have hb := (Below.refl w.heap.size w4).grown hg5 hks (by simp); clear hown hg5)
      go_ret
      exact ⟨List.replicate 10 0, _, 10, rfl, by simp, ⟨ho.rd.here, by simp, by simp⟩, HB4.out.trans hb⟩
    · go_wp2_with (at_make; refine wpList_make_full _ rfl _ _ 24 rfl w.heap.size 2 i0 (.int .i64 0) 1 Try.underlying24 hi hz0 hz1 .i64 .i64 _ _ 11 rfl rfl rfl rfl (by rw [hz2]; omega) (by unfold maxLen; omega) hks ?_; intro w5 hown hg5; have ho := made_zero hown; have hb := (Below.refl w.heap.size w4).grown hg5 hks (by simp); clear hown hg5)
      go_ret
      exact ⟨List.replicate 11 0, _, 11, rfl, by simp, ⟨ho.rd.here, by simp, by simp⟩, HB4.out.trans hb⟩
end
end Go.Proofs.Ytpcaakmcjdginaa
