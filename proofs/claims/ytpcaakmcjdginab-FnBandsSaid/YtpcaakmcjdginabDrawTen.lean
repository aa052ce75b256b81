/- Draws of tensions, stiffnesses and turns. -/
import Derived.Test.YtpcaakmcjdginabDrawList
namespace Go.Proofs.Ytpcaakmcjdginab
open Go.RowKit
set_option linter.unusedSimpArgs false
set_option linter.unusedVariables false

set_option maxRecDepth 100000 in
set_option maxHeartbeats 8000000 in
theorem drawStiff (g : Nat) (A : Option Addr) (n cap : Nat) (bs : List Int) (w : World) (h : Src w g A n cap bs) :
    Calls Try.prog 42 #[.pointer (some ⟨g, 0, none⟩)] w (DrawnL w g A n cap bs 1 5) := by
  have HN := Go.Lib.hid (fun (m : Int) (w0 : World) (s : Src w0 g A n cap bs) => next g A n cap bs m w0 s)
  have HG := Go.Lib.hid h.lt
  have S0 := Go.Lib.hid h
  have K0 := Go.Lib.hid (Keep.refl g (g + 1) w)
  obtain ⟨i0, hi, hz0, hz1, hz2⟩ := info_parts infoI64
  clear h
  go_enter Try.func42, Try.ntmps42
  go_wp2_with fail
  refine (HN.out _ _ S0.out).mono ?_
  rintro _ w1 ⟨r, rfl, hr0, hr1, s1, k1⟩
  have hr2 : r ≤ 59 := by omega
  have ST := Go.Lib.hid (StL.one s1 k1 (20 + r))
  clear s1 k1 hr1 S0 K0
  go_upto_region 2 with fail
  refine wp_gen (R := fun W => StL w g A n cap bs [20 + r] (some ⟨w1.heap.size, 0, none⟩) 1 W) ST.out ?_
  rintro W hst
  have ST1 := Go.Lib.hid hst
  clear hst ST
  go_wp2_with fail
  refine (HN.out _ _ ST1.out.src).mono ?_
  rintro _ w2 ⟨k, rfl, hk0, hk1, s2, k2⟩
  have hk2 : k ≤ 3 := by omega
  have ST2 := Go.Lib.hid (ST1.out.next HG.out s2 k2)
  clear s2 k2 hk1 ST1
  go_wp2_with fail
  go_loopw [3, 4] (fun o i wr => ∃ (ys : List Int) (D : Option Addr) (d : Nat) (j : Int) (m : Nat), o = .slice D m d ∧ ys.length = m ∧ i = .int .i64 j ∧ 0 ≤ j ∧ 1 ≤ m ∧ (m : Int) + j ≤ 4 ∧ StL w g A n cap bs ys D d wr) (fun _ i _ => (intOf i).toNat)
  case atStart => exact ⟨[20 + r], _, 1, k, 1, rfl, rfl, rfl, hk0, Nat.le_refl _, by omega, ST2.out⟩
  case round =>
    obtain ⟨ys, D, d, j, m, rfl, hm, rfl, hj0, hm1, hmj, hst⟩ := hrel
    have HM := Go.Lib.hid hm
    clear ST2 hm
    have ST3 := Go.Lib.hid hst
    clear hst
    by_cases hj : 0 < j
    case pos =>
      go_wp2_with fail
      refine (HN.out _ _ ST3.out.src).mono ?_
      rintro _ w5 ⟨a, rfl, ha0, ha1, s5, k5⟩
      have st5 := ST3.out.next HG.out s5 k5
      have hown := st5.ow.1
      rw [HM.out] at hown
      have hbs := st5.kp.size
      have ST5 := Go.Lib.hid st5
      have ha2 : a ≤ 12 := by omega
      clear s5 k5 ST3 st5 ha1
      go_wp2_with (at_builtin; refine wpList_append_own_at _ rfl _ _ 24 rfl w.heap.size 2 i0 (.int .i64 0) 1 8 Try.underlying24 hi hz0 hz1 hz2 rfl (by decide) _ _ _ rfl (hown.alloc _) ⟨w5.heap.size, 0, none⟩ 1 1 [.int .i64 (a - 8)] rfl rfl (cell_one_new _ _ _) (by simp [Value.oneCell']) (by unfold maxLen; omega) (by omega) (by simp; omega) ?_; intro v' w6 hown' hgrow hnil hat; clear hnil hat; obtain ⟨B6, c6, rfl, hst6⟩ := ST5.out.append HG.out HM.out hown' hgrow; have ST6 := Go.Lib.hid hst6; clear hown hown' hgrow hst6)
      go_roundw
      case rel => exact ⟨ys ++ [a - 8], B6, c6, j - 1, m + 1, rfl, by rw [List.length_append, HM.out]; rfl, rfl, by omega, by omega, by omega, ST6.out⟩
      case measure => simp [intOf]; omega
    case neg =>
      go_wp2_with fail
      refine (HN.out _ _ ST3.out.src).mono ?_
      rintro _ w5 ⟨v, rfl, hv0, -, s5, k5⟩
      have st5 := ST3.out.next HG.out s5 k5
      have ST5 := Go.Lib.hid st5
      clear s5 k5 ST3
      by_cases h0 : v = 0
      case pos =>
        obtain ⟨gd, hD, hgd, -, -⟩ := st5.ow.form (show 0 < ys.length by rw [HM.out]; exact hm1)
        subst hD
        have HP := Go.Lib.hid (fun t cs (hc : cs = (ints [0, 1, 200, 201]).toArray) => pickNew g A n cap bs w5 st5.src [0, 1, 200, 201] 4 rfl (by omega) (by omega) (fun x => True) (fun _ _ => trivial) (t := t) hc)
        have HGD := Go.Lib.hid hgd
        have hmi : (0 : Int) < m := by omega
        subst h0
        clear st5
        go_wp2_with fail
        refine (HP.out _ _ rfl).mono ?_
        rintro _ w6 ⟨x, rfl, -, s6, k6⟩
        have st6 := ST5.out.next HG.out s6 k6
        have hc0 : w6.cell? ⟨gd, 0, none⟩ = some (.int .i64 (ys.getD 0 0)) := (st6.ow.cell (by rw [HM.out]; exact hm1)).trans (ints_at ys 0 (by rw [HM.out]; exact hm1))
        have f0 := st6.ow.free 0
        have HE := Go.Lib.hid (st6.set (z := x) HG.out HGD.out 0)
        clear s6 k6 st6
        generalize ys.getD 0 0 = y0 at *
        go_wp2_with fail
        go_ret
        exact ⟨_, _, d, by rw [List.length_set, HM.out]; rfl, by rw [List.length_set, HM.out]; omega, HE.out.r⟩
      case neg =>
      have hb0 : (v == 0) = false := by simpa using h0
      by_cases h1 : v = 1
      case pos =>
        have hown := st5.ow.1
        rw [HM.out] at hown
        have hbs := st5.kp.size
        subst h1
        clear st5 h0
        go_wp2_with (at_builtin; refine wpList_append_own_at _ rfl _ _ 24 rfl w.heap.size 2 i0 (.int .i64 0) 1 8 Try.underlying24 hi hz0 hz1 hz2 rfl (by decide) _ _ _ rfl (hown.alloc _) ⟨w5.heap.size, 0, none⟩ 1 1 [.int .i64 (-100)] rfl rfl (cell_one_new _ _ _) (by simp [Value.oneCell']) (by unfold maxLen; omega) (by omega) (by simp; omega) ?_; intro v' w6 hown' hgrow hnil hat; clear hnil hat; obtain ⟨B6, c6, rfl, hst6⟩ := ST5.out.append HG.out HM.out hown' hgrow; have ST6 := Go.Lib.hid hst6; clear hown hown' hgrow hst6)
        go_ret
        exact ⟨_, B6, c6, by rw [List.length_append, HM.out]; rfl, by rw [List.length_append, HM.out]; simp; omega, ST6.out.r⟩
      case neg =>
        have hb1 : (v == 1) = false := by simpa using h1
        clear st5 h0 h1
        go_wp2_with fail
        go_ret
        exact ⟨ys, D, d, by rw [HM.out]; rfl, by rw [HM.out]; omega, ST5.out.r⟩
set_option maxRecDepth 100000 in
set_option maxHeartbeats 16000000 in
theorem drawT (g : Nat) (A : Option Addr) (n cap : Nat) (bs : List Int) (w : World) (h : Src w g A n cap bs) :
    Calls Try.prog 41 #[.pointer (some ⟨g, 0, none⟩)] w (DrawnL w g A n cap bs 3 49) := by
  have HN := Go.Lib.hid (fun (m : Int) (w0 : World) (s : Src w0 g A n cap bs) => next g A n cap bs m w0 s)
  have HG := Go.Lib.hid h.lt
  have S0 := Go.Lib.hid (StL.empty h (Keep.refl g (g + 1) w))
  obtain ⟨i0, hi, hz0, hz1, hz2⟩ := info_parts infoI64
  clear h
  go_enter Try.func41, Try.ntmps41
  go_upto_region 2 with fail
  refine wp_gen (R := fun W => StL w g A n cap bs [] (some ⟨w.heap.size, 0, none⟩) 0 W) S0.out ?_
  rintro W hst
  have ST0 := Go.Lib.hid hst
  clear hst S0
  go_wp2_with fail
  refine (HN.out _ _ ST0.out.src).mono ?_
  rintro _ w1 ⟨r, rfl, hr0, hr1, s1, k1⟩
  have hr2 : r ≤ 499 := by omega
  have ST1 := Go.Lib.hid (ST0.out.next HG.out s1 k1)
  clear s1 k1 hr1 ST0
  go_wp2_with fail
  refine (HN.out _ _ ST1.out.src).mono ?_
  rintro _ w2 ⟨k, rfl, hk0, hk1, s2, k2⟩
  have hk2 : k ≤ 11 := by omega
  have ST2 := Go.Lib.hid (ST1.out.next HG.out s2 k2)
  clear s2 k2 hk1 ST1
  go_wp2_with fail
  go_loopw [3, 5] (fun o i wr => ∃ (ys : List Int) (D : Option Addr) (d : Nat) (j : Int) (m : Nat), o = .slice D m d ∧ ys.length = m ∧ i = .int .i64 j ∧ 0 ≤ j ∧ (m : Int) + j = 4 + k ∧ StL w g A n cap bs ys D d wr) (fun _ i _ => (intOf i).toNat)
  case atStart => exact ⟨[], _, 0, 4 + k, 0, rfl, rfl, rfl, by omega, by omega, ST2.out⟩
  case round =>
    obtain ⟨ys, D, d, j, m, rfl, hm, rfl, hj0, hmj, hst⟩ := hrel
    have HM := Go.Lib.hid hm
    clear ST2 hm
    have ST3 := Go.Lib.hid hst
    clear hst
    by_cases hj : 0 < j
    case pos =>
      go_wp2_with fail
      refine (HN.out _ _ ST3.out.src).mono ?_
      rintro _ w5 ⟨a, rfl, ha0, ha1, s5, k5⟩
      have st5 := ST3.out.next HG.out s5 k5
      have hown := st5.ow.1
      rw [HM.out] at hown
      have hbs := st5.kp.size
      have ST5 := Go.Lib.hid st5
      have ha2 : a ≤ 199 := by omega
      clear s5 k5 ST3 st5 ha1
      go_wp2_with (at_builtin; refine wpList_append_own_at _ rfl _ _ 24 rfl w.heap.size 2 i0 (.int .i64 0) 1 8 Try.underlying24 hi hz0 hz1 hz2 rfl (by decide) _ _ _ rfl (hown.alloc _) ⟨w5.heap.size, 0, none⟩ 1 1 [.int .i64 (600 + r + a - 100)] rfl rfl (cell_one_new _ _ _) (by simp [Value.oneCell']) (by unfold maxLen; omega) (by omega) (by simp; omega) ?_; intro v' w6 hown' hgrow hnil hat; clear hnil hat; obtain ⟨B6, c6, rfl, hst6⟩ := ST5.out.append HG.out HM.out hown' hgrow; have ST6 := Go.Lib.hid hst6; clear hown hown' hgrow hst6)
      go_roundw
      case rel => exact ⟨ys ++ [600 + r + a - 100], B6, c6, j - 1, m + 1, rfl, by rw [List.length_append, HM.out]; rfl, rfl, by omega, by omega, ST6.out⟩
      case measure => simp [intOf]; omega
    case neg =>
      have hm4 : 4 ≤ m := by omega
      have hm15 : m ≤ 15 := by omega
      clear hmj
      go_wp2_with fail
      refine (HN.out _ _ ST3.out.src).mono ?_
      rintro _ w5 ⟨v, rfl, hv0, -, s5, k5⟩
      have st5 := ST3.out.next HG.out s5 k5
      have ST5 := Go.Lib.hid st5
      have hle := st5.ow.le
      clear s5 k5 ST3
      by_cases h0 : v = 0
      case pos =>
        obtain ⟨gd, hD, hgd, -, -⟩ := st5.ow.form (show 0 < ys.length by rw [HM.out]; omega)
        subst hD
        have HP := Go.Lib.hid (fun t cs (hc : cs = (ints [-1, 0, 3000, 3001]).toArray) => pickNew g A n cap bs w5 st5.src [-1, 0, 3000, 3001] 4 rfl (by omega) (by omega) (fun x => True) (fun _ _ => trivial) (t := t) hc)
        have HGD := Go.Lib.hid hgd
        have hmi : (0 : Int) < m := by omega
        subst h0
        clear st5 hle
        go_wp2_with fail
        refine (HP.out _ _ rfl).mono ?_
        rintro _ w6 ⟨x, rfl, -, s6, k6⟩
        have st6 := ST5.out.next HG.out s6 k6
        have hc0 : w6.cell? ⟨gd, 0, none⟩ = some (.int .i64 (ys.getD 0 0)) := (st6.ow.cell (by rw [HM.out]; omega)).trans (ints_at ys 0 (by rw [HM.out]; omega))
        have f0 := st6.ow.free 0
        have HE := Go.Lib.hid (st6.set (z := x) HG.out HGD.out 0)
        clear s6 k6 st6
        generalize ys.getD 0 0 = y0 at *
        go_wp2_with fail
        go_ret
        exact ⟨_, _, d, by rw [List.length_set, HM.out]; rfl, by rw [List.length_set, HM.out]; omega, HE.out.r⟩
      case neg =>
      have hb0 : (v == 0) = false := by simpa using h0
      by_cases h1 : v = 1
      case pos =>
        rw [HM.out] at hle
        have hd3 : (3 : Int) ≤ d := by omega
        have hmd : (m : Int) ≤ d := by omega
        have hl3 : (ys.take 3).length = 3 := by rw [List.length_take, HM.out]; omega
        have HR := Go.Lib.hid (ST5.out.r.take (k := 3) (by rw [HM.out]; omega))
        have HL3 := Go.Lib.hid hl3
        subst h1
        clear st5 h0 hl3
        go_wp2_with fail
        go_ret
        exact ⟨ys.take 3, D, d, by rw [HL3.out]; rfl, by rw [HL3.out]; omega, HR.out⟩
      case neg =>
      have hb1 : (v == 1) = false := by simpa using h1
      by_cases h2 : v = 2
      case pos =>
        subst h2
        clear st5 h0 h1 hle
        go_wp2_with fail
        go_loopw [3] (fun o wr => ∃ (ys : List Int) (D : Option Addr) (d : Nat) (m : Nat), o = .slice D m d ∧ ys.length = m ∧ 4 ≤ m ∧ m ≤ 49 ∧ StL w g A n cap bs ys D d wr) (fun o _ => 49 - lenM o)
        case atStart => exact ⟨ys, D, d, m, rfl, HM.out, hm4, by omega, ST5.out⟩
        case round =>
          obtain ⟨us, E, e, l, rfl, hl, hl4, hl49, hst⟩ := hrel
          clear ST5 HM
          have HM := Go.Lib.hid hl
          have ST7 := Go.Lib.hid hst
          clear hl hst
          go_wp2_with fail
          refine (HN.out _ _ ST7.out.src).mono ?_
          rintro _ w7 ⟨q, rfl, hq0, hq1, s7, k7⟩
          have st8 := ST7.out.next HG.out s7 k7
          have hq2 : q ≤ 1 := by omega
          have hown := st8.ow.1
          rw [HM.out] at hown
          have hbs := st8.kp.size
          have ST8 := Go.Lib.hid st8
          clear s7 k7 ST7 st8 hq1
          by_cases hlt : (l : Int) < 48 + q
          case pos =>
            go_wp2_with (at_builtin; refine wpList_append_own_at _ rfl _ _ 24 rfl w.heap.size 2 i0 (.int .i64 0) 1 8 Try.underlying24 hi hz0 hz1 hz2 rfl (by decide) _ _ _ rfl (hown.alloc _) ⟨w7.heap.size, 0, none⟩ 1 1 [.int .i64 (600 + r)] rfl rfl (cell_one_new _ _ _) (by simp [Value.oneCell']) (by unfold maxLen; omega) (by omega) (by simp; omega) ?_; intro v' w6 hown' hgrow hnil hat; clear hnil hat; obtain ⟨B6, c6, rfl, hst6⟩ := ST8.out.append HG.out HM.out hown' hgrow; have ST6 := Go.Lib.hid hst6; clear hown hown' hgrow hst6)
            go_roundw
            case rel => exact ⟨us ++ [600 + r], B6, c6, l + 1, rfl, by rw [List.length_append, HM.out]; rfl, by omega, by omega, ST6.out⟩
            case measure => simp [lenM]; omega
          case neg =>
            clear hown
            go_wp2_with fail
            go_ret
            exact ⟨us, E, e, by rw [HM.out]; rfl, by rw [HM.out]; omega, ST8.out.r⟩
      case neg =>
        have hb2 : (v == 2) = false := by simpa using h2
        clear st5 h0 h1 h2
        go_wp2_with fail
        go_ret
        exact ⟨ys, D, d, by rw [HM.out]; rfl, by rw [HM.out]; omega, ST5.out.r⟩
end Go.Proofs.Ytpcaakmcjdginab
