/- The program: the gear with two indices. -/
import Derived.Test.YthedanpldebjcaaGearI1
import Derived.OrdersHeld
namespace Go.Proofs.Ythedanpldebjcaa
open Go.RowKit
section
end
set_option linter.unusedSimpArgs false
set_option linter.unusedVariables false

def gearAtV (x : Trn) (f r : Int) : Value := if trainB x then if gearB x f r then gV f r (fI x f.toNat) (rI x r.toNat) else gV 0 0 0 0 else gV 0 0 0 0
theorem cells4 {w : World} {q : Nat} {a b c d : Int} (h : Box w q (gC a b c d)) : w.cell? ⟨q, 0, none⟩ = some (.int .i64 a) ∧ w.cell? ⟨q, 1, none⟩ = some (.int .i64 b) ∧ w.cell? ⟨q, 2, none⟩ = some (.int .i64 c) ∧ w.cell? ⟨q, 3, none⟩ = some (.int .i64 d) :=
  ⟨h.at_ 0 _ rfl, h.at_ 1 _ rfl, h.at_ 2 _ rfl, h.at_ 3 _ rfl⟩
/-- A gear's variable is written anew. -/
def put4 (w : World) (q k : Nat) (a b c d : Int) : World := (((w.setCell ⟨q, k, none⟩ (.int .i64 a)).setCell ⟨q, k + 1, none⟩ (.int .i64 b)).setCell ⟨q, k + 2, none⟩ (.int .i64 c)).setCell ⟨q, k + 3, none⟩ (.int .i64 d)
theorem put4_box {w : World} {q : Nat} {a b c d a2 b2 c2 d2 : Int} (h : Box w q (gC a b c d)) : Box (put4 w q 0 a2 b2 c2 d2) q (gC a2 b2 c2 d2) :=
  (((h.set (k := 0) (.int .i64 a2) (by simp [gC])).set (k := 1) (.int .i64 b2) (by simp [gC])).set (k := 2) (.int .i64 c2) (by simp [gC])).set (k := 3) (.int .i64 d2) (by simp [gC])
theorem put4_keep (w : World) (q k : Nat) (a b c d : Int) : Keep q (q + 1) w (put4 w q k a b c d) :=
  ((((Keep.refl q (q + 1) w).setCell (p := ⟨q, k, none⟩) (Nat.le_refl _) (Nat.lt_succ_self _) _).setCell (p := ⟨q, k + 1, none⟩) (Nat.le_refl _) (Nat.lt_succ_self _) _).setCell (p := ⟨q, k + 2, none⟩) (Nat.le_refl _) (Nat.lt_succ_self _) _).setCell (p := ⟨q, k + 3, none⟩) (Nat.le_refl _) (Nat.lt_succ_self _) _
theorem put4_far {b q : Nat} (h : b ≠ q) (w : World) (o k : Nat) (a1 b1 c1 d1 : Int) : (put4 w q k a1 b1 c1 d1).cell? ⟨b, o, none⟩ = w.cell? ⟨b, o, none⟩ := by
  unfold put4
  rw [cell_far h, cell_far h, cell_far h, cell_far h]
set_option maxRecDepth 100000 in
set_option maxHeartbeats 4000000 in
theorem implGearAt (x : Trn) (A : Option Addr) (c : Nat) (B : Option Addr) (d : Nat) (f r : Int) (w : World) (T : TrL x A c B d w) :
    Calls Try.prog 79 #[trainV x A c B d, .int .i64 f, .int .i64 r] w (IsV w (.tuple #[gearAtV x f r, .int .i64 (code9 x f r)])) := by
  have hfl := T.f.few
  have hrl := T.r.few
  have HT := Go.Lib.hid T
  have HX := Go.Lib.hid ((boxT_box x A c B d w).alloc (.cells #[.int .i64 0, .int .i64 0, .int .i64 0, .int .i64 0] 76))
  have HG := Go.Lib.hid (show Box ((boxT x A c B d w).alloc (.cells #[.int .i64 0, .int .i64 0, .int .i64 0, .int .i64 0] 76)) (w.heap.size + 1) (gC 0 0 0 0) from Box.new (by simp [boxT]) rfl)
  have HXB := Go.Lib.hid ((boxT_below x A c B d w).alloc (boxT_below x A c B d w).size (.cells #[.int .i64 0, .int .i64 0, .int .i64 0, .int .i64 0] 76))
  clear T
  have H1 := Go.Lib.hid (fun w0 T0 => implTrain x A c B d w0 T0)
  have HP1 := Go.Lib.hid (fun w0 => implPlace x.f.length f w0 (by omega) (by omega))
  have HP2 := Go.Lib.hid (fun w0 => implPlace x.r.length r w0 (by omega) (by omega))
  unfold trainV
  by_cases ht : trainB x = true
  case neg =>
    have HV := Go.Lib.hid (show gearAtV x f r = gV 0 0 0 0 by unfold gearAtV; rw [if_neg ht])
    have HC := Go.Lib.hid (show code9 x f r = 1 by unfold code9; rw [if_neg ht])
    rw [Bool.not_eq_true] at ht
    rw [ht] at H1
    rw [HV.out, HC.out]
    clear ht HV HC
    unfold gV
    go_enter Try.func79, Try.ntmps79
    go_upto_region 1 with fail
    refine wp_gen (R := fun W => Box W w.heap.size (trainC x A c B d) ∧ Box W (w.heap.size + 1) (gC 0 0 0 0) ∧ Below w.heap.size w W) ⟨HX.out, HG.out, HXB.out⟩ ?_
    rintro W ⟨hx, hg, hb⟩
    have HX1 := Go.Lib.hid hx
    have HG1 := Go.Lib.hid hg
    have HB1 := Go.Lib.hid hb
    have HT1 := Go.Lib.hid (HT.out.below hb)
    clear hx hg hb HX HG HXB
    have hc0 : W.cell? ⟨w.heap.size, 0, none⟩ = some (.slice A x.f.length c) := HX1.out.at_ 0 _ rfl
    have hc1 : W.cell? ⟨w.heap.size, 1, none⟩ = some (.slice B x.r.length d) := HX1.out.at_ 1 _ rfl
    have hc2 : W.cell? ⟨w.heap.size, 2, none⟩ = some (.int .i64 x.n) := HX1.out.at_ 2 _ rfl
    go_wp2_with fail
    refine (H1.out _ HT1.out).mono ?_
    rintro _ w2 ⟨rfl, b2⟩
    have HX2 := Go.Lib.hid (HX1.out.below b2)
    have HG2 := Go.Lib.hid (HG1.out.below b2)
    have HB2 := Go.Lib.hid (upB HB1.out b2)
    have HT2 := Go.Lib.hid (HT1.out.below b2)
    clear b2 hc0 hc1 hc2
    have hc0 : w2.cell? ⟨w.heap.size, 0, none⟩ = some (.slice A x.f.length c) := HX2.out.at_ 0 _ rfl
    have hc1 : w2.cell? ⟨w.heap.size, 1, none⟩ = some (.slice B x.r.length d) := HX2.out.at_ 1 _ rfl
    have hg0 : w2.cell? ⟨w.heap.size + 1, 0, none⟩ = some (.int .i64 0) := HG2.out.at_ 0 _ rfl
    have hg1 : w2.cell? ⟨w.heap.size + 1, 1, none⟩ = some (.int .i64 0) := HG2.out.at_ 1 _ rfl
    have hg2 : w2.cell? ⟨w.heap.size + 1, 2, none⟩ = some (.int .i64 0) := HG2.out.at_ 2 _ rfl
    have hg3 : w2.cell? ⟨w.heap.size + 1, 3, none⟩ = some (.int .i64 0) := HG2.out.at_ 3 _ rfl
    have hf0 := HG2.out.fr 0
    have hf1 := HG2.out.fr 1
    have hf2 := HG2.out.fr 2
    have hf3 := HG2.out.fr 3
    go_wp2_with fail
    have hk := put4_keep w2 (w.heap.size + 1) 0 0 0 0 0
    have HE := Go.Lib.hid (HB2.out.trans (hk.below (Nat.le_succ _) HB2.out.size))
    have HQ := Go.Lib.hid (put4_box (a2 := 0) (b2 := 0) (c2 := 0) (d2 := 0) HG2.out)
    change bodyPost _ _ _ _ _ (put4 w2 (w.heap.size + 1) 0 0 0 0 0)
    generalize put4 w2 (w.heap.size + 1) 0 0 0 0 0 = WE at *
    obtain ⟨q0, q1, q2, q3⟩ := cells4 HQ.out
    clear hk hg0 hg1 hg2 hg3 hf0 hf1 hf2 hf3 hc0 hc1
    refine bodyPost_ret (v := .tuple #[gV 0 0 0 0, .int .i64 1]) (by simp [results, Try.results79, go_sem, gV, *]) rfl ⟨rfl, HE.out⟩
  case pos =>
    have HC9 := Go.Lib.hid (show code9 x f r = if gearB x f r then 0 else 2 by unfold code9; rw [if_pos ht])
    have HV9 := Go.Lib.hid (show gearAtV x f r = if gearB x f r then gV f r (fI x f.toNat) (rI x r.toNat) else gV 0 0 0 0 by unfold gearAtV; rw [if_pos ht])
    have HG9 := Go.Lib.hid (show gearB x f r = (inB f 0 ((x.f.length : Int) - 1) && inB r 0 ((x.r.length : Int) - 1)) from rfl)
    rw [ht] at H1
    by_cases hf : inB f 0 ((x.f.length : Int) - 1) = true
    case neg =>
      rw [Bool.not_eq_true] at hf
      rw [hf] at HP1 HG9
      rw [HG9.out, Bool.false_and] at HC9 HV9
      rw [HV9.out, HC9.out]
      clear ht hf HG9 HC9 HV9
      simp only [Bool.false_eq_true, if_false]
      unfold gV
      go_enter Try.func79, Try.ntmps79
      go_upto_region 1 with fail
      refine wp_gen (R := fun W => Box W w.heap.size (trainC x A c B d) ∧ Box W (w.heap.size + 1) (gC 0 0 0 0) ∧ Below w.heap.size w W) ⟨HX.out, HG.out, HXB.out⟩ ?_
      rintro W ⟨hx, hg, hb⟩
      have HX1 := Go.Lib.hid hx
      have HG1 := Go.Lib.hid hg
      have HB1 := Go.Lib.hid hb
      have HT1 := Go.Lib.hid (HT.out.below hb)
      clear hx hg hb HX HG HXB
      have hc0 : W.cell? ⟨w.heap.size, 0, none⟩ = some (.slice A x.f.length c) := HX1.out.at_ 0 _ rfl
      have hc1 : W.cell? ⟨w.heap.size, 1, none⟩ = some (.slice B x.r.length d) := HX1.out.at_ 1 _ rfl
      have hc2 : W.cell? ⟨w.heap.size, 2, none⟩ = some (.int .i64 x.n) := HX1.out.at_ 2 _ rfl
      go_wp2_with fail
      refine (H1.out _ HT1.out).mono ?_
      rintro _ w2 ⟨rfl, b2⟩
      have HX2 := Go.Lib.hid (HX1.out.below b2)
      have HG2 := Go.Lib.hid (HG1.out.below b2)
      have HB2 := Go.Lib.hid (upB HB1.out b2)
      have HT2 := Go.Lib.hid (HT1.out.below b2)
      clear b2 hc0 hc1 hc2
      have hc0 : w2.cell? ⟨w.heap.size, 0, none⟩ = some (.slice A x.f.length c) := HX2.out.at_ 0 _ rfl
      have hc1 : w2.cell? ⟨w.heap.size, 1, none⟩ = some (.slice B x.r.length d) := HX2.out.at_ 1 _ rfl
      have hg0 : w2.cell? ⟨w.heap.size + 1, 0, none⟩ = some (.int .i64 0) := HG2.out.at_ 0 _ rfl
      have hg1 : w2.cell? ⟨w.heap.size + 1, 1, none⟩ = some (.int .i64 0) := HG2.out.at_ 1 _ rfl
      have hg2 : w2.cell? ⟨w.heap.size + 1, 2, none⟩ = some (.int .i64 0) := HG2.out.at_ 2 _ rfl
      have hg3 : w2.cell? ⟨w.heap.size + 1, 3, none⟩ = some (.int .i64 0) := HG2.out.at_ 3 _ rfl
      have hf0 := HG2.out.fr 0
      have hf1 := HG2.out.fr 1
      have hf2 := HG2.out.fr 2
      have hf3 := HG2.out.fr 3
      go_wp2_with fail
      refine (HP1.out _).mono ?_
      rintro _ _ ⟨rfl, rfl⟩
      go_wp2_with fail
      have hk := put4_keep w2 (w.heap.size + 1) 0 0 0 0 0
      have HE := Go.Lib.hid (HB2.out.trans (hk.below (Nat.le_succ _) HB2.out.size))
      have HQ := Go.Lib.hid (put4_box (a2 := 0) (b2 := 0) (c2 := 0) (d2 := 0) HG2.out)
      change bodyPost _ _ _ _ _ (put4 w2 (w.heap.size + 1) 0 0 0 0 0)
      generalize put4 w2 (w.heap.size + 1) 0 0 0 0 0 = WE at *
      obtain ⟨q0, q1, q2, q3⟩ := cells4 HQ.out
      clear hk hg0 hg1 hg2 hg3 hf0 hf1 hf2 hf3 hc0 hc1
      refine bodyPost_ret (v := .tuple #[gV 0 0 0 0, .int .i64 2]) (by simp [results, Try.results79, go_sem, gV, *]) rfl ⟨rfl, HE.out⟩
    case pos =>
      by_cases hr : inB r 0 ((x.r.length : Int) - 1) = true
      case neg =>
        rw [Bool.not_eq_true] at hr
        rw [hf] at HP1 HG9
        rw [hr] at HP2 HG9
        rw [HG9.out, Bool.and_false] at HC9 HV9
        rw [HV9.out, HC9.out]
        clear ht hf hr HG9 HC9 HV9
        simp only [Bool.false_eq_true, if_false]
        unfold gV
        go_enter Try.func79, Try.ntmps79
        go_upto_region 1 with fail
        refine wp_gen (R := fun W => Box W w.heap.size (trainC x A c B d) ∧ Box W (w.heap.size + 1) (gC 0 0 0 0) ∧ Below w.heap.size w W) ⟨HX.out, HG.out, HXB.out⟩ ?_
        rintro W ⟨hx, hg, hb⟩
        have HX1 := Go.Lib.hid hx
        have HG1 := Go.Lib.hid hg
        have HB1 := Go.Lib.hid hb
        have HT1 := Go.Lib.hid (HT.out.below hb)
        clear hx hg hb HX HG HXB
        have hc0 : W.cell? ⟨w.heap.size, 0, none⟩ = some (.slice A x.f.length c) := HX1.out.at_ 0 _ rfl
        have hc1 : W.cell? ⟨w.heap.size, 1, none⟩ = some (.slice B x.r.length d) := HX1.out.at_ 1 _ rfl
        have hc2 : W.cell? ⟨w.heap.size, 2, none⟩ = some (.int .i64 x.n) := HX1.out.at_ 2 _ rfl
        go_wp2_with fail
        refine (H1.out _ HT1.out).mono ?_
        rintro _ w2 ⟨rfl, b2⟩
        have HX2 := Go.Lib.hid (HX1.out.below b2)
        have HG2 := Go.Lib.hid (HG1.out.below b2)
        have HB2 := Go.Lib.hid (upB HB1.out b2)
        have HT2 := Go.Lib.hid (HT1.out.below b2)
        clear b2 hc0 hc1 hc2
        have hc0 : w2.cell? ⟨w.heap.size, 0, none⟩ = some (.slice A x.f.length c) := HX2.out.at_ 0 _ rfl
        have hc1 : w2.cell? ⟨w.heap.size, 1, none⟩ = some (.slice B x.r.length d) := HX2.out.at_ 1 _ rfl
        have hg0 : w2.cell? ⟨w.heap.size + 1, 0, none⟩ = some (.int .i64 0) := HG2.out.at_ 0 _ rfl
        have hg1 : w2.cell? ⟨w.heap.size + 1, 1, none⟩ = some (.int .i64 0) := HG2.out.at_ 1 _ rfl
        have hg2 : w2.cell? ⟨w.heap.size + 1, 2, none⟩ = some (.int .i64 0) := HG2.out.at_ 2 _ rfl
        have hg3 : w2.cell? ⟨w.heap.size + 1, 3, none⟩ = some (.int .i64 0) := HG2.out.at_ 3 _ rfl
        have hf0 := HG2.out.fr 0
        have hf1 := HG2.out.fr 1
        have hf2 := HG2.out.fr 2
        have hf3 := HG2.out.fr 3
        go_wp2_with fail
        refine (HP1.out _).mono ?_
        rintro _ _ ⟨rfl, rfl⟩
        go_wp2_with fail
        refine (HP2.out _).mono ?_
        rintro _ _ ⟨rfl, rfl⟩
        go_wp2_with fail
        have hk := put4_keep w2 (w.heap.size + 1) 0 0 0 0 0
        have HE := Go.Lib.hid (HB2.out.trans (hk.below (Nat.le_succ _) HB2.out.size))
        have HQ := Go.Lib.hid (put4_box (a2 := 0) (b2 := 0) (c2 := 0) (d2 := 0) HG2.out)
        change bodyPost _ _ _ _ _ (put4 w2 (w.heap.size + 1) 0 0 0 0 0)
        generalize put4 w2 (w.heap.size + 1) 0 0 0 0 0 = WE at *
        obtain ⟨q0, q1, q2, q3⟩ := cells4 HQ.out
        clear hk hg0 hg1 hg2 hg3 hf0 hf1 hf2 hf3 hc0 hc1
        refine bodyPost_ret (v := .tuple #[gV 0 0 0 0, .int .i64 2]) (by simp [results, Try.results79, go_sem, gV, *]) rfl ⟨rfl, HE.out⟩
      case pos =>
        rw [hf] at HP1 HG9
        rw [hr] at HP2 HG9
        rw [HG9.out] at HC9 HV9
        rw [HV9.out, HC9.out]
        simp only [Bool.and_self, if_true]
        obtain ⟨f0, f1⟩ := inB_iff.1 hf
        obtain ⟨r0, r1⟩ := inB_iff.1 hr
        obtain ⟨fi, rfl⟩ := Int.eq_ofNat_of_zero_le f0
        obtain ⟨ri, rfl⟩ := Int.eq_ofNat_of_zero_le r0
        have hfi : fi < x.f.length := by omega
        have hri : ri < x.r.length := by omega
        clear ht hf hr HG9 HC9 HV9
        rw [Int.toNat_natCast, Int.toNat_natCast]
        unfold gV
        go_enter Try.func79, Try.ntmps79
        go_upto_region 1 with fail
        refine wp_gen (R := fun W => Box W w.heap.size (trainC x A c B d) ∧ Box W (w.heap.size + 1) (gC 0 0 0 0) ∧ Below w.heap.size w W) ⟨HX.out, HG.out, HXB.out⟩ ?_
        rintro W ⟨hx, hg, hb⟩
        have HX1 := Go.Lib.hid hx
        have HG1 := Go.Lib.hid hg
        have HB1 := Go.Lib.hid hb
        have HT1 := Go.Lib.hid (HT.out.below hb)
        clear hx hg hb HX HG HXB
        have hc0 : W.cell? ⟨w.heap.size, 0, none⟩ = some (.slice A x.f.length c) := HX1.out.at_ 0 _ rfl
        have hc1 : W.cell? ⟨w.heap.size, 1, none⟩ = some (.slice B x.r.length d) := HX1.out.at_ 1 _ rfl
        have hc2 : W.cell? ⟨w.heap.size, 2, none⟩ = some (.int .i64 x.n) := HX1.out.at_ 2 _ rfl
        go_wp2_with fail
        refine (H1.out _ HT1.out).mono ?_
        rintro _ w2 ⟨rfl, b2⟩
        have HX2 := Go.Lib.hid (HX1.out.below b2)
        have HG2 := Go.Lib.hid (HG1.out.below b2)
        have HB2 := Go.Lib.hid (upB HB1.out b2)
        have HT2 := Go.Lib.hid (HT1.out.below b2)
        clear b2 hc0 hc1 hc2
        have hc0 : w2.cell? ⟨w.heap.size, 0, none⟩ = some (.slice A x.f.length c) := HX2.out.at_ 0 _ rfl
        have hc1 : w2.cell? ⟨w.heap.size, 1, none⟩ = some (.slice B x.r.length d) := HX2.out.at_ 1 _ rfl
        have hg0 : w2.cell? ⟨w.heap.size + 1, 0, none⟩ = some (.int .i64 0) := HG2.out.at_ 0 _ rfl
        have hg1 : w2.cell? ⟨w.heap.size + 1, 1, none⟩ = some (.int .i64 0) := HG2.out.at_ 1 _ rfl
        have hg2 : w2.cell? ⟨w.heap.size + 1, 2, none⟩ = some (.int .i64 0) := HG2.out.at_ 2 _ rfl
        have hg3 : w2.cell? ⟨w.heap.size + 1, 3, none⟩ = some (.int .i64 0) := HG2.out.at_ 3 _ rfl
        have hf0 := HG2.out.fr 0
        have hf1 := HG2.out.fr 1
        have hf2 := HG2.out.fr 2
        have hf3 := HG2.out.fr 3
        go_wp2_with fail
        refine (HP1.out _).mono ?_
        rintro _ _ ⟨rfl, rfl⟩
        go_wp2_with fail
        refine (HP2.out _).mono ?_
        rintro _ _ ⟨rfl, rfl⟩
        obtain ⟨fb, fo, hAe, hfb, -⟩ := HT.out.f.at_ hfi
        obtain ⟨rb, ro, hBe, hrb, -⟩ := HT.out.r.at_ hri
        subst hAe hBe
        obtain ⟨fb2, fo2, e, -, fc⟩ := HT2.out.f.at_ hfi
        cases e
        obtain ⟨rb2, ro2, e, -, rc⟩ := HT2.out.r.at_ hri
        cases e
        have hcf : w2.cell? ⟨fb, fo + fi, none⟩ = some (.int .i64 (fI x fi)) := fc fi hfi
        have hcr : w2.cell? ⟨rb, ro + ri, none⟩ = some (.int .i64 (rI x ri)) := rc ri hri
        have i1 : (fi : Int) < x.f.length := by omega
        have i2 : (ri : Int) < x.r.length := by omega
        have n0 : w.heap.size ≠ w.heap.size + 1 := by omega
        have n1 : fb ≠ w.heap.size + 1 := by omega
        have n2 : rb ≠ w.heap.size + 1 := by omega
        clear fc rc
        generalize fI x fi = tf at *
        generalize rI x ri = tr at *
        go_upto_region 5 with fail
        refine wp_region_held_drew (S := fun w' => w'.cell? ⟨w.heap.size, 0, none⟩ = some (.slice (some ⟨fb, fo, none⟩) x.f.length c) ∧ w'.cell? ⟨w.heap.size, 1, none⟩ = some (.slice (some ⟨rb, ro, none⟩) x.r.length d) ∧ w'.cell? ⟨fb, fo + fi, none⟩ = some (.int .i64 tf) ∧ w'.cell? ⟨rb, ro + ri, none⟩ = some (.int .i64 tr)) (by kernel_rfl) (by exact ⟨hc0, hc1, hcf, hcr⟩) (fun hHeld => ?_)
        refine wpAnyH_take (i := 0) (v := ?vg1) rfl (by kernel_rfl) (by kernel_rfl) (by kernel_rfl) (fun _ _ _ h => h) (Or.inl ⟨by rfl, ?hyg1⟩) (by assumption) ?restg1
        case hyg1 => (intro w hSw; (try dsimp only at hSw); go_simp; try with_reducible rfl)
        try simp only [List.getElem_toArray, List.getElem_cons_succ, List.getElem_cons_zero, Act.put, List.setIfInBounds_toArray, List.set_cons_zero, List.set_cons_succ]
        refine wpAnyH_take (i := 1) (v := ?vg2) rfl (by kernel_rfl) (by kernel_rfl) (by kernel_rfl) (fun _ _ _ h => h) (Or.inl ⟨by rfl, ?hyg2⟩) (by assumption) ?restg2
        case hyg2 => (intro w hSw; (try dsimp only at hSw); go_simp; try with_reducible rfl)
        try simp only [List.getElem_toArray, List.getElem_cons_succ, List.getElem_cons_zero, Act.put, List.setIfInBounds_toArray, List.set_cons_zero, List.set_cons_succ]
        refine wpAnyH_take (i := 2) (v := ?vg3) rfl (by kernel_rfl) (by kernel_rfl) (by kernel_rfl) (fun _ _ _ h => h) (Or.inl ⟨by rfl, ?hyg3⟩) (by assumption) ?restg3
        case hyg3 => (intro w hSw; (try dsimp only at hSw); go_simp; try with_reducible rfl)
        try simp only [List.getElem_toArray, List.getElem_cons_succ, List.getElem_cons_zero, Act.put, List.setIfInBounds_toArray, List.set_cons_zero, List.set_cons_succ]
        refine wpAnyH_take (i := 3) (v := ?vg4) rfl (by kernel_rfl) (by kernel_rfl) (by kernel_rfl) (fun _ _ _ h => h) (Or.inl ⟨by rfl, ?hyg4⟩) (by assumption) ?restg4
        case hyg4 => (intro w hSw; (try dsimp only at hSw); go_simp; try with_reducible rfl)
        try simp only [List.getElem_toArray, List.getElem_cons_succ, List.getElem_cons_zero, Act.put, List.setIfInBounds_toArray, List.set_cons_zero, List.set_cons_succ]
        refine wpAnyH_take (i := 4) (v := ?vg5) rfl (by kernel_rfl) (by kernel_rfl) (by kernel_rfl) (fun _ _ _ h => h) (Or.inl ⟨by rfl, ?hyg5⟩) (by assumption) ?restg5
        case hyg5 => (intro w hSw; (try dsimp only at hSw); go_simp; try with_reducible rfl)
        try simp only [List.getElem_toArray, List.getElem_cons_succ, List.getElem_cons_zero, Act.put, List.setIfInBounds_toArray, List.set_cons_zero, List.set_cons_succ]
        refine wpAnyH_take (i := 5) (v := ?vg6) rfl (by kernel_rfl) (by kernel_rfl) (by kernel_rfl) (fun _ _ _ h => h) (Or.inl ⟨by rfl, ?hyg6⟩) (by assumption) ?restg6
        case hyg6 => (intro w hSw; (try dsimp only at hSw); go_simp; try with_reducible rfl)
        try simp only [List.getElem_toArray, List.getElem_cons_succ, List.getElem_cons_zero, Act.put, List.setIfInBounds_toArray, List.set_cons_zero, List.set_cons_succ]
        refine wpAnyH_take (i := 6) (v := ?vg7) rfl (by kernel_rfl) (by kernel_rfl) (by kernel_rfl) (fun _ _ _ h => h) (Or.inl ⟨by rfl, ?hyg7⟩) (by assumption) ?restg7
        case hyg7 => (intro w hSw; (try dsimp only at hSw); go_simp; try with_reducible rfl)
        try simp only [List.getElem_toArray, List.getElem_cons_succ, List.getElem_cons_zero, Act.put, List.setIfInBounds_toArray, List.set_cons_zero, List.set_cons_succ]
        refine wpAnyH_take (i := 7) (v := ?vg8) rfl (by kernel_rfl) (by kernel_rfl) (by kernel_rfl) (fun _ _ _ h => h) (Or.inl ⟨by rfl, ?hyg8⟩) (by assumption) ?restg8
        case hyg8 => (intro w hSw; (try dsimp only at hSw); go_simp; try with_reducible rfl)
        try simp only [List.getElem_toArray, List.getElem_cons_succ, List.getElem_cons_zero, Act.put, List.setIfInBounds_toArray, List.set_cons_zero, List.set_cons_succ]
        refine wpAnyH_take (i := 8) (v := ?vg9) rfl (by kernel_rfl) (by kernel_rfl) (by kernel_rfl) (fun _ _ _ h => h) (Or.inl ⟨by rfl, ?hyg9⟩) (by assumption) ?restg9
        case hyg9 => (intro w hSw; (try dsimp only at hSw); go_simp; try with_reducible rfl)
        try simp only [List.getElem_toArray, List.getElem_cons_succ, List.getElem_cons_zero, Act.put, List.setIfInBounds_toArray, List.set_cons_zero, List.set_cons_succ]
        refine wpAnyH_take (i := 9) (v := ?vg10) rfl (by kernel_rfl) (by kernel_rfl) (by kernel_rfl) (fun _ _ _ h => h) (Or.inl ⟨by rfl, ?hyg10⟩) (by assumption) ?restg10
        case hyg10 => (intro w hSw; (try dsimp only at hSw); go_simp; try with_reducible rfl)
        try simp only [List.getElem_toArray, List.getElem_cons_succ, List.getElem_cons_zero, Act.put, List.setIfInBounds_toArray, List.set_cons_zero, List.set_cons_succ]
        refine wpAnyH_take (i := 10) (v := ?vg11) rfl (by kernel_rfl) (by kernel_rfl) (by kernel_rfl) (fun _ _ _ h => h) (Or.inl ⟨by rfl, ?hyg11⟩) (by assumption) ?restg11
        case hyg11 => (intro w hSw; (try dsimp only at hSw); go_simp; try with_reducible rfl)
        try simp only [List.getElem_toArray, List.getElem_cons_succ, List.getElem_cons_zero, Act.put, List.setIfInBounds_toArray, List.set_cons_zero, List.set_cons_succ]
        refine wpAnyH_take (i := 11) (v := ?vg12) rfl (by kernel_rfl) (by kernel_rfl) (by kernel_rfl) (fun _ _ _ h => h) (Or.inl ⟨by rfl, ?hyg12⟩) (by assumption) ?restg12
        case hyg12 => (intro w hSw; (try dsimp only at hSw); go_simp; try with_reducible rfl)
        try simp only [List.getElem_toArray, List.getElem_cons_succ, List.getElem_cons_zero, Act.put, List.setIfInBounds_toArray, List.set_cons_zero, List.set_cons_succ]
        refine wpAnyH_take (i := 12) (v := ?vg13) rfl (by kernel_rfl) (by kernel_rfl) (by kernel_rfl) (fun _ _ _ h => h) (Or.inl ⟨by rfl, ?hyg13⟩) (by assumption) ?restg13
        case hyg13 => (intro w hSw; (try dsimp only at hSw); go_simp; try with_reducible rfl)
        try simp only [List.getElem_toArray, List.getElem_cons_succ, List.getElem_cons_zero, Act.put, List.setIfInBounds_toArray, List.set_cons_zero, List.set_cons_succ]
        refine wpAnyH_ready (rs := [13]) (by kernel_rfl) (by simp) ?_
        refine AllReadyH.cons rfl (fun K hK => ?_) AllReadyH.nil
        go_simp
        have HQ := (put4_box (a2 := (fi : Int)) (b2 := (ri : Int)) (c2 := tf) (d2 := tr) HG2.out).drew
        have HQ := Go.Lib.hid HQ
        have hk := put4_keep w2 (w.heap.size + 1) 0 (fi : Int) ri tf tr
        have HE := Go.Lib.hid (HB2.out.trans (hk.below (Nat.le_succ _) HB2.out.size)).drew
        clear hk
        refine hK.out _ _ ?_ (fun hHeld => ?_)
        · exact ⟨(put4_far n0 _ _ _ _ _ _ _).trans hc0, (put4_far n0 _ _ _ _ _ _ _).trans hc1, (put4_far n1 _ _ _ _ _ _ _).trans hcf, (put4_far n2 _ _ _ _ _ _ _).trans hcr⟩
        clear hK K
        try simp only [List.getElem_toArray, List.getElem_cons_succ, List.getElem_cons_zero, Act.put, List.setIfInBounds_toArray, List.set_cons_zero, List.set_cons_succ]
        refine wpAnyH_take (i := 14) (v := ?vg14) rfl (by kernel_rfl) (by kernel_rfl) (by kernel_rfl) (fun _ _ _ h => h) (Or.inl ⟨by rfl, ?hyg14⟩) (by assumption) ?restg14
        case hyg14 => (intro w hSw; (try dsimp only at hSw); go_simp; try with_reducible rfl)
        try simp only [List.getElem_toArray, List.getElem_cons_succ, List.getElem_cons_zero, Act.put, List.setIfInBounds_toArray, List.set_cons_zero, List.set_cons_succ]
        refine wpAnyH_done (by kernel_rfl) ?_ _
        change Exit.then _ _ _ _ (World.drew (put4 w2 (w.heap.size + 1) 0 (fi : Int) ri tf tr))
        generalize World.drew (put4 w2 (w.heap.size + 1) 0 (fi : Int) ri tf tr) = WE at *
        obtain ⟨q0, q1, q2, q3⟩ := cells4 HQ.out
        clear hg0 hg1 hg2 hg3 hf0 hf1 hf2 hf3 hc0 hc1 hcf hcr
        go_wp2_with fail
        refine bodyPost_ret (v := .tuple #[gV fi ri tf tr, .int .i64 0]) (by simp [results, Try.results79, go_sem, gV, *]) rfl ⟨rfl, HE.out⟩
end Go.Proofs.Ythedanpldebjcaa
