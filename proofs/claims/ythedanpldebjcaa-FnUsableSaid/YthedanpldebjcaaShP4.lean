/- The program of chapter 11: usable gears, and the moves of the chainring through them. -/
import Derived.Test.YthedanpldebjcaaShP2
import Derived.Test.YthedanpldebjcaaShiftS1
import Derived.Test.YthedanpldebjcaaGearI7
import Derived.Test.YthedanpldebjcaaMgUsable3
namespace Go.Proofs.Ythedanpldebjcaa
open Go.RowKit
set_option linter.unusedSimpArgs false
set_option linter.unusedVariables false

theorem code11_S (x : Trn) (lm : Int) : code11 x lm 0 0 = codeS x lm := by
  rw [← codeG_is]
  unfold codeG
  by_cases h : codeS x lm = 0
  · rw [if_pos h, h]
    have ht : trainB x = true := by
      unfold codeS at h
      cases hb : trainB x
      · rw [hb] at h; simp at h
      · rfl
    have hx := trainB_ok ht
    have h1 := hx.f.one
    have h2 := hx.r.one
    have hg : gearB x 0 0 = true := by
      unfold gearB
      simp only [Bool.and_eq_true, decide_eq_true_eq]
      omega
    exact (code9_ok ht hg).1
  · rw [if_neg h]
set_option maxRecDepth 100000 in
set_option maxHeartbeats 16000000 in
theorem implUsable (x : Trn) (A : Option Addr) (c : Nat) (B : Option Addr) (d : Nat) (lm : Int) (w : World) (T : TrL x A c B d w) :
    Calls Try.prog 26 #[trainV x A c B d, .int .i64 lm] w (GivesG (usableR x lm) w) := by
  obtain ⟨i0, hi, hz0, hz1, hz2⟩ := info_parts infoRow
  have HT := Go.Lib.hid T
  have HX := Go.Lib.hid (show Box ((boxT x A c B d w).alloc (.cells #[.slice A x.f.length c, .slice B x.r.length d, .int .i64 x.n, .int .i64 lm] 74)) (w.heap.size + 1) (shC x A c B d lm) from Box.new (by simp [boxT]) rfl)
  have HXB := Go.Lib.hid ((boxT_below x A c B d w).alloc (boxT_below x A c B d w).size (.cells #[.slice A x.f.length c, .slice B x.r.length d, .int .i64 x.n, .int .i64 lm] 74))
  clear T
  have HCK := Go.Lib.hid (fun w0 T0 => implCheck x A c B d lm w0 T0)
  unfold shV at HCK
  by_cases h0 : codeS x lm = 0
  case neg =>
    have HV := Go.Lib.hid (show usableR x lm = ([], codeS x lm) by unfold usableR; rw [code11_S, if_neg h0])
    generalize codeS x lm = z at *
    have hzb : (z != 0) = true := by simpa using h0
    clear h0
    unfold trainV
    go_enter Try.func26, Try.ntmps26
    go_upto_region 2 with fail
    refine wp_gen (R := fun W => Box W (w.heap.size + 1) (shC x A c B d lm) ∧ Below w.heap.size w W) ⟨HX.out, HXB.out⟩ ?_
    rintro W ⟨hx, hb⟩
    have HX1 := Go.Lib.hid hx
    have HB1 := Go.Lib.hid hb
    have HT1 := Go.Lib.hid (HT.out.below hb)
    clear hx hb HX HXB
    have hc0 : W.cell? ⟨w.heap.size + 1, 0, none⟩ = some (.slice A x.f.length c) := HX1.out.at_ 0 _ rfl
    have hc1 : W.cell? ⟨w.heap.size + 1, 1, none⟩ = some (.slice B x.r.length d) := HX1.out.at_ 1 _ rfl
    have hc2 : W.cell? ⟨w.heap.size + 1, 2, none⟩ = some (.int .i64 x.n) := HX1.out.at_ 2 _ rfl
    have hc3 : W.cell? ⟨w.heap.size + 1, 3, none⟩ = some (.int .i64 lm) := HX1.out.at_ 3 _ rfl
    go_wp2_with fail
    refine (HCK.out _ HT1.out).mono ?_
    rintro _ w2 ⟨rfl, b2⟩
    have HX2 := Go.Lib.hid (HX1.out.below b2)
    have HB2 := Go.Lib.hid (upB HB1.out b2)
    have HT2 := Go.Lib.hid (HT1.out.below b2)
    clear b2 hc0 hc1 hc2 hc3
    have hc0 : w2.cell? ⟨w.heap.size + 1, 0, none⟩ = some (.slice A x.f.length c) := HX2.out.at_ 0 _ rfl
    have hc1 : w2.cell? ⟨w.heap.size + 1, 1, none⟩ = some (.slice B x.r.length d) := HX2.out.at_ 1 _ rfl
    have hc2 : w2.cell? ⟨w.heap.size + 1, 2, none⟩ = some (.int .i64 x.n) := HX2.out.at_ 2 _ rfl
    have hc3 : w2.cell? ⟨w.heap.size + 1, 3, none⟩ = some (.int .i64 lm) := HX2.out.at_ 3 _ rfl
    go_wp2_with fail
    go_ret2
    exact GivesG.nil HV.out HB2.out
  case pos =>
    have HV := Go.Lib.hid (show usableR x lm = (rowsG (usableI x lm), 0) by unfold usableR; rw [code11_S, if_pos h0])
    have h11 : code11 x lm 0 0 = 0 := by rw [code11_S]; exact h0
    obtain ⟨ht, -, hl⟩ := code11_ok h11
    have HTR := Go.Lib.hid (trainB_ok ht)
    have HU := Go.Lib.hid (fun k (hk : k < (usableI x lm).length) => usable_at HTR.out lm hk)
    have hu36 : (usableI x lm).length ≤ 36 := Nat.le_trans (usable_few x lm) (ordI_few HTR.out)
    have HGA := Go.Lib.hid (fun w0 T0 => implGearsOf x A c B d lm false w0 T0 HTR.out (inB_iff.1 hl))
    rw [keep_usable] at HGA
    unfold shV at HGA
    rw [h0] at HCK
    clear h0 h11 ht hl
    generalize usableI x lm = U at *
    clear HU
    unfold trainV
    go_enter Try.func26, Try.ntmps26
    go_upto_region 2 with fail
    refine wp_gen (R := fun W => Box W (w.heap.size + 1) (shC x A c B d lm) ∧ Below w.heap.size w W) ⟨HX.out, HXB.out⟩ ?_
    rintro W ⟨hx, hb⟩
    have HX1 := Go.Lib.hid hx
    have HB1 := Go.Lib.hid hb
    have HT1 := Go.Lib.hid (HT.out.below hb)
    clear hx hb HX HXB
    have hc0 : W.cell? ⟨w.heap.size + 1, 0, none⟩ = some (.slice A x.f.length c) := HX1.out.at_ 0 _ rfl
    have hc1 : W.cell? ⟨w.heap.size + 1, 1, none⟩ = some (.slice B x.r.length d) := HX1.out.at_ 1 _ rfl
    have hc2 : W.cell? ⟨w.heap.size + 1, 2, none⟩ = some (.int .i64 x.n) := HX1.out.at_ 2 _ rfl
    have hc3 : W.cell? ⟨w.heap.size + 1, 3, none⟩ = some (.int .i64 lm) := HX1.out.at_ 3 _ rfl
    go_wp2_with fail
    refine (HCK.out _ HT1.out).mono ?_
    rintro _ w2 ⟨rfl, b2⟩
    have HX2 := Go.Lib.hid (HX1.out.below b2)
    have HB2 := Go.Lib.hid (upB HB1.out b2)
    have HT2 := Go.Lib.hid (HT1.out.below b2)
    clear b2 hc0 hc1 hc2 hc3
    have hc0 : w2.cell? ⟨w.heap.size + 1, 0, none⟩ = some (.slice A x.f.length c) := HX2.out.at_ 0 _ rfl
    have hc1 : w2.cell? ⟨w.heap.size + 1, 1, none⟩ = some (.slice B x.r.length d) := HX2.out.at_ 1 _ rfl
    have hc2 : w2.cell? ⟨w.heap.size + 1, 2, none⟩ = some (.int .i64 x.n) := HX2.out.at_ 2 _ rfl
    have hc3 : w2.cell? ⟨w.heap.size + 1, 3, none⟩ = some (.int .i64 lm) := HX2.out.at_ 3 _ rfl
    go_wp2_with fail
    refine (HGA.out _ HT2.out).mono ?_
    rintro _ w3 ⟨g, cap, rfl, hgs, hge, b3⟩
    have HGS := Go.Lib.hid hgs
    have HB3 := Go.Lib.hid (upB HB2.out b3)
    clear hgs hge b3 hc0 hc1 hc2 hc3
    have HG0 := Go.Lib.hid (show GatB w3 (U.take 0) [] (.slice none 0 0) w3 from GatB.nil w3)
    go_wp2_with fail
    go_loopw [8, 22] (fun v u wr => ∃ (k : Nat) (bs : List Nat), k ≤ U.length ∧ u = .int .i64 k ∧ GatB w3 (U.take k) bs v wr) (fun _ u _ => U.length - (intOf u).toNat)
    case atStart => exact ⟨0, [], Nat.zero_le _, rfl, HG0.out⟩
    case round =>
      obtain ⟨k, bs, hk, rfl, hgat⟩ := hrel
      have HGT := Go.Lib.hid hgat
      have hbq := hgat.b
      clear hgat HG0
      by_cases hlt : k < U.length
      case neg =>
        obtain rfl : k = U.length := by omega
        rw [List.take_length] at HGT
        have HF := Go.Lib.hid (HGT.out.done HV.out hu36 HB3.out)
        clear hbq
        go_wp2_with fail
        go_ret2
        exact HF.out
      case pos =>
        have hkl : (k : Int) < U.length := by omega
        have HSU := Go.Lib.hid (take_succ_G hlt)
        have HLE := Go.Lib.hid (show (U.take k).length = k by rw [List.length_take]; omega)
        obtain ⟨p0, p1, p2, p3⟩ := (HGS.out.below hbq).at_ hlt
        generalize U.take k = gs at *
        generalize U.getD k (0, 0) = p at *
        generalize fI x p.1 = pf at *
        generalize rI x p.2 = pr at *
        have HIX := Go.Lib.hid (fun w0 => implIndices p.1 p.2 pf pr w0)
        unfold gV at HIX
        have HBL := Go.Lib.hid (gbelow p.1 p.2 pf pr wr)
        have HGL := Go.Lib.hid (gbox p.1 p.2 pf pr wr)
        go_upto_region 9 with fail
        refine wp_gen (R := fun V => Box V wr.heap.size (gC p.1 p.2 pf pr) ∧ Below wr.heap.size wr V) ⟨HGL.out, HBL.out⟩ ?_
        rintro V ⟨hg, hv⟩
        obtain ⟨g0, g1, g2, g3⟩ := cells4 hg
        have HBV := Go.Lib.hid hv
        clear hg hv p0 p1 p2 p3 HGL HBL hbq
        go_wp2_with fail
        refine (HIX.out _).mono ?_
        rintro _ wq ⟨q, rfl, hx, hq, bq⟩
        have HBQ := Go.Lib.hid (HBV.out.trans (bq.mono HBV.out.size))
        have HXQ := Go.Lib.hid hx
        have HQG := Go.Lib.hid (Nat.le_trans HBV.out.size hq)
        have HGW := Go.Lib.hid (HGT.out.below HBQ.out)
        have hrow := HGW.out.row
        rw [HLE.out] at hrow
        have HSZ := Go.Lib.hid HGW.out.b.size
        clear hx hq bq g0 g1 g2 g3
        go_wp2_with (at_builtin; refine wpList_append_own_at _ rfl _ _ 42 rfl w3.heap.size 24 i0 (.slice none 0 0) 1 24 Try.underlying42 hi hz0 hz1 hz2 rfl (by decide) _ _ _ rfl (hrow.alloc _) ⟨wq.heap.size, 0, none⟩ 1 1 [.slice (some ⟨q, 0, none⟩) 2 2] rfl rfl (cell_one_new _ _ _) (by simp [Value.oneCell']) (by unfold maxLen; omega) (by omega) (by have := HSZ.out; simp; omega) ?_; intro v' w5 hown' hgrow hnil hat; clear hnil)
        have HGN := Go.Lib.hid (HGT.out.step HBQ.out HQG.out HXQ.out (by rw [HLE.out]; exact hown') hgrow hat)
        clear hown' hgrow hrow hat
        go_wp2_with fail
        go_roundw
        case rel => exact ⟨k + 1, bs ++ [q], by omega, by go_num, by rw [HSU.out]; exact HGN.out⟩
        case measure => simp [intOf]; omega
set_option maxRecDepth 100000 in
set_option maxHeartbeats 16000000 in
theorem implRing (x : Trn) (A : Option Addr) (c : Nat) (B : Option Addr) (d : Nat) (lm : Int) (w : World) (T : TrL x A c B d w) :
    Calls Try.prog 28 #[trainV x A c B d, .int .i64 lm] w (Gives2 (ringR x lm) w) := by
  have HT := Go.Lib.hid T
  have HX := Go.Lib.hid (show Box ((boxT x A c B d w).alloc (.cells #[.slice A x.f.length c, .slice B x.r.length d, .int .i64 x.n, .int .i64 lm] 74)) (w.heap.size + 1) (shC x A c B d lm) from Box.new (by simp [boxT]) rfl)
  have HXB := Go.Lib.hid ((boxT_below x A c B d w).alloc (boxT_below x A c B d w).size (.cells #[.slice A x.f.length c, .slice B x.r.length d, .int .i64 x.n, .int .i64 lm] 74))
  clear T
  have HCK := Go.Lib.hid (fun w0 T0 => implCheck x A c B d lm w0 T0)
  unfold shV at HCK
  by_cases h0 : codeS x lm = 0
  case neg =>
    have HV := Go.Lib.hid (show ringR x lm = (0, codeS x lm) by unfold ringR; rw [code11_S, if_neg h0])
    generalize codeS x lm = z at *
    have hzb : (z != 0) = true := by simpa using h0
    clear h0
    unfold trainV
    go_enter Try.func28, Try.ntmps28
    go_upto_region 2 with fail
    refine wp_gen (R := fun W => Box W (w.heap.size + 1) (shC x A c B d lm) ∧ Below w.heap.size w W) ⟨HX.out, HXB.out⟩ ?_
    rintro W ⟨hx, hb⟩
    have HX1 := Go.Lib.hid hx
    have HB1 := Go.Lib.hid hb
    have HT1 := Go.Lib.hid (HT.out.below hb)
    clear hx hb HX HXB
    have hc0 : W.cell? ⟨w.heap.size + 1, 0, none⟩ = some (.slice A x.f.length c) := HX1.out.at_ 0 _ rfl
    have hc1 : W.cell? ⟨w.heap.size + 1, 1, none⟩ = some (.slice B x.r.length d) := HX1.out.at_ 1 _ rfl
    have hc2 : W.cell? ⟨w.heap.size + 1, 2, none⟩ = some (.int .i64 x.n) := HX1.out.at_ 2 _ rfl
    have hc3 : W.cell? ⟨w.heap.size + 1, 3, none⟩ = some (.int .i64 lm) := HX1.out.at_ 3 _ rfl
    go_wp2_with fail
    refine (HCK.out _ HT1.out).mono ?_
    rintro _ w2 ⟨rfl, b2⟩
    have HX2 := Go.Lib.hid (HX1.out.below b2)
    have HB2 := Go.Lib.hid (upB HB1.out b2)
    have HT2 := Go.Lib.hid (HT1.out.below b2)
    clear b2 hc0 hc1 hc2 hc3
    have hc0 : w2.cell? ⟨w.heap.size + 1, 0, none⟩ = some (.slice A x.f.length c) := HX2.out.at_ 0 _ rfl
    have hc1 : w2.cell? ⟨w.heap.size + 1, 1, none⟩ = some (.slice B x.r.length d) := HX2.out.at_ 1 _ rfl
    have hc2 : w2.cell? ⟨w.heap.size + 1, 2, none⟩ = some (.int .i64 x.n) := HX2.out.at_ 2 _ rfl
    have hc3 : w2.cell? ⟨w.heap.size + 1, 3, none⟩ = some (.int .i64 lm) := HX2.out.at_ 3 _ rfl
    go_wp2_with fail
    go_ret2
    exact Gives2.of HV.out HB2.out
  case pos =>
    have HV := Go.Lib.hid (show ringR x lm = (ringTo (usableI x lm) ((usableI x lm).length - 1), 0) by unfold ringR; rw [code11_S, if_pos h0])
    have h11 : code11 x lm 0 0 = 0 := by rw [code11_S]; exact h0
    obtain ⟨ht, -, hl⟩ := code11_ok h11
    have HTR := Go.Lib.hid (trainB_ok ht)
    have HU := Go.Lib.hid (fun k (hk : k < (usableI x lm).length) => usable_at HTR.out lm hk)
    have hu36 : (usableI x lm).length ≤ 36 := Nat.le_trans (usable_few x lm) (ordI_few HTR.out)
    have HGA := Go.Lib.hid (fun w0 T0 => implGearsOf x A c B d lm false w0 T0 HTR.out (inB_iff.1 hl))
    rw [keep_usable] at HGA
    unfold shV at HGA
    rw [h0] at HCK
    clear h0 h11 ht hl
    generalize usableI x lm = U at *
    unfold trainV
    go_enter Try.func28, Try.ntmps28
    go_upto_region 2 with fail
    refine wp_gen (R := fun W => Box W (w.heap.size + 1) (shC x A c B d lm) ∧ Below w.heap.size w W) ⟨HX.out, HXB.out⟩ ?_
    rintro W ⟨hx, hb⟩
    have HX1 := Go.Lib.hid hx
    have HB1 := Go.Lib.hid hb
    have HT1 := Go.Lib.hid (HT.out.below hb)
    clear hx hb HX HXB
    have hc0 : W.cell? ⟨w.heap.size + 1, 0, none⟩ = some (.slice A x.f.length c) := HX1.out.at_ 0 _ rfl
    have hc1 : W.cell? ⟨w.heap.size + 1, 1, none⟩ = some (.slice B x.r.length d) := HX1.out.at_ 1 _ rfl
    have hc2 : W.cell? ⟨w.heap.size + 1, 2, none⟩ = some (.int .i64 x.n) := HX1.out.at_ 2 _ rfl
    have hc3 : W.cell? ⟨w.heap.size + 1, 3, none⟩ = some (.int .i64 lm) := HX1.out.at_ 3 _ rfl
    go_wp2_with fail
    refine (HCK.out _ HT1.out).mono ?_
    rintro _ w2 ⟨rfl, b2⟩
    have HX2 := Go.Lib.hid (HX1.out.below b2)
    have HB2 := Go.Lib.hid (upB HB1.out b2)
    have HT2 := Go.Lib.hid (HT1.out.below b2)
    clear b2 hc0 hc1 hc2 hc3
    have hc0 : w2.cell? ⟨w.heap.size + 1, 0, none⟩ = some (.slice A x.f.length c) := HX2.out.at_ 0 _ rfl
    have hc1 : w2.cell? ⟨w.heap.size + 1, 1, none⟩ = some (.slice B x.r.length d) := HX2.out.at_ 1 _ rfl
    have hc2 : w2.cell? ⟨w.heap.size + 1, 2, none⟩ = some (.int .i64 x.n) := HX2.out.at_ 2 _ rfl
    have hc3 : w2.cell? ⟨w.heap.size + 1, 3, none⟩ = some (.int .i64 lm) := HX2.out.at_ 3 _ rfl
    go_wp2_with fail
    refine (HGA.out _ HT2.out).mono ?_
    rintro _ w3 ⟨g, cap, rfl, hgs, hge, b3⟩
    have HGS := Go.Lib.hid hgs
    have HB3 := Go.Lib.hid (upB HB2.out b3)
    clear hgs hge b3 hc0 hc1 hc2 hc3
    go_wp2_with fail
    go_loopw [9, 10] (fun s i wr => ∃ k : Nat, 1 ≤ k ∧ k ≤ max 1 U.length ∧ i = .int .i64 k ∧ s = .int .i64 (ringTo U (k - 1)) ∧ Eqw w3 wr) (fun _ i _ => U.length - (intOf i).toNat)
    case atStart => exact ⟨1, Nat.le_refl _, by omega, rfl, rfl, Eqw.refl _⟩
    case round =>
      obtain ⟨k, hk1, hk, rfl, rfl, hw⟩ := hrel
      have HW := Go.Lib.hid hw
      have HBW := Go.Lib.hid (upB HB3.out hw.below)
      by_cases hlt : k < U.length
      case neg =>
        have HV2 := Go.Lib.hid (show ringR x lm = (ringTo U (k - 1), 0) by
          rw [HV.out]
          rcases Nat.eq_zero_or_pos U.length with h | h
          · rw [h, show k = 1 by omega]
          · rw [show k = U.length by omega])
        have hkl : ¬ (k : Int) < U.length := by omega
        clear hw
        go_wp2_with fail
        go_ret2
        exact Gives2.of HV2.out HBW.out
      case pos =>
        obtain ⟨c0, -, -, -⟩ := (HGS.out.below hw.below).at_ hlt
        obtain ⟨c1, -, -, -⟩ := (HGS.out.below hw.below).at_ (show k - 1 < U.length by omega)
        have HSU := Go.Lib.hid (show ringTo U (k - 1) + absI (((U.getD k (0, 0)).1 : Int) - ((U.getD (k - 1) (0, 0)).1 : Int)) = ringTo U k by
          have e : k = (k - 1) + 1 := by omega
          conv => rhs; rw [e]
          show _ = ringTo U (k - 1) + absI (((U.getD (k - 1 + 1) (0, 0)).1 : Int) - ((U.getD (k - 1) (0, 0)).1 : Int))
          rw [← e])
        have hrb := ringTo_bd (fun k hk => (HU.out k hk).2) k hlt
        have hrb1 := ringTo_bd (fun k hk => (HU.out k hk).2) (k - 1) (by omega)
        have hg1 := (HU.out k hlt).2
        have hg2 := (HU.out (k - 1) (by omega)).2
        have hkl : (k : Int) < U.length := by omega
        have hk0 : (0 : Int) ≤ (k : Int) := by omega
        have ek1 : IntKind.i64.wrap ((k : Int) - 1) = ((k - 1 : Nat) : Int) := (IntWalk.i64_in _ (by omega)).trans (by omega)
        have hk2 : ((k - 1 : Nat) : Int) < U.length := by omega
        have hk3 : (0 : Int) ≤ ((k - 1 : Nat) : Int) := by omega
        generalize U.getD k (0, 0) = gg at *
        generalize U.getD (k - 1) (0, 0) = pg at *
        have e1 : IntKind.i64.wrap (((gg.1 : Nat) : Int) - ((pg.1 : Nat) : Int)) = ((gg.1 : Nat) : Int) - ((pg.1 : Nat) : Int) := IntWalk.i64_in _ (by omega)
        have HAB := Go.Lib.hid (fun w0 => implAbs (((gg.1 : Nat) : Int) - ((pg.1 : Nat) : Int)) w0 (by omega) (by omega))
        rw [show max (((gg.1 : Nat) : Int) - ((pg.1 : Nat) : Int)) (-(((gg.1 : Nat) : Int) - ((pg.1 : Nat) : Int))) = absI (((gg.1 : Nat) : Int) - ((pg.1 : Nat) : Int)) from rfl] at HAB
        have e2 : IntKind.i64.wrap (ringTo U (k - 1) + absI (((gg.1 : Nat) : Int) - ((pg.1 : Nat) : Int))) = ringTo U (k - 1) + absI (((gg.1 : Nat) : Int) - ((pg.1 : Nat) : Int)) := IntWalk.i64_in _ (by rw [HSU.out]; omega)
        clear hrb hrb1 hg1 hg2 hw
        generalize ringTo U (k - 1) = r0 at *
        generalize absI (((gg.1 : Nat) : Int) - ((pg.1 : Nat) : Int)) = ab at *
        go_upto_region 10 with fail
        refine wp_region_held_drew (S := fun w' => w'.cell? ⟨g, k * 4, none⟩ = some (.int .i64 (gg.1 : Nat)) ∧ w'.cell? ⟨g, (k - 1) * 4, none⟩ = some (.int .i64 (pg.1 : Nat))) (by kernel_rfl) (by exact ⟨c0, c1⟩) (fun hHeld => ?_)
        refine wpAnyH_take (i := 0) (v := ?vr1) rfl (by kernel_rfl) (by kernel_rfl) (by kernel_rfl) (fun _ _ _ h => h) (Or.inl ⟨by rfl, ?hyr1⟩) (by assumption) ?restr1
        case hyr1 => (intro w hSw; (try dsimp only at hSw); go_simp; try with_reducible rfl)
        try simp only [List.getElem_toArray, List.getElem_cons_succ, List.getElem_cons_zero, Act.put, List.setIfInBounds_toArray, List.set_cons_zero, List.set_cons_succ]
        refine wpAnyH_take (i := 1) (v := ?vr2) rfl (by kernel_rfl) (by kernel_rfl) (by kernel_rfl) (fun _ _ _ h => h) (Or.inl ⟨by rfl, ?hyr2⟩) (by assumption) ?restr2
        case hyr2 => (intro w hSw; (try dsimp only at hSw); go_simp; try with_reducible rfl)
        try simp only [List.getElem_toArray, List.getElem_cons_succ, List.getElem_cons_zero, Act.put, List.setIfInBounds_toArray, List.set_cons_zero, List.set_cons_succ]
        refine wpAnyH_take (i := 2) (v := ?vr3) rfl (by kernel_rfl) (by kernel_rfl) (by kernel_rfl) (fun _ _ _ h => h) (Or.inl ⟨by rfl, ?hyr3⟩) (by assumption) ?restr3
        case hyr3 => (intro w hSw; (try dsimp only at hSw); go_simp; try with_reducible rfl)
        try simp only [List.getElem_toArray, List.getElem_cons_succ, List.getElem_cons_zero, Act.put, List.setIfInBounds_toArray, List.set_cons_zero, List.set_cons_succ]
        refine wpAnyH_take (i := 3) (v := ?vr4) rfl (by kernel_rfl) (by kernel_rfl) (by kernel_rfl) (fun _ _ _ h => h) (Or.inl ⟨by rfl, ?hyr4⟩) (by assumption) ?restr4
        case hyr4 => (intro w hSw; (try dsimp only at hSw); go_simp; try with_reducible rfl)
        try simp only [List.getElem_toArray, List.getElem_cons_succ, List.getElem_cons_zero, Act.put, List.setIfInBounds_toArray, List.set_cons_zero, List.set_cons_succ]
        refine wpAnyH_take (i := 4) (v := ?vr5) rfl (by kernel_rfl) (by kernel_rfl) (by kernel_rfl) (fun _ _ _ h => h) (Or.inl ⟨by rfl, ?hyr5⟩) (by assumption) ?restr5
        case hyr5 => (intro w hSw; (try dsimp only at hSw); go_simp; try with_reducible rfl)
        try simp only [List.getElem_toArray, List.getElem_cons_succ, List.getElem_cons_zero, Act.put, List.setIfInBounds_toArray, List.set_cons_zero, List.set_cons_succ]
        refine wpAnyH_take (i := 5) (v := ?vr6) rfl (by kernel_rfl) (by kernel_rfl) (by kernel_rfl) (fun _ _ _ h => h) (Or.inl ⟨by rfl, ?hyr6⟩) (by assumption) ?restr6
        case hyr6 => (intro w hSw; (try dsimp only at hSw); go_simp; try with_reducible rfl)
        try simp only [List.getElem_toArray, List.getElem_cons_succ, List.getElem_cons_zero, Act.put, List.setIfInBounds_toArray, List.set_cons_zero, List.set_cons_succ]
        refine wpAnyH_take (i := 6) (v := ?vr7) rfl (by kernel_rfl) (by kernel_rfl) (by kernel_rfl) (fun _ _ _ h => h) (Or.inl ⟨by rfl, ?hyr7⟩) (by assumption) ?restr7
        case hyr7 => (intro w hSw; (try dsimp only at hSw); go_simp; try with_reducible rfl)
        try simp only [List.getElem_toArray, List.getElem_cons_succ, List.getElem_cons_zero, Act.put, List.setIfInBounds_toArray, List.set_cons_zero, List.set_cons_succ]
        refine wpAnyH_take (i := 7) (v := ?vr8) rfl (by kernel_rfl) (by kernel_rfl) (by kernel_rfl) (fun _ _ _ h => h) (Or.inl ⟨by rfl, ?hyr8⟩) (by assumption) ?restr8
        case hyr8 => (intro w hSw; (try dsimp only at hSw); go_simp; try with_reducible rfl)
        try simp only [List.getElem_toArray, List.getElem_cons_succ, List.getElem_cons_zero, Act.put, List.setIfInBounds_toArray, List.set_cons_zero, List.set_cons_succ]
        refine wpAnyH_take (i := 8) (v := ?vr9) rfl (by kernel_rfl) (by kernel_rfl) (by kernel_rfl) (fun _ _ _ h => h) (Or.inl ⟨by rfl, ?hyr9⟩) (by assumption) ?restr9
        case hyr9 => (intro w hSw; (try dsimp only at hSw); go_simp; try with_reducible rfl)
        try simp only [List.getElem_toArray, List.getElem_cons_succ, List.getElem_cons_zero, Act.put, List.setIfInBounds_toArray, List.set_cons_zero, List.set_cons_succ]
        refine wpAnyH_take (i := 9) (v := ?vr10) rfl (by kernel_rfl) (by kernel_rfl) (by kernel_rfl) (fun _ _ _ h => h) (Or.inl ⟨by rfl, ?hyr10⟩) (by assumption) ?restr10
        case hyr10 => (intro w hSw; (try dsimp only at hSw); go_simp; try with_reducible rfl)
        try simp only [List.getElem_toArray, List.getElem_cons_succ, List.getElem_cons_zero, Act.put, List.setIfInBounds_toArray, List.set_cons_zero, List.set_cons_succ]
        refine wpAnyH_take (i := 10) (v := ?vr11) rfl (by kernel_rfl) (by kernel_rfl) (by kernel_rfl) (fun _ _ _ h => h) (Or.inl ⟨by rfl, ?hyr11⟩) (by assumption) ?restr11
        case hyr11 => (intro w hSw; (try dsimp only at hSw); go_simp; try with_reducible rfl)
        try simp only [List.getElem_toArray, List.getElem_cons_succ, List.getElem_cons_zero, Act.put, List.setIfInBounds_toArray, List.set_cons_zero, List.set_cons_succ]
        refine wpAnyH_take (i := 11) (v := ?vr12) rfl (by kernel_rfl) (by kernel_rfl) (by kernel_rfl) (fun _ _ _ h => h) (Or.inl ⟨by rfl, ?hyr12⟩) (by assumption) ?restr12
        case hyr12 => (intro w hSw; (try dsimp only at hSw); go_simp; try with_reducible rfl)
        try simp only [List.getElem_toArray, List.getElem_cons_succ, List.getElem_cons_zero, Act.put, List.setIfInBounds_toArray, List.set_cons_zero, List.set_cons_succ]
        refine wpAnyH_take (i := 12) (v := ?vr13) rfl (by kernel_rfl) (by kernel_rfl) (by kernel_rfl) (fun _ _ _ h => h) (Or.inl ⟨by rfl, ?hyr13⟩) (by assumption) ?restr13
        case hyr13 => (intro w hSw; (try dsimp only at hSw); go_simp; try with_reducible rfl)
        try simp only [List.getElem_toArray, List.getElem_cons_succ, List.getElem_cons_zero, Act.put, List.setIfInBounds_toArray, List.set_cons_zero, List.set_cons_succ]
        refine wpAnyH_ready (rs := [13]) (by kernel_rfl) (by simp) ?_
        refine AllReadyH.cons rfl (fun K hK => ?_) AllReadyH.nil
        go_simp
        (go_at_call 69; refine (HAB.out _).mono ?_; rintro _ _ ⟨rfl, rfl⟩)
        refine hK.out _ _ ?_ (fun hHeld => ?_)
        · exact hHeld
        clear hK K
        try simp only [List.getElem_toArray, List.getElem_cons_succ, List.getElem_cons_zero, Act.put, List.setIfInBounds_toArray, List.set_cons_zero, List.set_cons_succ]
        refine wpAnyH_take (i := 14) (v := ?vr14) rfl (by kernel_rfl) (by kernel_rfl) (by kernel_rfl) (fun _ _ _ h => h) (Or.inl ⟨by rfl, ?hyr14⟩) (by assumption) ?restr14
        case hyr14 => (intro w hSw; (try dsimp only at hSw); go_simp; try with_reducible rfl)
        try simp only [List.getElem_toArray, List.getElem_cons_succ, List.getElem_cons_zero, Act.put, List.setIfInBounds_toArray, List.set_cons_zero, List.set_cons_succ]
        refine wpAnyH_take (i := 15) (v := ?vr15) rfl (by kernel_rfl) (by kernel_rfl) (by kernel_rfl) (fun _ _ _ h => h) (Or.inl ⟨by rfl, ?hyr15⟩) (by assumption) ?restr15
        case hyr15 => (intro w hSw; (try dsimp only at hSw); go_simp; try with_reducible rfl)
        try simp only [List.getElem_toArray, List.getElem_cons_succ, List.getElem_cons_zero, Act.put, List.setIfInBounds_toArray, List.set_cons_zero, List.set_cons_succ]
        refine wpAnyH_done (by kernel_rfl) ?_ _
        have HWN := Go.Lib.hid (show Eqw w3 wr.drew from HW.out.drewN 1)
        clear c0 c1 hHeld
        go_wp2_with fail
        go_roundw
        case rel => exact ⟨k + 1, by omega, by omega, by go_num, by rw [show k + 1 - 1 = k by omega, ← HSU.out], HWN.out⟩
        case measure => simp [intOf]; omega
end Go.Proofs.Ythedanpldebjcaa
