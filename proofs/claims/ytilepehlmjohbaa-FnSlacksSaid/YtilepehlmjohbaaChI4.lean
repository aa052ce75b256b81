/- The program: slacks, the loosest gear. -/
import Derived.Test.YtilepehlmjohbaaChI2
import Derived.Test.YtilepehlmjohbaaChI3
import Derived.Test.YtilepehlmjohbaaGearI7
import Derived.Test.YtilepehlmjohbaaGearI6
namespace Go.Proofs.Ytilepehlmjohbaa
open Go.RowKit
set_option linter.unusedSimpArgs false
set_option linter.unusedVariables false

theorem chk_no {x : Trn} {s l : Int} (h : chk10 x s l ≠ 0) : slacksR x s l = ([], chk10 x s l) ∧ looseR x s l = (0, 0, chk10 x s l) := by
  unfold chk10 slacksR looseR at *
  by_cases ht : trainB x = true
  · rw [if_pos ht] at h
    rw [if_pos ht, if_pos ht, if_pos ht]
    by_cases hs : (stayB s && linksB l) = true
    · rw [if_pos hs] at h; exact absurd rfl h
    · rw [if_neg hs, if_neg hs, if_neg hs]; exact ⟨rfl, rfl⟩
  · rw [if_neg ht, if_neg ht, if_neg ht]; exact ⟨rfl, rfl⟩
theorem chk_ok {x : Trn} {s l : Int} (h : chk10 x s l = 0) : trainB x = true ∧ (stayB s && linksB l) = true := by
  unfold chk10 at h
  by_cases ht : trainB x = true
  · rw [if_pos ht] at h
    by_cases hs : (stayB s && linksB l) = true
    · exact ⟨ht, hs⟩
    · rw [if_neg hs] at h; exact absurd h (by decide)
  · rw [if_neg ht] at h; exact absurd h (by decide)
theorem Keep.grown {lo hi : Nat} {a w w1 : World} {ob : Option Nat} {o : Obj} (h : Keep lo hi a w) (hg : (w.alloc o).grownBy w1 ob) (hob : ∀ g, ob = some g → a.heap.size ≤ g) : Keep lo hi a w1 := by
  have h1 : Keep lo hi a (w.alloc o) := h.trans (Keep.of_below ((Below.refl w.heap.size w).alloc (Nat.le_refl _) o) (Nat.le_refl _) lo hi)
  exact ⟨hg.os.trans h1.os, hg.tape.trans h1.tape, hg.output.trans h1.output, Nat.le_trans h1.size hg.size, fun k hk ho => (hg.block k (Nat.lt_of_lt_of_le hk h1.size) (fun e => by have := hob k e.symm; omega)).trans (h1.block k hk ho)⟩
/-- Slacks in the making, while the chain learns needs. -/
structure GatM (w3 : World) (B n : Nat) (l s : Int) (zs : List Int) (v : Value) (wr : World) : Prop where
  row : wr.ownsRow w3.heap.size 2 1 v zs.length (ints zs)
  chn : Chn wr (B + 1) B n l s
  k : Keep B (B + 1) w3 wr
  low : B + 1 < w3.heap.size
theorem GatM.nil {w3 : World} {B : Nat} {l s : Int} (h : Chn w3 (B + 1) B 0 l s) : GatM w3 B 0 l s [] (.slice none 0 0) w3 := ⟨World.ownsRow_nil _ _ _ _, h, Keep.refl _ _ _, h.box.lt⟩
theorem GatM.at_call {w3 wr V wc : World} {B n : Nat} {l s : Int} {zs : List Int} {v : Value} (h : GatM w3 B n l s zs v wr) (hb : Below wr.heap.size wr V) (hC : Chn wc (B + 1) B (n + 1) l s) (hK : Keep B (B + 1) V wc) : GatM w3 B (n + 1) l s zs v wc := by
  obtain ⟨A, cap, rfl, ho⟩ := row_ow h.row
  have hk : Keep B (B + 1) wr wc := (Keep.of_below hb (Nat.le_refl _) B (B + 1)).trans hK
  exact ⟨(ho.keep hk (Nat.le_refl _) (.inr (Nat.le_of_lt h.low))).1, hC, h.k.trans hk, h.low⟩
theorem GatM.step {w3 wc w5 : World} {B n : Nat} {l s : Int} {zs : List Int} {v v' : Value} {z : Int} {o : Obj} (h : GatM w3 B n l s zs v wc) (hown : w5.ownsRow w3.heap.size 2 1 v' (zs.length + 1) (ints zs ++ [.int .i64 z])) (hgrow : (wc.alloc o).grownBy w5 v.ownBlock) : GatM w3 B n l s (zs ++ [z]) v' w5 := by
  have e : ints (zs ++ [z]) = ints zs ++ [.int .i64 z] := by simp [ints]
  have hvb : ∀ g, v.ownBlock = some g → w3.heap.size ≤ g := fun g e => by
    rcases h.row.2 with ⟨rfl, _⟩ | ⟨g', cap, cur, rfl, hb, hh, _⟩
    · simp [Value.ownBlock] at e
    · obtain rfl : g' = g := by simpa [Value.ownBlock] using e
      exact hb
  have hl := h.low
  refine ⟨by rw [e, List.length_append]; exact hown, ⟨(h.chn.box.alloc o).grow_any hgrow (fun g e => by have := hvb g e; omega), (h.chn.memo.alloc o).grow hgrow (fun e => by have := hvb B e.symm; omega), h.chn.apart⟩, h.k.grown hgrow hvb, hl⟩
theorem GatM.done {w0 w3 wr : World} {B n : Nat} {l s : Int} {zs : List Int} {v : Value} {p : List Int × Int} (h : GatM w3 B n l s zs v wr) (hp : p = (zs, 0)) (hb : Below w0.heap.size w0 w3) (hB : w0.heap.size ≤ B) : GivesLN p w0 (.returned (.tuple #[v, .int .i64 0])) wr := by
  subst hp
  obtain ⟨A, cap, rfl, ho⟩ := row_ow h.row
  exact ⟨A, cap, rfl, ho.lower hb.size, hb.trans (h.k.below hB hb.size)⟩
set_option maxRecDepth 100000 in
set_option maxHeartbeats 16000000 in
theorem implSlacksOf (x : Trn) (A : Option Addr) (c : Nat) (B0 : Option Addr) (d : Nat) (s l : Int) (w : World) (T : TrL x A c B0 d w) :
    Calls Try.prog 28 #[trainV x A c B0 d, .int .i64 s, .int .i64 l] w (GivesLN (slacksR x s l) w) := by
  obtain ⟨i0, hi, hz0, hz1, hz2⟩ := info_parts infoI64
  have HT := Go.Lib.hid T
  have HX := Go.Lib.hid (boxT_box x A c B0 d w)
  have HXB := Go.Lib.hid (boxT_below x A c B0 d w)
  clear T
  have H1 := Go.Lib.hid (fun w0 T0 => implCheck x A c B0 d s l w0 T0)
  by_cases hc : chk10 x s l = 0
  case neg =>
    have HV := Go.Lib.hid (chk_no hc).1
    generalize chk10 x s l = cd at *
    unfold trainV at *
    go_enter Try.func28, Try.ntmps28
    go_upto_region 1 with fail
    refine wp_gen (R := fun W => Box W w.heap.size (trainC x A c B0 d) ∧ Below w.heap.size w W) ⟨HX.out, HXB.out⟩ ?_
    rintro W ⟨hx, hb⟩
    have HX1 := Go.Lib.hid hx
    have HB1 := Go.Lib.hid hb
    have HT1 := Go.Lib.hid (HT.out.below hb)
    clear hx hb HX HXB
    have hc0 : W.cell? ⟨w.heap.size, 0, none⟩ = some (.slice A x.f.length c) := HX1.out.at_ 0 _ rfl
    have hc1 : W.cell? ⟨w.heap.size, 1, none⟩ = some (.slice B0 x.r.length d) := HX1.out.at_ 1 _ rfl
    have hc2 : W.cell? ⟨w.heap.size, 2, none⟩ = some (.int .i64 x.n) := HX1.out.at_ 2 _ rfl
    go_wp2_with fail
    refine (H1.out _ HT1.out).mono ?_
    rintro _ w2 ⟨rfl, b2⟩
    have HX2 := Go.Lib.hid (HX1.out.below b2)
    have HB2 := Go.Lib.hid (upB HB1.out b2)
    have HT2 := Go.Lib.hid (HT1.out.below b2)
    clear b2 hc0 hc1 hc2 HX1 HB1 HT1
    go_wp2_with fail
    go_ret2
    exact GivesLN.nil HV.out HB2.out
  case pos =>
    obtain ⟨ht, hs⟩ := chk_ok hc
    have HTR := Go.Lib.hid (trainB_ok ht)
    have HGI := Go.Lib.hid (fun w0 T0 => implGears x A c B0 d w0 T0 (trainB_ok ht))
    rw [hc] at H1
    have hn1 := ordI_one HTR.out
    have hn36 : (ordI x).length ≤ 36 := ordI_few HTR.out
    have HOK := Go.Lib.hid (fun i (hi : i < (ordI x).length) => ordI_ok (x := x) (mem_getD (gs := ordI x) (i := i) hi))
    have HCA := Go.Lib.hid (fun w0 => implChainAt l s w0)
    have hsb : 3000 ≤ s ∧ s ≤ 6000 := by
      have := (Bool.and_eq_true _ _ ▸ hs).1
      unfold stayB at this
      exact inB_iff.1 this
    have hlb := linksB_bd (Bool.and_eq_true _ _ ▸ hs).2
    have HLG := Go.Lib.hid (fun (p : Gr) (hp : GOk x p) => show Legs s (fI x p.1) (rI x p.2) from ⟨hsb.1, hsb.2, (HTR.out.fb hp).1, (HTR.out.fb hp).2, (HTR.out.rb hp).1, (HTR.out.rb hp).2⟩)
    have HV := Go.Lib.hid (show slacksR x s l = (slacksOf x s l (ordI x), 0) by unfold slacksR; rw [if_pos ht, if_pos hs])
    clear ht hs hc
    generalize ordI x = L at *
    unfold trainV at *
    go_enter Try.func28, Try.ntmps28
    go_upto_region 1 with fail
    refine wp_gen (R := fun W => Box W w.heap.size (trainC x A c B0 d) ∧ Below w.heap.size w W) ⟨HX.out, HXB.out⟩ ?_
    rintro W ⟨hx, hb⟩
    have HX1 := Go.Lib.hid hx
    have HB1 := Go.Lib.hid hb
    have HT1 := Go.Lib.hid (HT.out.below hb)
    clear hx hb HX HXB
    have hc0 : W.cell? ⟨w.heap.size, 0, none⟩ = some (.slice A x.f.length c) := HX1.out.at_ 0 _ rfl
    have hc1 : W.cell? ⟨w.heap.size, 1, none⟩ = some (.slice B0 x.r.length d) := HX1.out.at_ 1 _ rfl
    have hc2 : W.cell? ⟨w.heap.size, 2, none⟩ = some (.int .i64 x.n) := HX1.out.at_ 2 _ rfl
    go_wp2_with fail
    refine (H1.out _ HT1.out).mono ?_
    rintro _ w2 ⟨rfl, b2⟩
    have HX2 := Go.Lib.hid (HX1.out.below b2)
    have HB2 := Go.Lib.hid (upB HB1.out b2)
    have HT2 := Go.Lib.hid (HT1.out.below b2)
    clear b2 hc0 hc1 hc2 HX1 HB1 HT1
    go_wp2_with fail
    refine (HCA.out _).mono ?_
    rintro _ w3 ⟨rfl, hC, bA⟩
    have HX3 := Go.Lib.hid (HX2.out.below bA)
    have HB3 := Go.Lib.hid (upB HB2.out bA)
    have HT3 := Go.Lib.hid (HT2.out.below bA)
    have HC3 := Go.Lib.hid hC
    have hlow : w.heap.size ≤ w2.heap.size := HB2.out.size
    have hq3 : w2.heap.size + 1 < w3.heap.size := hC.box.lt
    clear hC bA HX2 HB2 HT2
    generalize w2.heap.size = B at *
    have hc0 : w3.cell? ⟨w.heap.size, 0, none⟩ = some (.slice A x.f.length c) := HX3.out.at_ 0 _ rfl
    have hc1 : w3.cell? ⟨w.heap.size, 1, none⟩ = some (.slice B0 x.r.length d) := HX3.out.at_ 1 _ rfl
    have hc2 : w3.cell? ⟨w.heap.size, 2, none⟩ = some (.int .i64 x.n) := HX3.out.at_ 2 _ rfl
    go_wp2_with fail
    refine (HGI.out _ HT3.out).mono ?_
    rintro _ w4 ⟨g, cap, rfl, hbx, hge, b4⟩
    have HGB := Go.Lib.hid hbx
    have hgB : B + 1 < g := Nat.lt_of_lt_of_le hq3 hge
    have HB4 := Go.Lib.hid (upB HB3.out b4)
    have HC4 := Go.Lib.hid (HC3.out.below b4)
    clear hbx hge b4 hc0 hc1 hc2
    have HG0 := Go.Lib.hid (show GatM w4 B 0 l s (slacksOf x s l (L.take 0)) (.slice none 0 0) w4 from GatM.nil HC4.out)
    go_wp2_with fail
    go_loopw [10, 26] (fun v u wr => ∃ k : Nat, k ≤ L.length ∧ u = .int .i64 k ∧ GatM w4 B k l s (slacksOf x s l (L.take k)) v wr) (fun _ u _ => L.length - (intOf u).toNat)
    case atStart => exact ⟨0, Nat.zero_le _, rfl, HG0.out⟩
    case round =>
      obtain ⟨k, hk, rfl, hgat⟩ := hrel
      have HGT := Go.Lib.hid hgat
      clear hgat HG0
      by_cases hlt : k < L.length
      case neg =>
        obtain rfl : k = L.length := by omega
        rw [List.take_length] at HGT
        have HF := Go.Lib.hid (HGT.out.done HV.out HB4.out hlow)
        go_wp2_with fail
        go_ret2
        exact HF.out
      case pos =>
        have hkl : (k : Int) < L.length := by omega
        have HSU := Go.Lib.hid (slacksOf_take (x := x) (s := s) (l := l) hlt)
        have HLE := Go.Lib.hid (show (slacksOf x s l (L.take k)).length = k by rw [slacksOf_len, List.length_take]; omega)
        have HSG := Go.Lib.hid (show slackG x s l (L.getD k (0, 0)) = max (-1) (1000 * l - needI s (fI x (L.getD k (0, 0)).1) (rI x (L.getD k (0, 0)).2)) from rfl)
        have HSL := Go.Lib.hid (fun w0 C0 => implSlack (B + 1) B k l s _ _ w0 C0 (by unfold maxLen; omega) (HLG.out _ (HOK.out k hlt)) hlb)
        obtain ⟨p0, p1, p2, p3⟩ := gbox_at (HGB.out.keep HGT.out.k (by omega)) hlt
        rw [HSG.out] at HSU
        clear HSG
        generalize slacksOf x s l (L.take k) = zs at *
        generalize L.getD k (0, 0) = p at *
        generalize fI x p.1 = pf at *
        generalize rI x p.2 = pr at *
        generalize needI s pf pr = nd at *
        have HBL := Go.Lib.hid (gbelow p.1 p.2 pf pr wr)
        have HGL := Go.Lib.hid (gbox p.1 p.2 pf pr wr)
        go_upto_region 9 with fail
        refine wp_gen (R := fun V => Box V wr.heap.size (gC p.1 p.2 pf pr) ∧ Below wr.heap.size wr V) ⟨HGL.out, HBL.out⟩ ?_
        rintro V ⟨hg, hv⟩
        obtain ⟨g0, g1, g2, g3⟩ := cells4 hg
        have HBV := Go.Lib.hid hv
        clear hg hv p0 p1 p2 p3 HGL HBL
        go_wp2_with fail
        refine (HSL.out _ (HGT.out.chn.below HBV.out)).mono ?_
        rintro _ wc ⟨rfl, hC, hK⟩
        have HGC := Go.Lib.hid (HGT.out.at_call HBV.out hC hK)
        have hrow := HGC.out.row
        rw [HLE.out] at hrow
        have hsz := HGC.out.k.size
        clear hC hK g0 g1 g2 g3
        go_wp2_with (at_builtin; refine wpList_append_own_at _ rfl _ _ 30 rfl w4.heap.size 2 i0 (.int .i64 0) 1 8 Try.underlying30 hi hz0 hz1 hz2 rfl (by decide) _ _ _ rfl (hrow.alloc _) ⟨wc.heap.size, 0, none⟩ 1 1 [.int .i64 (max (-1) (1000 * l - nd))] rfl rfl (cell_one_new _ _ _) (ints_oneCell .i64 [max (-1) (1000 * l - nd)]) (by unfold maxLen; omega) (by omega) (by simp; omega) ?_; intro v' w5 hown' hgrow hnil hat; clear hnil hat)
        have HGN := Go.Lib.hid (HGC.out.step (z := max (-1) (1000 * l - nd)) (by rw [HLE.out]; exact hown') hgrow)
        clear hown' hgrow hrow
        go_wp2_with fail
        go_roundw
        case rel => exact ⟨k + 1, by omega, by go_num, by rw [HSU.out]; exact HGN.out⟩
        case measure => simp [intOf]; omega
/-- How far the loosest gear has been found. -/
structure Lo4 where
  g : Int
  a : Int
  b : Int
  c : Int
  d : Int
def looSt (x : Trn) (zs : List Int) (L : List Gr) (k : Nat) : Lo4 :=
  if k = 0 then ⟨-1, 0, 0, 0, 0⟩ else ⟨zs.getD (bigTo zs k) 0, (L.getD (bigTo zs k) (0, 0)).1, (L.getD (bigTo zs k) (0, 0)).2, fI x (L.getD (bigTo zs k) (0, 0)).1, rI x (L.getD (bigTo zs k) (0, 0)).2⟩
theorem looSt_succ (x : Trn) (zs : List Int) (L : List Gr) (k : Nat) (h0 : 0 ≤ zs.getD k 0) : looSt x zs L (k + 1) = if (looSt x zs L k).g < zs.getD k 0 then ⟨zs.getD k 0, (L.getD k (0, 0)).1, (L.getD k (0, 0)).2, fI x (L.getD k (0, 0)).1, rI x (L.getD k (0, 0)).2⟩ else looSt x zs L k := by
  unfold looSt
  rw [if_neg (Nat.succ_ne_zero k)]
  by_cases hk : k = 0
  · subst hk
    have e : bigTo zs 1 = 0 := by
      show (if _ then 0 else bigTo zs 0) = 0
      split <;> rfl
    rw [if_pos rfl, e, if_pos (show (-1 : Int) < zs.getD 0 0 by omega)]
  · rw [if_neg hk]
    show (⟨zs.getD (if zs.getD (bigTo zs k) 0 < zs.getD k 0 then k else bigTo zs k) 0, _, _, _, _⟩ : Lo4) = _
    by_cases hlt : zs.getD (bigTo zs k) 0 < zs.getD k 0
    · rw [if_pos hlt]
      simp only [bigTo, if_pos hlt]
    · rw [if_neg hlt]
      simp only [bigTo, if_neg hlt]
set_option maxRecDepth 100000 in
set_option maxHeartbeats 16000000 in
theorem implLoose (x : Trn) (A : Option Addr) (c : Nat) (B0 : Option Addr) (d : Nat) (s l : Int) (w : World) (T : TrL x A c B0 d w) :
    Calls Try.prog 26 #[trainV x A c B0 d, .int .i64 s, .int .i64 l] w (IsV w (.tuple #[.int .i64 (looseR x s l).1, .int .i64 (looseR x s l).2.1, .int .i64 (looseR x s l).2.2])) := by
  have HT := Go.Lib.hid T
  have HX := Go.Lib.hid (boxT_box x A c B0 d w)
  have HXB := Go.Lib.hid (boxT_below x A c B0 d w)
  clear T
  have H1 := Go.Lib.hid (fun w0 T0 => implCheck x A c B0 d s l w0 T0)
  by_cases hc : chk10 x s l = 0
  case neg =>
    have HV := Go.Lib.hid (chk_no hc).2
    generalize chk10 x s l = cd at *
    unfold trainV at *
    go_enter Try.func26, Try.ntmps26
    go_upto_region 1 with fail
    refine wp_gen (R := fun W => Box W w.heap.size (trainC x A c B0 d) ∧ Below w.heap.size w W) ⟨HX.out, HXB.out⟩ ?_
    rintro W ⟨hx, hb⟩
    have HX1 := Go.Lib.hid hx
    have HB1 := Go.Lib.hid hb
    have HT1 := Go.Lib.hid (HT.out.below hb)
    clear hx hb HX HXB
    have hc0 : W.cell? ⟨w.heap.size, 0, none⟩ = some (.slice A x.f.length c) := HX1.out.at_ 0 _ rfl
    have hc1 : W.cell? ⟨w.heap.size, 1, none⟩ = some (.slice B0 x.r.length d) := HX1.out.at_ 1 _ rfl
    have hc2 : W.cell? ⟨w.heap.size, 2, none⟩ = some (.int .i64 x.n) := HX1.out.at_ 2 _ rfl
    go_wp2_with fail
    refine (H1.out _ HT1.out).mono ?_
    rintro _ w2 ⟨rfl, b2⟩
    have HX2 := Go.Lib.hid (HX1.out.below b2)
    have HB2 := Go.Lib.hid (upB HB1.out b2)
    have HT2 := Go.Lib.hid (HT1.out.below b2)
    clear b2 hc0 hc1 hc2 HX1 HB1 HT1
    go_wp2_with fail
    refine bodyPost_ret (results_tmp3 rfl _ _ _) rfl ?_
    exact ⟨by rw [HV.out]; rfl, HB2.out⟩
  case pos =>
    obtain ⟨ht, hs⟩ := chk_ok hc
    have HTR := Go.Lib.hid (trainB_ok ht)
    have HGI := Go.Lib.hid (fun w0 T0 => implGears x A c B0 d w0 T0 (trainB_ok ht))
    rw [hc] at H1
    have hn1 := ordI_one HTR.out
    have hn36 : (ordI x).length ≤ 36 := ordI_few HTR.out
    have HOK := Go.Lib.hid (fun i (hi : i < (ordI x).length) => ordI_ok (x := x) (mem_getD (gs := ordI x) (i := i) hi))
    have HCA := Go.Lib.hid (fun w0 => implChainAt l s w0)
    have hsb : 3000 ≤ s ∧ s ≤ 6000 := by
      have := (Bool.and_eq_true _ _ ▸ hs).1
      unfold stayB at this
      exact inB_iff.1 this
    have hlb := linksB_bd (Bool.and_eq_true _ _ ▸ hs).2
    have HLG := Go.Lib.hid (fun (p : Gr) (hp : GOk x p) => show Legs s (fI x p.1) (rI x p.2) from ⟨hsb.1, hsb.2, (HTR.out.fb hp).1, (HTR.out.fb hp).2, (HTR.out.rb hp).1, (HTR.out.rb hp).2⟩)
    have HV := Go.Lib.hid (show looseR x s l = if posTo (slacksOf x s l (ordI x)) (ordI x).length then ((((((ordI x).getD (bigTo (slacksOf x s l (ordI x)) (ordI x).length) (0, 0)).1 : Nat) : Int), ((((ordI x).getD (bigTo (slacksOf x s l (ordI x)) (ordI x).length) (0, 0)).2 : Nat) : Int), (0 : Int)) : Int × Int × Int) else ((0 : Int), (0 : Int), (5 : Int)) by unfold looseR; rw [if_pos ht, if_pos hs])
    have HAT := Go.Lib.hid (fun k (hk : k < (ordI x).length) => slacksOf_at (x := x) (s := s) (l := l) (gs := ordI x) (k := k) hk)
    clear ht hs hc
    generalize ordI x = L at *
    generalize slacksOf x s l L = zs at *
    have HSS := Go.Lib.hid (fun k (h0 : 0 ≤ zs.getD k 0) => looSt_succ x zs L k h0)
    have HS0 := Go.Lib.hid (show looSt x zs L 0 = ⟨-1, 0, 0, 0, 0⟩ from rfl)
    have HSE := Go.Lib.hid (show looSt x zs L L.length = ⟨zs.getD (bigTo zs L.length) 0, (L.getD (bigTo zs L.length) (0, 0)).1, (L.getD (bigTo zs L.length) (0, 0)).2, fI x (L.getD (bigTo zs L.length) (0, 0)).1, rI x (L.getD (bigTo zs L.length) (0, 0)).2⟩ by unfold looSt; rw [if_neg (by omega)])
    unfold trainV at *
    go_enter Try.func26, Try.ntmps26
    go_upto_region 1 with fail
    refine wp_gen (R := fun W => Box W w.heap.size (trainC x A c B0 d) ∧ Below w.heap.size w W) ⟨HX.out, HXB.out⟩ ?_
    rintro W ⟨hx, hb⟩
    have HX1 := Go.Lib.hid hx
    have HB1 := Go.Lib.hid hb
    have HT1 := Go.Lib.hid (HT.out.below hb)
    clear hx hb HX HXB
    have hc0 : W.cell? ⟨w.heap.size, 0, none⟩ = some (.slice A x.f.length c) := HX1.out.at_ 0 _ rfl
    have hc1 : W.cell? ⟨w.heap.size, 1, none⟩ = some (.slice B0 x.r.length d) := HX1.out.at_ 1 _ rfl
    have hc2 : W.cell? ⟨w.heap.size, 2, none⟩ = some (.int .i64 x.n) := HX1.out.at_ 2 _ rfl
    go_wp2_with fail
    refine (H1.out _ HT1.out).mono ?_
    rintro _ w2 ⟨rfl, b2⟩
    have HX2 := Go.Lib.hid (HX1.out.below b2)
    have HB2 := Go.Lib.hid (upB HB1.out b2)
    have HT2 := Go.Lib.hid (HT1.out.below b2)
    clear b2 hc0 hc1 hc2 HX1 HB1 HT1
    go_wp2_with fail
    refine (HCA.out _).mono ?_
    rintro _ w3 ⟨rfl, hC, bA⟩
    have HX3 := Go.Lib.hid (HX2.out.below bA)
    have HB3 := Go.Lib.hid (upB HB2.out bA)
    have HT3 := Go.Lib.hid (HT2.out.below bA)
    have HC3 := Go.Lib.hid hC
    have hlow : w.heap.size ≤ w2.heap.size := HB2.out.size
    have hq3 : w2.heap.size + 1 < w3.heap.size := hC.box.lt
    clear hC bA HX2 HB2 HT2
    generalize w2.heap.size = B at *
    have HXA := Go.Lib.hid (HX3.out.alloc (.cells #[.int .i64 0, .int .i64 0, .int .i64 0, .int .i64 0] 72))
    have HBA := Go.Lib.hid (HB3.out.alloc HB3.out.size (.cells #[.int .i64 0, .int .i64 0, .int .i64 0, .int .i64 0] 72))
    have HCH := Go.Lib.hid (HC3.out.below ((Below.refl w3.heap.size w3).alloc (Nat.le_refl _) (.cells #[.int .i64 0, .int .i64 0, .int .i64 0, .int .i64 0] 72)))
    have HTA := Go.Lib.hid (HT3.out.below ((Below.refl w3.heap.size w3).alloc (Nat.le_refl _) (.cells #[.int .i64 0, .int .i64 0, .int .i64 0, .int .i64 0] 72)))
    have HQA := Go.Lib.hid (show Box (w3.alloc (.cells #[.int .i64 0, .int .i64 0, .int .i64 0, .int .i64 0] 72)) w3.heap.size (gC 0 0 0 0) from Box.new rfl rfl)
    have hqw : w.heap.size < w3.heap.size := HX3.out.lt
    clear HX3 HB3 HT3 HC3
    go_upto_region 6 with fail
    refine wp_gen (R := fun V => Box V w.heap.size (trainC x A c B0 d) ∧ Box V w3.heap.size (gC 0 0 0 0) ∧ Below w.heap.size w V ∧ TrL x A c B0 d V ∧ Chn V (B + 1) B 0 l s) ⟨HXA.out, HQA.out, HBA.out, HTA.out, HCH.out⟩ ?_
    rintro V ⟨hx, hq, hb, hT, hC⟩
    have HXA := Go.Lib.hid hx
    have HQA := Go.Lib.hid hq
    have HBA := Go.Lib.hid hb
    have HTA := Go.Lib.hid hT
    have HCH := Go.Lib.hid hC
    clear hx hq hb hT hC
    have hc0 : V.cell? ⟨w.heap.size, 0, none⟩ = some (.slice A x.f.length c) := HXA.out.at_ 0 _ rfl
    have hc1 : V.cell? ⟨w.heap.size, 1, none⟩ = some (.slice B0 x.r.length d) := HXA.out.at_ 1 _ rfl
    have hc2 : V.cell? ⟨w.heap.size, 2, none⟩ = some (.int .i64 x.n) := HXA.out.at_ 2 _ rfl
    generalize w3.heap.size = q at *
    go_wp2_with fail
    refine (HGI.out _ HTA.out).mono ?_
    rintro _ w4 ⟨g, cap, rfl, hbx, hge, b4⟩
    have HGB := Go.Lib.hid hbx
    have hqg : q < g := Nat.lt_of_lt_of_le HQA.out.lt hge
    have HB4 := Go.Lib.hid (upB HBA.out b4)
    have HQ4 := Go.Lib.hid (HQA.out.below b4)
    have HC4 := Go.Lib.hid (HCH.out.below b4)
    clear hbx hge b4 hc0 hc1 hc2 HXA HBA HQA HTA HCH
    go_wp2_with fail
    go_loopw [12, 30] (fun v u wr => ∃ k : Nat, k ≤ L.length ∧ u = .int .i64 k ∧ v = .int .i64 (looSt x zs L k).g ∧ posTo zs k = true ∧ Box wr q (gC (looSt x zs L k).a (looSt x zs L k).b (looSt x zs L k).c (looSt x zs L k).d) ∧ Chn wr (B + 1) B k l s ∧ Keep B (q + 1) w4 wr) (fun _ u _ => L.length - (intOf u).toNat)
    case atStart => exact ⟨0, Nat.zero_le _, rfl, by rw [HS0.out], by rfl, by rw [HS0.out]; exact HQ4.out, HC4.out, Keep.refl _ _ _⟩
    case round =>
      obtain ⟨k, hk, rfl, rfl, hpo, hq, hch, hkp⟩ := hrel
      have HQ := Go.Lib.hid hq
      have HC := Go.Lib.hid hch
      have HK := Go.Lib.hid hkp
      have HPO := Go.Lib.hid hpo
      have HBW := Go.Lib.hid (HB4.out.trans (hkp.below hlow HB4.out.size))
      clear hq hkp hch hpo
      by_cases hlt : k < L.length
      case neg =>
        obtain rfl : k = L.length := by omega
        rw [HPO.out, if_pos rfl] at HV
        rw [HSE.out] at HQ
        have hq0 : wr.cell? ⟨q, 0, none⟩ = some (.int .i64 ((L.getD (bigTo zs L.length) (0, 0)).1 : Nat)) := HQ.out.at_ 0 _ rfl
        have hq1 : wr.cell? ⟨q, 1, none⟩ = some (.int .i64 ((L.getD (bigTo zs L.length) (0, 0)).2 : Nat)) := HQ.out.at_ 1 _ rfl
        have HBE := Go.Lib.hid (fun m => below_drewN HBW.out m)
        generalize L.getD (bigTo zs L.length) (0, 0) = p at *
        go_upto_region 15 with fail
        go_quiet (fail)
        go_wp2_with fail
        refine bodyPost_ret (results_tmp3 rfl _ _ _) rfl ?_
        exact ⟨by rw [HV.out]; rfl, HBE.out _⟩
      case pos =>
        have hkl : (k : Int) < L.length := by omega
        have HSU := Go.Lib.hid (HSS.out k)
        have HAK := Go.Lib.hid (show zs.getD k 0 = max (-1) (1000 * l - needI s (fI x (L.getD k (0, 0)).1) (rI x (L.getD k (0, 0)).2)) from HAT.out k hlt)
        have HSL := Go.Lib.hid (fun w0 C0 => implSlack (B + 1) B k l s _ _ w0 C0 (by unfold maxLen; omega) (HLG.out _ (HOK.out k hlt)) hlb)
        have HPM := Go.Lib.hid (fun (h : zs.getD k 0 < 0) => posTo_miss h hlt)
        have HPS := Go.Lib.hid (posTo_succ zs k)
        obtain ⟨p0, p1, p2, p3⟩ := gbox_at (HGB.out.keep HK.out (by omega)) hlt
        generalize looSt x zs L k = N at *
        generalize L.getD k (0, 0) = p at *
        generalize fI x p.1 = pf at *
        generalize rI x p.2 = pr at *
        generalize needI s pf pr = nd at *
        have HQL := Go.Lib.hid (HQ.out.alloc (.cells #[.int .i64 (p.1 : Nat), .int .i64 (p.2 : Nat), .int .i64 pf, .int .i64 pr] 72))
        have HCL := Go.Lib.hid (HC.out.below ((Below.refl wr.heap.size wr).alloc (Nat.le_refl _) (.cells #[.int .i64 (p.1 : Nat), .int .i64 (p.2 : Nat), .int .i64 pf, .int .i64 pr] 72)))
        have HKL := Go.Lib.hid (HK.out.trans (Keep.of_below ((Below.refl wr.heap.size wr).alloc (Nat.le_refl _) (.cells #[.int .i64 (p.1 : Nat), .int .i64 (p.2 : Nat), .int .i64 pf, .int .i64 pr] 72)) (Nat.le_refl _) B (q + 1)))
        have HGL := Go.Lib.hid (gbox p.1 p.2 pf pr wr)
        have hqs : q < wr.heap.size := HQ.out.lt
        have hbs : B < wr.heap.size := by omega
        go_upto_region 9 with fail
        refine wp_gen (R := fun V4 => Chn V4 (B + 1) B k l s ∧ Box V4 q (gC N.a N.b N.c N.d) ∧ Keep B (q + 1) w4 V4 ∧ Box V4 wr.heap.size (gC p.1 p.2 pf pr)) ⟨HCL.out, HQL.out, HKL.out, HGL.out⟩ ?_
        rintro V4 ⟨hc, hq, hkp, hg⟩
        have HCL := Go.Lib.hid hc
        have HQL := Go.Lib.hid hq
        have HKL := Go.Lib.hid hkp
        have HGL := Go.Lib.hid hg
        obtain ⟨g0, g1, g2, g3⟩ := cells4 hg
        clear hc hq hkp hg p0 p1 p2 p3 HC HQ HK HBW
        generalize wr.heap.size = t at *
        go_wp2_with fail
        refine (HSL.out _ HCL.out).mono ?_
        rintro _ w5 ⟨rfl, hC, hK5⟩
        have HC5 := Go.Lib.hid hC
        have HQ5 := Go.Lib.hid (HQL.out.keep hK5 (by omega))
        have HG5 := Go.Lib.hid (HGL.out.keep hK5 (by omega))
        have HK5 := Go.Lib.hid (HKL.out.trans (hK5.wide (Nat.le_refl _) (by omega)))
        clear hC hK5 g0 g1 g2 g3 HQL HKL HGL HCL
        by_cases hneg : 1000 * l - nd < 0
        case pos =>
          have HF := Go.Lib.hid (HPM.out (by rw [HAK.out]; omega))
          rw [HF.out] at HV
          have HV2 := Go.Lib.hid (show looseR x s l = (0, 0, 5) from HV.out)
          have HBE := Go.Lib.hid (HB4.out.trans (HK5.out.below hlow HB4.out.size))
          go_wp2_with fail
          refine bodyPost_ret (results_tmp3 rfl _ _ _) rfl ?_
          exact ⟨by rw [HV2.out]; rfl, HBE.out⟩
        case neg =>
          have ez : zs.getD k 0 = 1000 * l - nd := by rw [HAK.out]; omega
          have HSU := Go.Lib.hid (HSU.out (by omega))
          have HPN := Go.Lib.hid (show posTo zs (k + 1) = true by rw [HPS.out, HPO.out, decide_eq_true (by omega)]; rfl)
          rw [ez] at HSU
          clear ez HAK
          generalize 1000 * l - nd = sk at *
          by_cases hless : N.g < sk
          case pos =>
            rw [if_pos hless] at HSU
            obtain ⟨g0, g1, g2, g3⟩ := cells4 HG5.out
            obtain ⟨m0, m1, m2, m3⟩ := cells4 HQ5.out
            have f0 := HQ5.out.fr 0
            have f1 := HQ5.out.fr 1
            have f2 := HQ5.out.fr 2
            have f3 := HQ5.out.fr 3
            have HQ6 := Go.Lib.hid (put4_box (a2 := p.1) (b2 := p.2) (c2 := pf) (d2 := pr) HQ5.out)
            have HKP := Go.Lib.hid (put4_keep w5 q 0 p.1 p.2 pf pr)
            have HK6 := Go.Lib.hid (HK5.out.trans (HKP.out.wide (lo' := B) (hi' := q + 1) (by omega) (Nat.le_refl _)))
            have HC6 := Go.Lib.hid (HC5.out.keep HKP.out (by omega) (by omega))
            clear HKP
            go_wp2_with fail
            go_roundw
            case rel => exact ⟨k + 1, by omega, by go_num, by rw [HSU.out], HPN.out, by rw [HSU.out]; exact HQ6.out, HC6.out, HK6.out⟩
            case measure => simp [intOf]; omega
          case neg =>
            rw [if_neg hless] at HSU
            go_wp2_with fail
            go_roundw
            case rel => exact ⟨k + 1, by omega, by go_num, by rw [HSU.out], HPN.out, by rw [HSU.out]; exact HQ5.out, HC5.out, HK5.out⟩
            case measure => simp [intOf]; omega
end Go.Proofs.Ytilepehlmjohbaa
