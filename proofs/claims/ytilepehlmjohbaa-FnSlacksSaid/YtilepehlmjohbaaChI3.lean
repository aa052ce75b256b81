/- The program: what is asked of a train and a chain, ChainForTrain, CapacityOf. -/
import Derived.Test.YtilepehlmjohbaaChI1
import Derived.Test.YtilepehlmjohbaaSlMM
import Derived.Test.YtilepehlmjohbaaGearI1
import Derived.Test.YtilepehlmjohbaaPlainGear4
import Derived.Test.YtilepehlmjohbaaChainS2
namespace Go.Proofs.Ytilepehlmjohbaa
open Go.RowKit
set_option linter.unusedSimpArgs false
set_option linter.unusedVariables false

def chk10 (x : Trn) (s l : Int) : Int := if trainB x then if stayB s && linksB l then 0 else 2 else 1
set_option maxRecDepth 100000 in
set_option maxHeartbeats 4000000 in
theorem implCheck (x : Trn) (A : Option Addr) (c : Nat) (B : Option Addr) (d : Nat) (s l : Int) (w : World) (T : TrL x A c B d w) :
    Calls Try.prog 64 #[trainV x A c B d, .int .i64 s, .int .i64 l] w (fun e w' => e = .returned (.int .i64 (chk10 x s l)) ∧ Below w.heap.size w w') := by
  have HT := Go.Lib.hid T
  have HX := Go.Lib.hid (boxT_box x A c B d w)
  have HXB := Go.Lib.hid (boxT_below x A c B d w)
  clear T
  have H1 := Go.Lib.hid (fun w0 T0 => implTrain x A c B d w0 T0)
  have HA := Go.Lib.hid (fun w0 => implStay s w0)
  have HL := Go.Lib.hid (fun w0 => implLinks l w0)
  by_cases ht : trainB x = true
  case neg =>
    have HV := Go.Lib.hid (show chk10 x s l = 1 by unfold chk10; rw [if_neg ht])
    rw [Bool.not_eq_true] at ht
    rw [ht] at H1
    clear ht
    unfold trainV at *
    go_enter Try.func64, Try.ntmps64
    go_upto_region 1 with fail
    refine wp_gen (R := fun W => Box W w.heap.size (trainC x A c B d) ∧ Below w.heap.size w W) ⟨HX.out, HXB.out⟩ ?_
    rintro W ⟨hx, hb⟩
    have HX1 := Go.Lib.hid hx
    have HB1 := Go.Lib.hid hb
    have HT1 := Go.Lib.hid (HT.out.below hb)
    clear hx hb HX HXB
    have hc0 : W.cell? ⟨w.heap.size, 0, none⟩ = some (.slice A x.f.length c) := HX1.out.at_ 0 _ rfl
    have hc1 : W.cell? ⟨w.heap.size, 1, none⟩ = some (.slice B x.r.length d) := HX1.out.at_ 1 _ rfl
    have hc2 : W.cell? ⟨w.heap.size, 2, none⟩ = some (.int .i64 x.n) := HX1.out.at_ 2 _ rfl
    go_wp2_with fail
    refine (H1.out _ HT1.out).mono ?_
    rintro _ w2 ⟨rfl, b2⟩
    have HX2 := Go.Lib.hid (HX1.out.below b2)
    have HB2 := Go.Lib.hid (upB HB1.out b2)
    have HT2 := Go.Lib.hid (HT1.out.below b2)
    clear b2 hc0 hc1 hc2 HX1 HB1 HT1
    go_wp2_with fail
    go_ret
    exact ⟨by rw [HV.out]; rfl, HB2.out⟩
  case pos =>
    have HV := Go.Lib.hid (show chk10 x s l = if stayB s && linksB l then 0 else 2 by unfold chk10; rw [if_pos ht])
    rw [ht] at H1
    clear ht
    generalize stayB s = a at *
    generalize linksB l = b at *
    cases a
    case false =>
      unfold trainV at *
      go_enter Try.func64, Try.ntmps64
      go_upto_region 1 with fail
      refine wp_gen (R := fun W => Box W w.heap.size (trainC x A c B d) ∧ Below w.heap.size w W) ⟨HX.out, HXB.out⟩ ?_
      rintro W ⟨hx, hb⟩
      have HX1 := Go.Lib.hid hx
      have HB1 := Go.Lib.hid hb
      have HT1 := Go.Lib.hid (HT.out.below hb)
      clear hx hb HX HXB
      have hc0 : W.cell? ⟨w.heap.size, 0, none⟩ = some (.slice A x.f.length c) := HX1.out.at_ 0 _ rfl
      have hc1 : W.cell? ⟨w.heap.size, 1, none⟩ = some (.slice B x.r.length d) := HX1.out.at_ 1 _ rfl
      have hc2 : W.cell? ⟨w.heap.size, 2, none⟩ = some (.int .i64 x.n) := HX1.out.at_ 2 _ rfl
      go_wp2_with fail
      refine (H1.out _ HT1.out).mono ?_
      rintro _ w2 ⟨rfl, b2⟩
      have HX2 := Go.Lib.hid (HX1.out.below b2)
      have HB2 := Go.Lib.hid (upB HB1.out b2)
      have HT2 := Go.Lib.hid (HT1.out.below b2)
      clear b2 hc0 hc1 hc2 HX1 HB1 HT1
      go_wp2_with fail
      refine (HA.out _).mono ?_
      rintro _ _ ⟨rfl, rfl⟩
      go_wp2_with fail
      go_ret
      exact ⟨by rw [HV.out]; rfl, HB2.out⟩
    case true =>
      cases b
      case false =>
        unfold trainV at *
        go_enter Try.func64, Try.ntmps64
        go_upto_region 1 with fail
        refine wp_gen (R := fun W => Box W w.heap.size (trainC x A c B d) ∧ Below w.heap.size w W) ⟨HX.out, HXB.out⟩ ?_
        rintro W ⟨hx, hb⟩
        have HX1 := Go.Lib.hid hx
        have HB1 := Go.Lib.hid hb
        have HT1 := Go.Lib.hid (HT.out.below hb)
        clear hx hb HX HXB
        have hc0 : W.cell? ⟨w.heap.size, 0, none⟩ = some (.slice A x.f.length c) := HX1.out.at_ 0 _ rfl
        have hc1 : W.cell? ⟨w.heap.size, 1, none⟩ = some (.slice B x.r.length d) := HX1.out.at_ 1 _ rfl
        have hc2 : W.cell? ⟨w.heap.size, 2, none⟩ = some (.int .i64 x.n) := HX1.out.at_ 2 _ rfl
        go_wp2_with fail
        refine (H1.out _ HT1.out).mono ?_
        rintro _ w2 ⟨rfl, b2⟩
        have HX2 := Go.Lib.hid (HX1.out.below b2)
        have HB2 := Go.Lib.hid (upB HB1.out b2)
        have HT2 := Go.Lib.hid (HT1.out.below b2)
        clear b2 hc0 hc1 hc2 HX1 HB1 HT1
        go_wp2_with fail
        refine (HA.out _).mono ?_
        rintro _ _ ⟨rfl, rfl⟩
        go_wp2_with fail
        refine (HL.out _).mono ?_
        rintro _ _ ⟨rfl, rfl⟩
        go_wp2_with fail
        go_ret
        exact ⟨by rw [HV.out]; rfl, HB2.out⟩
      case true =>
        unfold trainV at *
        go_enter Try.func64, Try.ntmps64
        go_upto_region 1 with fail
        refine wp_gen (R := fun W => Box W w.heap.size (trainC x A c B d) ∧ Below w.heap.size w W) ⟨HX.out, HXB.out⟩ ?_
        rintro W ⟨hx, hb⟩
        have HX1 := Go.Lib.hid hx
        have HB1 := Go.Lib.hid hb
        have HT1 := Go.Lib.hid (HT.out.below hb)
        clear hx hb HX HXB
        have hc0 : W.cell? ⟨w.heap.size, 0, none⟩ = some (.slice A x.f.length c) := HX1.out.at_ 0 _ rfl
        have hc1 : W.cell? ⟨w.heap.size, 1, none⟩ = some (.slice B x.r.length d) := HX1.out.at_ 1 _ rfl
        have hc2 : W.cell? ⟨w.heap.size, 2, none⟩ = some (.int .i64 x.n) := HX1.out.at_ 2 _ rfl
        go_wp2_with fail
        refine (H1.out _ HT1.out).mono ?_
        rintro _ w2 ⟨rfl, b2⟩
        have HX2 := Go.Lib.hid (HX1.out.below b2)
        have HB2 := Go.Lib.hid (upB HB1.out b2)
        have HT2 := Go.Lib.hid (HT1.out.below b2)
        clear b2 hc0 hc1 hc2 HX1 HB1 HT1
        go_wp2_with fail
        refine (HA.out _).mono ?_
        rintro _ _ ⟨rfl, rfl⟩
        go_wp2_with fail
        refine (HL.out _).mono ?_
        rintro _ _ ⟨rfl, rfl⟩
        go_wp2_with fail
        go_ret
        exact ⟨by rw [HV.out]; rfl, HB2.out⟩
theorem chainR_is {x : Trn} {s : Int} (ht : trainB x = true) (hf : 20 ≤ topF x ∧ topF x ≤ 60) (hr : 9 ≤ topR x ∧ topR x ≤ 52) :
    chainR x s = if (linksR s (topF x) (topR x)).2 = 0 then if 200 < (linksR s (topF x) (topR x)).1 + 2 then (0, 4) else ((linksR s (topF x) (topR x)).1 + 2, 0) else (0, (linksR s (topF x) (topR x)).2) := by
  unfold chainR
  rw [if_pos ht]
  by_cases hs : stayB s = true
  · have hl : (stayB s && ringsB (topF x) (topR x)) = true := by
      unfold ringsB
      rw [hs, inB_iff.2 hf, inB_iff.2 hr]
      rfl
    rw [if_pos hs, linksR_fast hl]
    generalize max 40 (2 * ceilI (needI s (topF x) (topR x)) 2000) = m
    by_cases h2 : 200 < m
    · rw [if_pos h2]; rfl
    · rw [if_neg h2]
      unfold plus2
      show (if (0 : Int) = 0 then if m + 2 ≤ 200 then (m + 2, 0) else (0, 4) else (0, 4)) = if (0 : Int) = 0 then if 200 < m + 2 then (0, 4) else (m + 2, 0) else (0, 0)
      rw [if_pos rfl, if_pos rfl]
      by_cases h3 : m + 2 ≤ 200
      · rw [if_pos h3, if_neg (by omega)]
      · rw [if_neg h3, if_pos (by omega)]
  · rw [if_neg hs, show linksR s (topF x) (topR x) = (0, 2) by unfold linksR; rw [if_neg (by simp [hs])]]
    rfl
set_option maxRecDepth 100000 in
set_option maxHeartbeats 4000000 in
theorem implChain (x : Trn) (A : Option Addr) (c : Nat) (B : Option Addr) (d : Nat) (s : Int) (w : World) (T : TrL x A c B d w) :
    Calls Try.prog 33 #[trainV x A c B d, .int .i64 s] w (Gives2 (chainR x s) w) := by
  have HT := Go.Lib.hid T
  have HX := Go.Lib.hid (boxT_box x A c B d w)
  have HXB := Go.Lib.hid (boxT_below x A c B d w)
  clear T
  have H1 := Go.Lib.hid (fun w0 T0 => implTrain x A c B d w0 T0)
  by_cases ht : trainB x = true
  case neg =>
    have HV := Go.Lib.hid (show chainR x s = (0, 1) by unfold chainR; rw [if_neg ht])
    rw [Bool.not_eq_true] at ht
    rw [ht] at H1
    clear ht
    unfold trainV at *
    go_enter Try.func33, Try.ntmps33
    go_upto_region 1 with fail
    refine wp_gen (R := fun W => Box W w.heap.size (trainC x A c B d) ∧ Below w.heap.size w W) ⟨HX.out, HXB.out⟩ ?_
    rintro W ⟨hx, hb⟩
    have HX1 := Go.Lib.hid hx
    have HB1 := Go.Lib.hid hb
    have HT1 := Go.Lib.hid (HT.out.below hb)
    clear hx hb HX HXB
    have hc0 : W.cell? ⟨w.heap.size, 0, none⟩ = some (.slice A x.f.length c) := HX1.out.at_ 0 _ rfl
    have hc1 : W.cell? ⟨w.heap.size, 1, none⟩ = some (.slice B x.r.length d) := HX1.out.at_ 1 _ rfl
    have hc2 : W.cell? ⟨w.heap.size, 2, none⟩ = some (.int .i64 x.n) := HX1.out.at_ 2 _ rfl
    go_wp2_with fail
    refine (H1.out _ HT1.out).mono ?_
    rintro _ w2 ⟨rfl, b2⟩
    have HX2 := Go.Lib.hid (HX1.out.below b2)
    have HB2 := Go.Lib.hid (upB HB1.out b2)
    have HT2 := Go.Lib.hid (HT1.out.below b2)
    clear b2 hc0 hc1 hc2 HX1 HB1 HT1
    go_wp2_with fail
    go_ret2
    exact Gives2.of HV.out HB2.out
  case pos =>
    have HTR := Go.Lib.hid (trainB_ok ht)
    have HMF := Go.Lib.hid (fun w0 (T0 : TrL x A c B d w0) => slMax A c x.f w0 T0.f (by have := HTR.out.f.one; omega))
    have HMR := Go.Lib.hid (fun w0 (T0 : TrL x A c B d w0) => slMax B d x.r w0 T0.r (by have := HTR.out.r.one; omega))
    rw [show maxTo x.f x.f.length = topF x from maxTo_last HTR.out.f] at HMF
    rw [show maxTo x.r x.r.length = topR x from maxTo_last HTR.out.r] at HMR
    rw [ht] at H1
    have HF := Go.Lib.hid (show 20 ≤ topF x ∧ topF x ≤ 60 from HTR.out.f.rng _ (by have := HTR.out.f.one; omega))
    have HR := Go.Lib.hid (show 9 ≤ topR x ∧ topR x ≤ 52 from HTR.out.r.rng _ (by have := HTR.out.r.one; omega))
    have HV0 := Go.Lib.hid (chainR_is (s := s) ht HF.out HR.out)
    obtain ⟨li, qd, hL⟩ : ∃ li qd, linksR s (topF x) (topR x) = (li, qd) := ⟨_, _, rfl⟩
    have HLK := Go.Lib.hid (fun w0 => implLinksFor s (topF x) (topR x) w0)
    have hbd : qd = 0 → 40 ≤ li ∧ li ≤ 202 := fun h => linksR_bd (s := s) (f := topF x) (r := topR x) (by rw [hL, h])
    rw [hL] at HLK HV0
    have HV : Hid (chainR x s = if qd = 0 then if 200 < li + 2 then (0, 4) else (li + 2, 0) else (0, qd)) := HV0
    clear ht hL HF HR HTR HV0
    generalize topF x = tf at *
    generalize topR x = tr at *
    by_cases hq : qd = 0
    case neg =>
      rw [if_neg hq] at HV
      clear hbd
      unfold trainV at *
      go_enter Try.func33, Try.ntmps33
      go_upto_region 1 with fail
      refine wp_gen (R := fun W => Box W w.heap.size (trainC x A c B d) ∧ Below w.heap.size w W) ⟨HX.out, HXB.out⟩ ?_
      rintro W ⟨hx, hb⟩
      have HX1 := Go.Lib.hid hx
      have HB1 := Go.Lib.hid hb
      have HT1 := Go.Lib.hid (HT.out.below hb)
      clear hx hb HX HXB
      have hc0 : W.cell? ⟨w.heap.size, 0, none⟩ = some (.slice A x.f.length c) := HX1.out.at_ 0 _ rfl
      have hc1 : W.cell? ⟨w.heap.size, 1, none⟩ = some (.slice B x.r.length d) := HX1.out.at_ 1 _ rfl
      have hc2 : W.cell? ⟨w.heap.size, 2, none⟩ = some (.int .i64 x.n) := HX1.out.at_ 2 _ rfl
      go_wp2_with fail
      refine (H1.out _ HT1.out).mono ?_
      rintro _ w2 ⟨rfl, b2⟩
      have HX2 := Go.Lib.hid (HX1.out.below b2)
      have HB2 := Go.Lib.hid (upB HB1.out b2)
      have HT2 := Go.Lib.hid (HT1.out.below b2)
      clear b2 hc0 hc1 hc2 HX1 HB1 HT1
      have hwlt : w.heap.size < w2.heap.size := HX2.out.lt
      have HT3 := Go.Lib.hid (show TrL x A c B d w2.drew from ⟨HT2.out.f.drewN 1, HT2.out.r.drewN 1⟩)
      have hc0 : w2.cell? ⟨w.heap.size, 0, none⟩ = some (.slice A x.f.length c) := HX2.out.at_ 0 _ rfl
      have hc1 : w2.cell? ⟨w.heap.size, 1, none⟩ = some (.slice B x.r.length d) := HX2.out.at_ 1 _ rfl
      have hc2 : w2.cell? ⟨w.heap.size, 2, none⟩ = some (.int .i64 x.n) := HX2.out.at_ 2 _ rfl
      go_upto_region 3 with fail
      refine wp_region_held_drew (S := fun w' => w'.cell? ⟨w.heap.size, 0, none⟩ = some (.slice A x.f.length c) ∧ w'.cell? ⟨w.heap.size, 1, none⟩ = some (.slice B x.r.length d)) (by kernel_rfl) (by exact ⟨hc0, hc1⟩) (fun hHeld => ?_)
      refine wpAnyH_take (i := 0) (v := ?vca1) rfl (by kernel_rfl) (by kernel_rfl) (by kernel_rfl) (fun _ _ _ h => h) (Or.inl ⟨by rfl, ?hyca1⟩) (by assumption) ?restca1
      case hyca1 => (intro w hSw; (try dsimp only at hSw); go_simp; try with_reducible rfl)
      try simp only [List.getElem_toArray, List.getElem_cons_succ, List.getElem_cons_zero, Act.put, List.setIfInBounds_toArray, List.set_cons_zero, List.set_cons_succ]
      refine wpAnyH_take (i := 1) (v := ?vca2) rfl (by kernel_rfl) (by kernel_rfl) (by kernel_rfl) (fun _ _ _ h => h) (Or.inl ⟨by rfl, ?hyca2⟩) (by assumption) ?restca2
      case hyca2 => (intro w hSw; (try dsimp only at hSw); go_simp; try with_reducible rfl)
      try simp only [List.getElem_toArray, List.getElem_cons_succ, List.getElem_cons_zero, Act.put, List.setIfInBounds_toArray, List.set_cons_zero, List.set_cons_succ]
      refine wpAnyH_take (i := 2) (v := ?vca3) rfl (by kernel_rfl) (by kernel_rfl) (by kernel_rfl) (fun _ _ _ h => h) (Or.inl ⟨by rfl, ?hyca3⟩) (by assumption) ?restca3
      case hyca3 => (intro w hSw; (try dsimp only at hSw); go_simp; try with_reducible rfl)
      try simp only [List.getElem_toArray, List.getElem_cons_succ, List.getElem_cons_zero, Act.put, List.setIfInBounds_toArray, List.set_cons_zero, List.set_cons_succ]
      refine wpAnyH_take (i := 4) (v := ?vca4) rfl (by kernel_rfl) (by kernel_rfl) (by kernel_rfl) (fun _ _ _ h => h) (Or.inl ⟨by rfl, ?hyca4⟩) (by assumption) ?restca4
      case hyca4 => (intro w hSw; (try dsimp only at hSw); go_simp; try with_reducible rfl)
      try simp only [List.getElem_toArray, List.getElem_cons_succ, List.getElem_cons_zero, Act.put, List.setIfInBounds_toArray, List.set_cons_zero, List.set_cons_succ]
      refine wpAnyH_take (i := 5) (v := ?vca5) rfl (by kernel_rfl) (by kernel_rfl) (by kernel_rfl) (fun _ _ _ h => h) (Or.inl ⟨by rfl, ?hyca5⟩) (by assumption) ?restca5
      case hyca5 => (intro w hSw; (try dsimp only at hSw); go_simp; try with_reducible rfl)
      try simp only [List.getElem_toArray, List.getElem_cons_succ, List.getElem_cons_zero, Act.put, List.setIfInBounds_toArray, List.set_cons_zero, List.set_cons_succ]
      refine wpAnyH_ready (rs := [3]) (by kernel_rfl) (by simp) ?_
      refine AllReadyH.cons rfl (fun K hK => ?_) AllReadyH.nil
      go_simp
      (go_at_call 70; refine (HMF.out _ HT3.out).mono ?_; rintro _ _ ⟨rfl, rfl⟩)
      refine hK.out _ _ ?_ (fun hHeld => ?_)
      · exact ⟨hHeld.1, hHeld.2⟩
      clear hK K
      try simp only [List.getElem_toArray, List.getElem_cons_succ, List.getElem_cons_zero, Act.put, List.setIfInBounds_toArray, List.set_cons_zero, List.set_cons_succ]
      refine wpAnyH_ready (rs := [6]) (by kernel_rfl) (by simp) ?_
      refine AllReadyH.cons rfl (fun K hK => ?_) AllReadyH.nil
      go_simp
      (go_at_call 70; refine (HMR.out _ HT3.out).mono ?_; rintro _ _ ⟨rfl, rfl⟩)
      refine hK.out _ _ ?_ (fun hHeld => ?_)
      · exact ⟨hHeld.1, hHeld.2⟩
      clear hK K
      try simp only [List.getElem_toArray, List.getElem_cons_succ, List.getElem_cons_zero, Act.put, List.setIfInBounds_toArray, List.set_cons_zero, List.set_cons_succ]
      refine wpAnyH_ready (rs := [7]) (by kernel_rfl) (by simp) ?_
      refine AllReadyH.cons rfl (fun K hK => ?_) AllReadyH.nil
      go_simp
      (go_at_call 15; refine (HLK.out _).mono ?_; rintro _ wl ⟨rfl, bl⟩)
      refine hK.out _ _ ?_ (fun hHeld => ?_)
      · exact ⟨(bl.cell (p := ⟨w.heap.size, 0, none⟩) hwlt).trans hHeld.1, (bl.cell (p := ⟨w.heap.size, 1, none⟩) hwlt).trans hHeld.2⟩
      clear hK K
      try simp only [List.getElem_toArray, List.getElem_cons_succ, List.getElem_cons_zero, Act.put, List.setIfInBounds_toArray, List.set_cons_zero, List.set_cons_succ]
      refine wpAnyH_take (i := 8) (v := ?vca6) rfl (by kernel_rfl) (by kernel_rfl) (by kernel_rfl) (fun _ _ _ h => h) (Or.inl ⟨by rfl, ?hyca6⟩) (by assumption) ?restca6
      case hyca6 => (intro w hSw; (try dsimp only at hSw); go_simp; try with_reducible rfl)
      try simp only [List.getElem_toArray, List.getElem_cons_succ, List.getElem_cons_zero, Act.put, List.setIfInBounds_toArray, List.set_cons_zero, List.set_cons_succ]
      refine wpAnyH_take (i := 9) (v := ?vca7) rfl (by kernel_rfl) (by kernel_rfl) (by kernel_rfl) (fun _ _ _ h => h) (Or.inl ⟨by rfl, ?hyca7⟩) (by assumption) ?restca7
      case hyca7 => (intro w hSw; (try dsimp only at hSw); go_simp; try with_reducible rfl)
      try simp only [List.getElem_toArray, List.getElem_cons_succ, List.getElem_cons_zero, Act.put, List.setIfInBounds_toArray, List.set_cons_zero, List.set_cons_succ]
      refine wpAnyH_take (i := 10) (v := ?vca8) rfl (by kernel_rfl) (by kernel_rfl) (by kernel_rfl) (fun _ _ _ h => h) (Or.inl ⟨by rfl, ?hyca8⟩) (by assumption) ?restca8
      case hyca8 => (intro w hSw; (try dsimp only at hSw); go_simp; try with_reducible rfl)
      try simp only [List.getElem_toArray, List.getElem_cons_succ, List.getElem_cons_zero, Act.put, List.setIfInBounds_toArray, List.set_cons_zero, List.set_cons_succ]
      refine wpAnyH_take (i := 11) (v := ?vca9) rfl (by kernel_rfl) (by kernel_rfl) (by kernel_rfl) (fun _ _ _ h => h) (Or.inl ⟨by rfl, ?hyca9⟩) (by assumption) ?restca9
      case hyca9 => (intro w hSw; (try dsimp only at hSw); go_simp; try with_reducible rfl)
      try simp only [List.getElem_toArray, List.getElem_cons_succ, List.getElem_cons_zero, Act.put, List.setIfInBounds_toArray, List.set_cons_zero, List.set_cons_succ]
      refine wpAnyH_take (i := 12) (v := ?vca10) rfl (by kernel_rfl) (by kernel_rfl) (by kernel_rfl) (fun _ _ _ h => h) (Or.inl ⟨by rfl, ?hyca10⟩) (by assumption) ?restca10
      case hyca10 => (intro w hSw; (try dsimp only at hSw); go_simp; try with_reducible rfl)
      try simp only [List.getElem_toArray, List.getElem_cons_succ, List.getElem_cons_zero, Act.put, List.setIfInBounds_toArray, List.set_cons_zero, List.set_cons_succ]
      refine wpAnyH_done (by kernel_rfl) ?_ _
      have HB3 := Go.Lib.hid (HB2.out.drew.trans (bl.mono HB2.out.drew.size))
      clear bl hc0 hc1 hc2
      go_wp2_with fail
      go_ret2
      exact Gives2.of HV.out HB3.out
    case pos =>
      have hb := hbd hq
      subst hq
      rw [if_pos rfl] at HV
      have e1 : IntKind.i64.wrap (li + 2) = li + 2 := IntWalk.i64_in _ (by omega)
      clear hbd
      by_cases hg : 200 < li + 2
      case pos =>
        rw [if_pos hg] at HV
        unfold trainV at *
        go_enter Try.func33, Try.ntmps33
        go_upto_region 1 with fail
        refine wp_gen (R := fun W => Box W w.heap.size (trainC x A c B d) ∧ Below w.heap.size w W) ⟨HX.out, HXB.out⟩ ?_
        rintro W ⟨hx, hb⟩
        have HX1 := Go.Lib.hid hx
        have HB1 := Go.Lib.hid hb
        have HT1 := Go.Lib.hid (HT.out.below hb)
        clear hx hb HX HXB
        have hc0 : W.cell? ⟨w.heap.size, 0, none⟩ = some (.slice A x.f.length c) := HX1.out.at_ 0 _ rfl
        have hc1 : W.cell? ⟨w.heap.size, 1, none⟩ = some (.slice B x.r.length d) := HX1.out.at_ 1 _ rfl
        have hc2 : W.cell? ⟨w.heap.size, 2, none⟩ = some (.int .i64 x.n) := HX1.out.at_ 2 _ rfl
        go_wp2_with fail
        refine (H1.out _ HT1.out).mono ?_
        rintro _ w2 ⟨rfl, b2⟩
        have HX2 := Go.Lib.hid (HX1.out.below b2)
        have HB2 := Go.Lib.hid (upB HB1.out b2)
        have HT2 := Go.Lib.hid (HT1.out.below b2)
        clear b2 hc0 hc1 hc2 HX1 HB1 HT1
        have hwlt : w.heap.size < w2.heap.size := HX2.out.lt
        have HT3 := Go.Lib.hid (show TrL x A c B d w2.drew from ⟨HT2.out.f.drewN 1, HT2.out.r.drewN 1⟩)
        have hc0 : w2.cell? ⟨w.heap.size, 0, none⟩ = some (.slice A x.f.length c) := HX2.out.at_ 0 _ rfl
        have hc1 : w2.cell? ⟨w.heap.size, 1, none⟩ = some (.slice B x.r.length d) := HX2.out.at_ 1 _ rfl
        have hc2 : w2.cell? ⟨w.heap.size, 2, none⟩ = some (.int .i64 x.n) := HX2.out.at_ 2 _ rfl
        go_upto_region 3 with fail
        refine wp_region_held_drew (S := fun w' => w'.cell? ⟨w.heap.size, 0, none⟩ = some (.slice A x.f.length c) ∧ w'.cell? ⟨w.heap.size, 1, none⟩ = some (.slice B x.r.length d)) (by kernel_rfl) (by exact ⟨hc0, hc1⟩) (fun hHeld => ?_)
        refine wpAnyH_take (i := 0) (v := ?vcb1) rfl (by kernel_rfl) (by kernel_rfl) (by kernel_rfl) (fun _ _ _ h => h) (Or.inl ⟨by rfl, ?hycb1⟩) (by assumption) ?restcb1
        case hycb1 => (intro w hSw; (try dsimp only at hSw); go_simp; try with_reducible rfl)
        try simp only [List.getElem_toArray, List.getElem_cons_succ, List.getElem_cons_zero, Act.put, List.setIfInBounds_toArray, List.set_cons_zero, List.set_cons_succ]
        refine wpAnyH_take (i := 1) (v := ?vcb2) rfl (by kernel_rfl) (by kernel_rfl) (by kernel_rfl) (fun _ _ _ h => h) (Or.inl ⟨by rfl, ?hycb2⟩) (by assumption) ?restcb2
        case hycb2 => (intro w hSw; (try dsimp only at hSw); go_simp; try with_reducible rfl)
        try simp only [List.getElem_toArray, List.getElem_cons_succ, List.getElem_cons_zero, Act.put, List.setIfInBounds_toArray, List.set_cons_zero, List.set_cons_succ]
        refine wpAnyH_take (i := 2) (v := ?vcb3) rfl (by kernel_rfl) (by kernel_rfl) (by kernel_rfl) (fun _ _ _ h => h) (Or.inl ⟨by rfl, ?hycb3⟩) (by assumption) ?restcb3
        case hycb3 => (intro w hSw; (try dsimp only at hSw); go_simp; try with_reducible rfl)
        try simp only [List.getElem_toArray, List.getElem_cons_succ, List.getElem_cons_zero, Act.put, List.setIfInBounds_toArray, List.set_cons_zero, List.set_cons_succ]
        refine wpAnyH_take (i := 4) (v := ?vcb4) rfl (by kernel_rfl) (by kernel_rfl) (by kernel_rfl) (fun _ _ _ h => h) (Or.inl ⟨by rfl, ?hycb4⟩) (by assumption) ?restcb4
        case hycb4 => (intro w hSw; (try dsimp only at hSw); go_simp; try with_reducible rfl)
        try simp only [List.getElem_toArray, List.getElem_cons_succ, List.getElem_cons_zero, Act.put, List.setIfInBounds_toArray, List.set_cons_zero, List.set_cons_succ]
        refine wpAnyH_take (i := 5) (v := ?vcb5) rfl (by kernel_rfl) (by kernel_rfl) (by kernel_rfl) (fun _ _ _ h => h) (Or.inl ⟨by rfl, ?hycb5⟩) (by assumption) ?restcb5
        case hycb5 => (intro w hSw; (try dsimp only at hSw); go_simp; try with_reducible rfl)
        try simp only [List.getElem_toArray, List.getElem_cons_succ, List.getElem_cons_zero, Act.put, List.setIfInBounds_toArray, List.set_cons_zero, List.set_cons_succ]
        refine wpAnyH_ready (rs := [3]) (by kernel_rfl) (by simp) ?_
        refine AllReadyH.cons rfl (fun K hK => ?_) AllReadyH.nil
        go_simp
        (go_at_call 70; refine (HMF.out _ HT3.out).mono ?_; rintro _ _ ⟨rfl, rfl⟩)
        refine hK.out _ _ ?_ (fun hHeld => ?_)
        · exact ⟨hHeld.1, hHeld.2⟩
        clear hK K
        try simp only [List.getElem_toArray, List.getElem_cons_succ, List.getElem_cons_zero, Act.put, List.setIfInBounds_toArray, List.set_cons_zero, List.set_cons_succ]
        refine wpAnyH_ready (rs := [6]) (by kernel_rfl) (by simp) ?_
        refine AllReadyH.cons rfl (fun K hK => ?_) AllReadyH.nil
        go_simp
        (go_at_call 70; refine (HMR.out _ HT3.out).mono ?_; rintro _ _ ⟨rfl, rfl⟩)
        refine hK.out _ _ ?_ (fun hHeld => ?_)
        · exact ⟨hHeld.1, hHeld.2⟩
        clear hK K
        try simp only [List.getElem_toArray, List.getElem_cons_succ, List.getElem_cons_zero, Act.put, List.setIfInBounds_toArray, List.set_cons_zero, List.set_cons_succ]
        refine wpAnyH_ready (rs := [7]) (by kernel_rfl) (by simp) ?_
        refine AllReadyH.cons rfl (fun K hK => ?_) AllReadyH.nil
        go_simp
        (go_at_call 15; refine (HLK.out _).mono ?_; rintro _ wl ⟨rfl, bl⟩)
        refine hK.out _ _ ?_ (fun hHeld => ?_)
        · exact ⟨(bl.cell (p := ⟨w.heap.size, 0, none⟩) hwlt).trans hHeld.1, (bl.cell (p := ⟨w.heap.size, 1, none⟩) hwlt).trans hHeld.2⟩
        clear hK K
        try simp only [List.getElem_toArray, List.getElem_cons_succ, List.getElem_cons_zero, Act.put, List.setIfInBounds_toArray, List.set_cons_zero, List.set_cons_succ]
        refine wpAnyH_take (i := 8) (v := ?vcb6) rfl (by kernel_rfl) (by kernel_rfl) (by kernel_rfl) (fun _ _ _ h => h) (Or.inl ⟨by rfl, ?hycb6⟩) (by assumption) ?restcb6
        case hycb6 => (intro w hSw; (try dsimp only at hSw); go_simp; try with_reducible rfl)
        try simp only [List.getElem_toArray, List.getElem_cons_succ, List.getElem_cons_zero, Act.put, List.setIfInBounds_toArray, List.set_cons_zero, List.set_cons_succ]
        refine wpAnyH_take (i := 9) (v := ?vcb7) rfl (by kernel_rfl) (by kernel_rfl) (by kernel_rfl) (fun _ _ _ h => h) (Or.inl ⟨by rfl, ?hycb7⟩) (by assumption) ?restcb7
        case hycb7 => (intro w hSw; (try dsimp only at hSw); go_simp; try with_reducible rfl)
        try simp only [List.getElem_toArray, List.getElem_cons_succ, List.getElem_cons_zero, Act.put, List.setIfInBounds_toArray, List.set_cons_zero, List.set_cons_succ]
        refine wpAnyH_take (i := 10) (v := ?vcb8) rfl (by kernel_rfl) (by kernel_rfl) (by kernel_rfl) (fun _ _ _ h => h) (Or.inl ⟨by rfl, ?hycb8⟩) (by assumption) ?restcb8
        case hycb8 => (intro w hSw; (try dsimp only at hSw); go_simp; try with_reducible rfl)
        try simp only [List.getElem_toArray, List.getElem_cons_succ, List.getElem_cons_zero, Act.put, List.setIfInBounds_toArray, List.set_cons_zero, List.set_cons_succ]
        refine wpAnyH_take (i := 11) (v := ?vcb9) rfl (by kernel_rfl) (by kernel_rfl) (by kernel_rfl) (fun _ _ _ h => h) (Or.inl ⟨by rfl, ?hycb9⟩) (by assumption) ?restcb9
        case hycb9 => (intro w hSw; (try dsimp only at hSw); go_simp; try with_reducible rfl)
        try simp only [List.getElem_toArray, List.getElem_cons_succ, List.getElem_cons_zero, Act.put, List.setIfInBounds_toArray, List.set_cons_zero, List.set_cons_succ]
        refine wpAnyH_take (i := 12) (v := ?vcb10) rfl (by kernel_rfl) (by kernel_rfl) (by kernel_rfl) (fun _ _ _ h => h) (Or.inl ⟨by rfl, ?hycb10⟩) (by assumption) ?restcb10
        case hycb10 => (intro w hSw; (try dsimp only at hSw); go_simp; try with_reducible rfl)
        try simp only [List.getElem_toArray, List.getElem_cons_succ, List.getElem_cons_zero, Act.put, List.setIfInBounds_toArray, List.set_cons_zero, List.set_cons_succ]
        refine wpAnyH_done (by kernel_rfl) ?_ _
        have HB3 := Go.Lib.hid (HB2.out.drew.trans (bl.mono HB2.out.drew.size))
        clear bl hc0 hc1 hc2
        go_wp2_with fail
        go_ret2
        exact Gives2.of HV.out HB3.out
      case neg =>
        rw [if_neg hg] at HV
        unfold trainV at *
        go_enter Try.func33, Try.ntmps33
        go_upto_region 1 with fail
        refine wp_gen (R := fun W => Box W w.heap.size (trainC x A c B d) ∧ Below w.heap.size w W) ⟨HX.out, HXB.out⟩ ?_
        rintro W ⟨hx, hb⟩
        have HX1 := Go.Lib.hid hx
        have HB1 := Go.Lib.hid hb
        have HT1 := Go.Lib.hid (HT.out.below hb)
        clear hx hb HX HXB
        have hc0 : W.cell? ⟨w.heap.size, 0, none⟩ = some (.slice A x.f.length c) := HX1.out.at_ 0 _ rfl
        have hc1 : W.cell? ⟨w.heap.size, 1, none⟩ = some (.slice B x.r.length d) := HX1.out.at_ 1 _ rfl
        have hc2 : W.cell? ⟨w.heap.size, 2, none⟩ = some (.int .i64 x.n) := HX1.out.at_ 2 _ rfl
        go_wp2_with fail
        refine (H1.out _ HT1.out).mono ?_
        rintro _ w2 ⟨rfl, b2⟩
        have HX2 := Go.Lib.hid (HX1.out.below b2)
        have HB2 := Go.Lib.hid (upB HB1.out b2)
        have HT2 := Go.Lib.hid (HT1.out.below b2)
        clear b2 hc0 hc1 hc2 HX1 HB1 HT1
        have hwlt : w.heap.size < w2.heap.size := HX2.out.lt
        have HT3 := Go.Lib.hid (show TrL x A c B d w2.drew from ⟨HT2.out.f.drewN 1, HT2.out.r.drewN 1⟩)
        have hc0 : w2.cell? ⟨w.heap.size, 0, none⟩ = some (.slice A x.f.length c) := HX2.out.at_ 0 _ rfl
        have hc1 : w2.cell? ⟨w.heap.size, 1, none⟩ = some (.slice B x.r.length d) := HX2.out.at_ 1 _ rfl
        have hc2 : w2.cell? ⟨w.heap.size, 2, none⟩ = some (.int .i64 x.n) := HX2.out.at_ 2 _ rfl
        go_upto_region 3 with fail
        refine wp_region_held_drew (S := fun w' => w'.cell? ⟨w.heap.size, 0, none⟩ = some (.slice A x.f.length c) ∧ w'.cell? ⟨w.heap.size, 1, none⟩ = some (.slice B x.r.length d)) (by kernel_rfl) (by exact ⟨hc0, hc1⟩) (fun hHeld => ?_)
        refine wpAnyH_take (i := 0) (v := ?vcc1) rfl (by kernel_rfl) (by kernel_rfl) (by kernel_rfl) (fun _ _ _ h => h) (Or.inl ⟨by rfl, ?hycc1⟩) (by assumption) ?restcc1
        case hycc1 => (intro w hSw; (try dsimp only at hSw); go_simp; try with_reducible rfl)
        try simp only [List.getElem_toArray, List.getElem_cons_succ, List.getElem_cons_zero, Act.put, List.setIfInBounds_toArray, List.set_cons_zero, List.set_cons_succ]
        refine wpAnyH_take (i := 1) (v := ?vcc2) rfl (by kernel_rfl) (by kernel_rfl) (by kernel_rfl) (fun _ _ _ h => h) (Or.inl ⟨by rfl, ?hycc2⟩) (by assumption) ?restcc2
        case hycc2 => (intro w hSw; (try dsimp only at hSw); go_simp; try with_reducible rfl)
        try simp only [List.getElem_toArray, List.getElem_cons_succ, List.getElem_cons_zero, Act.put, List.setIfInBounds_toArray, List.set_cons_zero, List.set_cons_succ]
        refine wpAnyH_take (i := 2) (v := ?vcc3) rfl (by kernel_rfl) (by kernel_rfl) (by kernel_rfl) (fun _ _ _ h => h) (Or.inl ⟨by rfl, ?hycc3⟩) (by assumption) ?restcc3
        case hycc3 => (intro w hSw; (try dsimp only at hSw); go_simp; try with_reducible rfl)
        try simp only [List.getElem_toArray, List.getElem_cons_succ, List.getElem_cons_zero, Act.put, List.setIfInBounds_toArray, List.set_cons_zero, List.set_cons_succ]
        refine wpAnyH_take (i := 4) (v := ?vcc4) rfl (by kernel_rfl) (by kernel_rfl) (by kernel_rfl) (fun _ _ _ h => h) (Or.inl ⟨by rfl, ?hycc4⟩) (by assumption) ?restcc4
        case hycc4 => (intro w hSw; (try dsimp only at hSw); go_simp; try with_reducible rfl)
        try simp only [List.getElem_toArray, List.getElem_cons_succ, List.getElem_cons_zero, Act.put, List.setIfInBounds_toArray, List.set_cons_zero, List.set_cons_succ]
        refine wpAnyH_take (i := 5) (v := ?vcc5) rfl (by kernel_rfl) (by kernel_rfl) (by kernel_rfl) (fun _ _ _ h => h) (Or.inl ⟨by rfl, ?hycc5⟩) (by assumption) ?restcc5
        case hycc5 => (intro w hSw; (try dsimp only at hSw); go_simp; try with_reducible rfl)
        try simp only [List.getElem_toArray, List.getElem_cons_succ, List.getElem_cons_zero, Act.put, List.setIfInBounds_toArray, List.set_cons_zero, List.set_cons_succ]
        refine wpAnyH_ready (rs := [3]) (by kernel_rfl) (by simp) ?_
        refine AllReadyH.cons rfl (fun K hK => ?_) AllReadyH.nil
        go_simp
        (go_at_call 70; refine (HMF.out _ HT3.out).mono ?_; rintro _ _ ⟨rfl, rfl⟩)
        refine hK.out _ _ ?_ (fun hHeld => ?_)
        · exact ⟨hHeld.1, hHeld.2⟩
        clear hK K
        try simp only [List.getElem_toArray, List.getElem_cons_succ, List.getElem_cons_zero, Act.put, List.setIfInBounds_toArray, List.set_cons_zero, List.set_cons_succ]
        refine wpAnyH_ready (rs := [6]) (by kernel_rfl) (by simp) ?_
        refine AllReadyH.cons rfl (fun K hK => ?_) AllReadyH.nil
        go_simp
        (go_at_call 70; refine (HMR.out _ HT3.out).mono ?_; rintro _ _ ⟨rfl, rfl⟩)
        refine hK.out _ _ ?_ (fun hHeld => ?_)
        · exact ⟨hHeld.1, hHeld.2⟩
        clear hK K
        try simp only [List.getElem_toArray, List.getElem_cons_succ, List.getElem_cons_zero, Act.put, List.setIfInBounds_toArray, List.set_cons_zero, List.set_cons_succ]
        refine wpAnyH_ready (rs := [7]) (by kernel_rfl) (by simp) ?_
        refine AllReadyH.cons rfl (fun K hK => ?_) AllReadyH.nil
        go_simp
        (go_at_call 15; refine (HLK.out _).mono ?_; rintro _ wl ⟨rfl, bl⟩)
        refine hK.out _ _ ?_ (fun hHeld => ?_)
        · exact ⟨(bl.cell (p := ⟨w.heap.size, 0, none⟩) hwlt).trans hHeld.1, (bl.cell (p := ⟨w.heap.size, 1, none⟩) hwlt).trans hHeld.2⟩
        clear hK K
        try simp only [List.getElem_toArray, List.getElem_cons_succ, List.getElem_cons_zero, Act.put, List.setIfInBounds_toArray, List.set_cons_zero, List.set_cons_succ]
        refine wpAnyH_take (i := 8) (v := ?vcc6) rfl (by kernel_rfl) (by kernel_rfl) (by kernel_rfl) (fun _ _ _ h => h) (Or.inl ⟨by rfl, ?hycc6⟩) (by assumption) ?restcc6
        case hycc6 => (intro w hSw; (try dsimp only at hSw); go_simp; try with_reducible rfl)
        try simp only [List.getElem_toArray, List.getElem_cons_succ, List.getElem_cons_zero, Act.put, List.setIfInBounds_toArray, List.set_cons_zero, List.set_cons_succ]
        refine wpAnyH_take (i := 9) (v := ?vcc7) rfl (by kernel_rfl) (by kernel_rfl) (by kernel_rfl) (fun _ _ _ h => h) (Or.inl ⟨by rfl, ?hycc7⟩) (by assumption) ?restcc7
        case hycc7 => (intro w hSw; (try dsimp only at hSw); go_simp; try with_reducible rfl)
        try simp only [List.getElem_toArray, List.getElem_cons_succ, List.getElem_cons_zero, Act.put, List.setIfInBounds_toArray, List.set_cons_zero, List.set_cons_succ]
        refine wpAnyH_take (i := 10) (v := ?vcc8) rfl (by kernel_rfl) (by kernel_rfl) (by kernel_rfl) (fun _ _ _ h => h) (Or.inl ⟨by rfl, ?hycc8⟩) (by assumption) ?restcc8
        case hycc8 => (intro w hSw; (try dsimp only at hSw); go_simp; try with_reducible rfl)
        try simp only [List.getElem_toArray, List.getElem_cons_succ, List.getElem_cons_zero, Act.put, List.setIfInBounds_toArray, List.set_cons_zero, List.set_cons_succ]
        refine wpAnyH_take (i := 11) (v := ?vcc9) rfl (by kernel_rfl) (by kernel_rfl) (by kernel_rfl) (fun _ _ _ h => h) (Or.inl ⟨by rfl, ?hycc9⟩) (by assumption) ?restcc9
        case hycc9 => (intro w hSw; (try dsimp only at hSw); go_simp; try with_reducible rfl)
        try simp only [List.getElem_toArray, List.getElem_cons_succ, List.getElem_cons_zero, Act.put, List.setIfInBounds_toArray, List.set_cons_zero, List.set_cons_succ]
        refine wpAnyH_take (i := 12) (v := ?vcc10) rfl (by kernel_rfl) (by kernel_rfl) (by kernel_rfl) (fun _ _ _ h => h) (Or.inl ⟨by rfl, ?hycc10⟩) (by assumption) ?restcc10
        case hycc10 => (intro w hSw; (try dsimp only at hSw); go_simp; try with_reducible rfl)
        try simp only [List.getElem_toArray, List.getElem_cons_succ, List.getElem_cons_zero, Act.put, List.setIfInBounds_toArray, List.set_cons_zero, List.set_cons_succ]
        refine wpAnyH_done (by kernel_rfl) ?_ _
        have HB3 := Go.Lib.hid (HB2.out.drew.trans (bl.mono HB2.out.drew.size))
        clear bl hc0 hc1 hc2
        go_wp2_with fail
        go_ret2
        exact Gives2.of HV.out HB3.out
set_option maxRecDepth 100000 in
set_option maxHeartbeats 4000000 in
theorem implCap (x : Trn) (A : Option Addr) (c : Nat) (B : Option Addr) (d : Nat) (w : World) (T : TrL x A c B d w) :
    Calls Try.prog 30 #[trainV x A c B d] w (Gives2 (capR x) w) := by
  have HT := Go.Lib.hid T
  have HX := Go.Lib.hid (boxT_box x A c B d w)
  have HXB := Go.Lib.hid (boxT_below x A c B d w)
  clear T
  have H1 := Go.Lib.hid (fun w0 T0 => implTrain x A c B d w0 T0)
  by_cases ht : trainB x = true
  case neg =>
    have HV := Go.Lib.hid (show capR x = (0, 1) by unfold capR; rw [if_neg ht])
    rw [Bool.not_eq_true] at ht
    rw [ht] at H1
    clear ht
    unfold trainV at *
    go_enter Try.func30, Try.ntmps30
    go_upto_region 1 with fail
    refine wp_gen (R := fun W => Box W w.heap.size (trainC x A c B d) ∧ Below w.heap.size w W) ⟨HX.out, HXB.out⟩ ?_
    rintro W ⟨hx, hb⟩
    have HX1 := Go.Lib.hid hx
    have HB1 := Go.Lib.hid hb
    have HT1 := Go.Lib.hid (HT.out.below hb)
    clear hx hb HX HXB
    have hc0 : W.cell? ⟨w.heap.size, 0, none⟩ = some (.slice A x.f.length c) := HX1.out.at_ 0 _ rfl
    have hc1 : W.cell? ⟨w.heap.size, 1, none⟩ = some (.slice B x.r.length d) := HX1.out.at_ 1 _ rfl
    have hc2 : W.cell? ⟨w.heap.size, 2, none⟩ = some (.int .i64 x.n) := HX1.out.at_ 2 _ rfl
    go_wp2_with fail
    refine (H1.out _ HT1.out).mono ?_
    rintro _ w2 ⟨rfl, b2⟩
    have HX2 := Go.Lib.hid (HX1.out.below b2)
    have HB2 := Go.Lib.hid (upB HB1.out b2)
    have HT2 := Go.Lib.hid (HT1.out.below b2)
    clear b2 hc0 hc1 hc2 HX1 HB1 HT1
    go_wp2_with fail
    go_ret2
    exact Gives2.of HV.out HB2.out
  case pos =>
    have HTR := Go.Lib.hid (trainB_ok ht)
    have HMF := Go.Lib.hid (fun w0 (T0 : TrL x A c B d w0) => slMax A c x.f w0 T0.f (by have := HTR.out.f.one; omega))
    have HMR := Go.Lib.hid (fun w0 (T0 : TrL x A c B d w0) => slMax B d x.r w0 T0.r (by have := HTR.out.r.one; omega))
    rw [show maxTo x.f x.f.length = topF x from maxTo_last HTR.out.f] at HMF
    rw [show maxTo x.r x.r.length = topR x from maxTo_last HTR.out.r] at HMR
    rw [ht] at H1
    have HNF := Go.Lib.hid (fun w0 (T0 : TrL x A c B d w0) => slMin A c x.f w0 T0.f (by have := HTR.out.f.one; omega))
    have HNR := Go.Lib.hid (fun w0 (T0 : TrL x A c B d w0) => slMin B d x.r w0 T0.r (by have := HTR.out.r.one; omega))
    rw [show minTo x.f x.f.length = fI x 0 from minTo_first HTR.out.f] at HNF
    rw [show minTo x.r x.r.length = rI x 0 from minTo_first HTR.out.r] at HNR
    have hf : 20 ≤ topF x ∧ topF x ≤ 60 := HTR.out.f.rng _ (by have := HTR.out.f.one; omega)
    have hr : 9 ≤ topR x ∧ topR x ≤ 52 := HTR.out.r.rng _ (by have := HTR.out.r.one; omega)
    have hf0 : 20 ≤ fI x 0 ∧ fI x 0 ≤ 60 := HTR.out.f.rng _ (by have := HTR.out.f.one; omega)
    have hr0 : 9 ≤ rI x 0 ∧ rI x 0 ≤ 52 := HTR.out.r.rng _ (by have := HTR.out.r.one; omega)
    have HV := Go.Lib.hid (show capR x = (topF x - fI x 0 + topR x - rI x 0, 0) by unfold capR; rw [if_pos ht])
    clear ht HTR
    generalize topF x = tf at *
    generalize topR x = tr at *
    generalize fI x 0 = nf at *
    generalize rI x 0 = nr at *
    have e1 : IntKind.i64.wrap (tf - nf) = tf - nf := IntWalk.i64_in _ (by omega)
    have e2 : IntKind.i64.wrap (tf - nf + tr) = tf - nf + tr := IntWalk.i64_in _ (by omega)
    have e3 : IntKind.i64.wrap (tf - nf + tr - nr) = tf - nf + tr - nr := IntWalk.i64_in _ (by omega)
    clear hf hr hf0 hr0
    unfold trainV at *
    go_enter Try.func30, Try.ntmps30
    go_upto_region 1 with fail
    refine wp_gen (R := fun W => Box W w.heap.size (trainC x A c B d) ∧ Below w.heap.size w W) ⟨HX.out, HXB.out⟩ ?_
    rintro W ⟨hx, hb⟩
    have HX1 := Go.Lib.hid hx
    have HB1 := Go.Lib.hid hb
    have HT1 := Go.Lib.hid (HT.out.below hb)
    clear hx hb HX HXB
    have hc0 : W.cell? ⟨w.heap.size, 0, none⟩ = some (.slice A x.f.length c) := HX1.out.at_ 0 _ rfl
    have hc1 : W.cell? ⟨w.heap.size, 1, none⟩ = some (.slice B x.r.length d) := HX1.out.at_ 1 _ rfl
    have hc2 : W.cell? ⟨w.heap.size, 2, none⟩ = some (.int .i64 x.n) := HX1.out.at_ 2 _ rfl
    go_wp2_with fail
    refine (H1.out _ HT1.out).mono ?_
    rintro _ w2 ⟨rfl, b2⟩
    have HX2 := Go.Lib.hid (HX1.out.below b2)
    have HB2 := Go.Lib.hid (upB HB1.out b2)
    have HT2 := Go.Lib.hid (HT1.out.below b2)
    clear b2 hc0 hc1 hc2 HX1 HB1 HT1
    have HT3 := Go.Lib.hid (show TrL x A c B d w2.drew from ⟨HT2.out.f.drewN 1, HT2.out.r.drewN 1⟩)
    have hc0 : w2.cell? ⟨w.heap.size, 0, none⟩ = some (.slice A x.f.length c) := HX2.out.at_ 0 _ rfl
    have hc1 : w2.cell? ⟨w.heap.size, 1, none⟩ = some (.slice B x.r.length d) := HX2.out.at_ 1 _ rfl
    have hc2 : w2.cell? ⟨w.heap.size, 2, none⟩ = some (.int .i64 x.n) := HX2.out.at_ 2 _ rfl
    go_upto_region 3 with fail
    refine wp_region_held_drew (S := fun w' => w'.cell? ⟨w.heap.size, 0, none⟩ = some (.slice A x.f.length c) ∧ w'.cell? ⟨w.heap.size, 1, none⟩ = some (.slice B x.r.length d)) (by kernel_rfl) (by exact ⟨hc0, hc1⟩) (fun hHeld => ?_)
    refine wpAnyH_take (i := 0) (v := ?vcd1) rfl (by kernel_rfl) (by kernel_rfl) (by kernel_rfl) (fun _ _ _ h => h) (Or.inl ⟨by rfl, ?hycd1⟩) (by assumption) ?restcd1
    case hycd1 => (intro w hSw; (try dsimp only at hSw); go_simp; try with_reducible rfl)
    try simp only [List.getElem_toArray, List.getElem_cons_succ, List.getElem_cons_zero, Act.put, List.setIfInBounds_toArray, List.set_cons_zero, List.set_cons_succ]
    refine wpAnyH_take (i := 1) (v := ?vcd2) rfl (by kernel_rfl) (by kernel_rfl) (by kernel_rfl) (fun _ _ _ h => h) (Or.inl ⟨by rfl, ?hycd2⟩) (by assumption) ?restcd2
    case hycd2 => (intro w hSw; (try dsimp only at hSw); go_simp; try with_reducible rfl)
    try simp only [List.getElem_toArray, List.getElem_cons_succ, List.getElem_cons_zero, Act.put, List.setIfInBounds_toArray, List.set_cons_zero, List.set_cons_succ]
    refine wpAnyH_take (i := 3) (v := ?vcd3) rfl (by kernel_rfl) (by kernel_rfl) (by kernel_rfl) (fun _ _ _ h => h) (Or.inl ⟨by rfl, ?hycd3⟩) (by assumption) ?restcd3
    case hycd3 => (intro w hSw; (try dsimp only at hSw); go_simp; try with_reducible rfl)
    try simp only [List.getElem_toArray, List.getElem_cons_succ, List.getElem_cons_zero, Act.put, List.setIfInBounds_toArray, List.set_cons_zero, List.set_cons_succ]
    refine wpAnyH_take (i := 4) (v := ?vcd4) rfl (by kernel_rfl) (by kernel_rfl) (by kernel_rfl) (fun _ _ _ h => h) (Or.inl ⟨by rfl, ?hycd4⟩) (by assumption) ?restcd4
    case hycd4 => (intro w hSw; (try dsimp only at hSw); go_simp; try with_reducible rfl)
    try simp only [List.getElem_toArray, List.getElem_cons_succ, List.getElem_cons_zero, Act.put, List.setIfInBounds_toArray, List.set_cons_zero, List.set_cons_succ]
    refine wpAnyH_take (i := 7) (v := ?vcd5) rfl (by kernel_rfl) (by kernel_rfl) (by kernel_rfl) (fun _ _ _ h => h) (Or.inl ⟨by rfl, ?hycd5⟩) (by assumption) ?restcd5
    case hycd5 => (intro w hSw; (try dsimp only at hSw); go_simp; try with_reducible rfl)
    try simp only [List.getElem_toArray, List.getElem_cons_succ, List.getElem_cons_zero, Act.put, List.setIfInBounds_toArray, List.set_cons_zero, List.set_cons_succ]
    refine wpAnyH_take (i := 8) (v := ?vcd6) rfl (by kernel_rfl) (by kernel_rfl) (by kernel_rfl) (fun _ _ _ h => h) (Or.inl ⟨by rfl, ?hycd6⟩) (by assumption) ?restcd6
    case hycd6 => (intro w hSw; (try dsimp only at hSw); go_simp; try with_reducible rfl)
    try simp only [List.getElem_toArray, List.getElem_cons_succ, List.getElem_cons_zero, Act.put, List.setIfInBounds_toArray, List.set_cons_zero, List.set_cons_succ]
    refine wpAnyH_take (i := 11) (v := ?vcd7) rfl (by kernel_rfl) (by kernel_rfl) (by kernel_rfl) (fun _ _ _ h => h) (Or.inl ⟨by rfl, ?hycd7⟩) (by assumption) ?restcd7
    case hycd7 => (intro w hSw; (try dsimp only at hSw); go_simp; try with_reducible rfl)
    try simp only [List.getElem_toArray, List.getElem_cons_succ, List.getElem_cons_zero, Act.put, List.setIfInBounds_toArray, List.set_cons_zero, List.set_cons_succ]
    refine wpAnyH_take (i := 12) (v := ?vcd8) rfl (by kernel_rfl) (by kernel_rfl) (by kernel_rfl) (fun _ _ _ h => h) (Or.inl ⟨by rfl, ?hycd8⟩) (by assumption) ?restcd8
    case hycd8 => (intro w hSw; (try dsimp only at hSw); go_simp; try with_reducible rfl)
    try simp only [List.getElem_toArray, List.getElem_cons_succ, List.getElem_cons_zero, Act.put, List.setIfInBounds_toArray, List.set_cons_zero, List.set_cons_succ]
    refine wpAnyH_ready (rs := [2]) (by kernel_rfl) (by simp) ?_
    refine AllReadyH.cons rfl (fun K hK => ?_) AllReadyH.nil
    go_simp
    (go_at_call 70; refine (HMF.out _ HT3.out).mono ?_; rintro _ _ ⟨rfl, rfl⟩)
    refine hK.out _ _ ?_ (fun hHeld => ?_)
    · exact ⟨hHeld.1, hHeld.2⟩
    clear hK K
    try simp only [List.getElem_toArray, List.getElem_cons_succ, List.getElem_cons_zero, Act.put, List.setIfInBounds_toArray, List.set_cons_zero, List.set_cons_succ]
    refine wpAnyH_ready (rs := [5]) (by kernel_rfl) (by simp) ?_
    refine AllReadyH.cons rfl (fun K hK => ?_) AllReadyH.nil
    go_simp
    (go_at_call 71; refine (HNF.out _ HT3.out).mono ?_; rintro _ _ ⟨rfl, rfl⟩)
    refine hK.out _ _ ?_ (fun hHeld => ?_)
    · exact ⟨hHeld.1, hHeld.2⟩
    clear hK K
    try simp only [List.getElem_toArray, List.getElem_cons_succ, List.getElem_cons_zero, Act.put, List.setIfInBounds_toArray, List.set_cons_zero, List.set_cons_succ]
    refine wpAnyH_take (i := 6) (v := ?vcd9) rfl (by kernel_rfl) (by kernel_rfl) (by kernel_rfl) (fun _ _ _ h => h) (Or.inl ⟨by rfl, ?hycd9⟩) (by assumption) ?restcd9
    case hycd9 => (intro w hSw; (try dsimp only at hSw); go_simp; try with_reducible rfl)
    try simp only [List.getElem_toArray, List.getElem_cons_succ, List.getElem_cons_zero, Act.put, List.setIfInBounds_toArray, List.set_cons_zero, List.set_cons_succ]
    refine wpAnyH_ready (rs := [9]) (by kernel_rfl) (by simp) ?_
    refine AllReadyH.cons rfl (fun K hK => ?_) AllReadyH.nil
    go_simp
    (go_at_call 70; refine (HMR.out _ HT3.out).mono ?_; rintro _ _ ⟨rfl, rfl⟩)
    refine hK.out _ _ ?_ (fun hHeld => ?_)
    · exact ⟨hHeld.1, hHeld.2⟩
    clear hK K
    try simp only [List.getElem_toArray, List.getElem_cons_succ, List.getElem_cons_zero, Act.put, List.setIfInBounds_toArray, List.set_cons_zero, List.set_cons_succ]
    refine wpAnyH_take (i := 10) (v := ?vcd10) rfl (by kernel_rfl) (by kernel_rfl) (by kernel_rfl) (fun _ _ _ h => h) (Or.inl ⟨by rfl, ?hycd10⟩) (by assumption) ?restcd10
    case hycd10 => (intro w hSw; (try dsimp only at hSw); go_simp; try with_reducible rfl)
    try simp only [List.getElem_toArray, List.getElem_cons_succ, List.getElem_cons_zero, Act.put, List.setIfInBounds_toArray, List.set_cons_zero, List.set_cons_succ]
    refine wpAnyH_ready (rs := [13]) (by kernel_rfl) (by simp) ?_
    refine AllReadyH.cons rfl (fun K hK => ?_) AllReadyH.nil
    go_simp
    (go_at_call 71; refine (HNR.out _ HT3.out).mono ?_; rintro _ _ ⟨rfl, rfl⟩)
    refine hK.out _ _ ?_ (fun hHeld => ?_)
    · exact ⟨hHeld.1, hHeld.2⟩
    clear hK K
    try simp only [List.getElem_toArray, List.getElem_cons_succ, List.getElem_cons_zero, Act.put, List.setIfInBounds_toArray, List.set_cons_zero, List.set_cons_succ]
    refine wpAnyH_take (i := 14) (v := ?vcd11) rfl (by kernel_rfl) (by kernel_rfl) (by kernel_rfl) (fun _ _ _ h => h) (Or.inl ⟨by rfl, ?hycd11⟩) (by assumption) ?restcd11
    case hycd11 => (intro w hSw; (try dsimp only at hSw); go_simp; try with_reducible rfl)
    try simp only [List.getElem_toArray, List.getElem_cons_succ, List.getElem_cons_zero, Act.put, List.setIfInBounds_toArray, List.set_cons_zero, List.set_cons_succ]
    refine wpAnyH_take (i := 15) (v := ?vcd12) rfl (by kernel_rfl) (by kernel_rfl) (by kernel_rfl) (fun _ _ _ h => h) (Or.inl ⟨by rfl, ?hycd12⟩) (by assumption) ?restcd12
    case hycd12 => (intro w hSw; (try dsimp only at hSw); go_simp; try with_reducible rfl)
    try simp only [List.getElem_toArray, List.getElem_cons_succ, List.getElem_cons_zero, Act.put, List.setIfInBounds_toArray, List.set_cons_zero, List.set_cons_succ]
    refine wpAnyH_take (i := 16) (v := ?vcd13) rfl (by kernel_rfl) (by kernel_rfl) (by kernel_rfl) (fun _ _ _ h => h) (Or.inl ⟨by rfl, ?hycd13⟩) (by assumption) ?restcd13
    case hycd13 => (intro w hSw; (try dsimp only at hSw); go_simp; try with_reducible rfl)
    try simp only [List.getElem_toArray, List.getElem_cons_succ, List.getElem_cons_zero, Act.put, List.setIfInBounds_toArray, List.set_cons_zero, List.set_cons_succ]
    refine wpAnyH_done (by kernel_rfl) ?_ _
    have HB3 := Go.Lib.hid HB2.out.drew
    clear hc0 hc1 hc2
    go_wp2_with fail
    go_ret2
    exact Gives2.of HV.out HB3.out
end Go.Proofs.Ytilepehlmjohbaa
