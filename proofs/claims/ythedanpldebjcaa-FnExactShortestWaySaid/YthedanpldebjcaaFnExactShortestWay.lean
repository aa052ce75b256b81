/- ShortestWay of the program answers as the model does, at every argument. -/
import Derived.Test.YthedanpldebjcaaRows
import Derived.Test.YthedanpldebjcaaShImplC
import Derived.Test.YthedanpldebjcaaEqZ
import Derived.Test.YthedanpldebjcaaLawTr
import Derived.Test.YthedanpldebjcaaOpenTr
import Derived.WalkKit
import Derived.ProofKit
import Derived.OpenShut
import Derived.ShutString
import Derived.SizedLaws
namespace Go.Proofs.Ythedanpldebjcaa.fnExactShortestWay
open Go.ChangeShapes Go.WideShapes Go.ChangeAt Go.RowKit
open Go.ChangeMaps (open_string shut_string)
set_option linter.unusedVariables false

set_option maxRecDepth 100000 in
set_option maxHeartbeats 16000000 in
theorem walk (x : Trn) (A : Option Addr) (c : Nat) (B : Option Addr) (d : Nat) (aLimit : Int) (aFront : Int) (aRear : Int) (aToFront : Int) (aToRear : Int) (w : World) (T : InTr x A c B d w) (_waLimit : (Lit.int .i64 aLimit).wf = true) (_waFront : (Lit.int .i64 aFront).wf = true) (_waRear : (Lit.int .i64 aRear).wf = true) (_waToFront : (Lit.int .i64 aToFront).wf = true) (_waToRear : (Lit.int .i64 aToRear).wf = true) :
    Calls Try.prog 9 #[trainV x A c B d, .int .i64 aLimit, .int .i64 aFront, .int .i64 aRear, .int .i64 aToFront, .int .i64 aToRear] w fun e w' => e = .returned (.bool true) ∧ Below w.heap.size w w' := by
  have HSZ := Go.Lib.hid (fun w0 => law_szTrain (.bool true) A x.f.length c B x.r.length d x.n 1048576 w0 (by omega) (by omega) T.fm T.rm)
  clear _waLimit _waFront _waRear _waToFront _waToRear
  by_cases hb : szT x.f.length x.r.length 1048576 < 0
  case pos =>
    rw [szT_neg hb] at HSZ
    clear hb T
    unfold trainV
    go_enter Try.func9, Try.ntmps9
    go_upto_region 1 with fail
    refine wp_gen (R := fun W => Box W w.heap.size [.slice A x.f.length c, .slice B x.r.length d, .int .i64 x.n] ∧ Below w.heap.size w W) ⟨Box.new rfl rfl, by go_grown⟩ ?_
    rintro W1 ⟨K0, B1⟩
    have k0_0 := K0.at_ 0 _ rfl
    have k0_1 := K0.at_ 1 _ rfl
    have k0_2 := K0.at_ 2 _ rfl
    have k0_f := K0.fr
    have k0_l := K0.lt
    go_wp2_with fail
    refine (HSZ.out _).mono ?_
    rintro _ w2 ⟨rfl, b2⟩
    have B2 := upB B1 b2
    go_wp2_with fail
    go_ret
    exact ⟨rfl, B2⟩
  case neg =>
    have HFEW := Go.Lib.hid (szT_few hb)
    have HT := Go.Lib.hid (T.trl HFEW.out)
    have HFL := Go.Lib.hid (show (shortR x aLimit aFront aRear aToFront aToRear).1.length ≤ 1000000 from shortR_few x aLimit aFront aRear aToFront aToRear)
    obtain ⟨V0, V1, hv⟩ : ∃ V0 V1, shortR x aLimit aFront aRear aToFront aToRear = (V0, V1) := ⟨_, _, rfl⟩
    have HS := Go.Lib.hid (fun A c B d w0 T0 => specShort x A c B d aLimit aFront aRear aToFront aToRear w0 T0)
    have HI := Go.Lib.hid (fun A c B d w0 T0 => implShort x A c B d aLimit aFront aRear aToFront aToRear w0 T0)
    rw [hv] at HS HI HFL
    clear hv T
    try dsimp only [GivesLN, GivesR, GivesG] at HS HI HFL
    have HTO := Go.Lib.hid (fun w0 T0 => law_toTrain x A c B d w0 T0)
    have HEQ := Go.Lib.hid (fun A c B d A2 c2 B2 d2 w0 T0 T1 => law_eqTrain x A c B d A2 c2 B2 d2 w0 T0 T1)
    have hne1 : (V1 != V1) = false := by simp
    generalize szT x.f.length x.r.length 1048576 = z at HSZ hb
    unfold trainV at *
    go_enter Try.func9, Try.ntmps9
    go_upto_region 1 with fail
    refine wp_gen (R := fun W => Box W w.heap.size [.slice A x.f.length c, .slice B x.r.length d, .int .i64 x.n] ∧ Below w.heap.size w W) ⟨Box.new rfl rfl, by go_grown⟩ ?_
    rintro W1 ⟨K0, B1⟩
    have k0_0 := K0.at_ 0 _ rfl
    have k0_1 := K0.at_ 1 _ rfl
    have k0_2 := K0.at_ 2 _ rfl
    have k0_f := K0.fr
    have k0_l := K0.lt
    go_wp2_with fail
    refine (HSZ.out _).mono ?_
    rintro _ w2 ⟨rfl, b2⟩
    clear k0_0 k0_1 k0_2 k0_f k0_l
    have K0 := K0.below b2
    have B2 := upB B1 b2
    have HT2 := Go.Lib.hid (HT.out.below B2)
    clear b2 B1
    have k0_0 := K0.at_ 0 _ rfl
    have k0_1 := K0.at_ 1 _ rfl
    have k0_2 := K0.at_ 2 _ rfl
    have k0_f := K0.fr
    have k0_l := K0.lt
    go_wp2_with fail
    refine (HTO.out _ HT2.out).mono ?_
    rintro e w3 ⟨A3, c3, B3, d3, he, o3, b3⟩
    unfold trainV at he
    subst he
    have HT3 := Go.Lib.hid (o3.trl (Nat.le_refl _) HFEW.out)
    clear k0_0 k0_1 k0_2 k0_f k0_l
    have K0 := K0.below b3
    have B3' := upB B2 b3
    clear b3 o3 B2
    go_wp2_with fail
    refine (HS.out A3 c3 B3 d3 _ HT3.out).mono ?_
    rintro _ w4 ⟨E4, f4, rfl, q4, b4⟩
    have HW0 := Go.Lib.hid ((q4.rd.mono (Nat.zero_le _) (Nat.le_refl _) : Rd w4 0 w4.heap.size E4 V0.length (ints V0)))
    have HK0 := Go.Lib.hid (K0.below b4)
    have HB4 := Go.Lib.hid (upB B3' b4)
    have HT4 := Go.Lib.hid (HT.out.below HB4.out)
    clear b4 B3' HT3 HT2 q4 K0
    have K0 := HK0.out
    have k0_0 := K0.at_ 0 _ rfl
    have k0_1 := K0.at_ 1 _ rfl
    have k0_2 := K0.at_ 2 _ rfl
    have k0_f := K0.fr
    have k0_l := K0.lt
    go_wp2_with fail
    refine (HTO.out _ HT4.out).mono ?_
    rintro e w5 ⟨A5, c5, B5, d5, he, o5, b5⟩
    unfold trainV at he
    subst he
    clear k0_0 k0_1 k0_2 k0_f k0_l
    have HOX := Go.Lib.hid o5
    have HP := Go.Lib.hid b5
    have hs5 := b5.size
    clear b5 o5 K0
    go_upto_region 7 with fail
    refine wp_gen (R := fun W => Box W w5.heap.size [.slice A5 x.f.length c5, .slice B5 x.r.length d5, .int .i64 x.n] ∧ Below w5.heap.size w5 W ∧ w5.heap.size < W.heap.size) ⟨Box.new rfl rfl, by go_grown, by simp⟩ ?_
    rintro w7 ⟨KX, b6, h57⟩
    obtain ⟨px, hpx⟩ : ∃ px, w5.heap.size = px := ⟨_, rfl⟩
    have HP := Go.Lib.hid (HP.out.trans (b6.mono HP.out.size))
    have HOX := Go.Lib.hid (HOX.out.below b6 (Nat.le_refl _))
    have HTX7 := Go.Lib.hid (HOX.out.trl (Nat.le_of_lt h57) HFEW.out)
    have HPX := Go.Lib.hid hpx
    rw [hpx] at KX
    simp only [hpx]
    clear b6 hpx
    have kx_0 := KX.at_ 0 _ rfl
    have kx_1 := KX.at_ 1 _ rfl
    have kx_2 := KX.at_ 2 _ rfl
    have kx_f := KX.fr
    have kx_l := KX.lt
    go_wp2_with fail
    refine (HI.out A5 c5 B5 d5 _ HTX7.out).mono ?_
    rintro _ w8 ⟨E8, f8, rfl, q8, b8⟩
    clear kx_0 kx_1 kx_2 kx_f kx_l
    have KX := KX.below b8
    have HP := Go.Lib.hid (HP.out.trans (b8.mono HP.out.size))
    have HOX := Go.Lib.hid (HOX.out.below b8 (Nat.le_of_lt h57))
    have HG := Go.Lib.hid (show Ow w8 w7.heap.size w8.heap.size 2 E8 V0.length f8 (ints V0) from q8)
    have h78 := b8.size
    clear b8 HTX7 q8
    have HE1 := Go.Lib.hid (eqInts_same E8 E4 V0.length f8 f4 V0 _ _ _ _ _ (HG.out).rd (HW0.out.below (HP.out) (Nat.le_refl _)) (by have := HFL.out; omega))
    go_wp2_with fail
    refine HE1.out.mono ?_
    rintro _ _ ⟨rfl, y1, rfl⟩
    have KX := KX.drewN y1
    have HP := Go.Lib.hid (below_drewN HP.out y1)
    have HOX := Go.Lib.hid (HOX.out.below (below_drewN (Below.refl w8.heap.size w8) y1) (by omega))
    have HG := Go.Lib.hid (HG.out.drewN y1)
    have HS9 := Go.Lib.hid (show w8.heap.size ≤ (w8.drewN y1).heap.size from Nat.le_refl _)
    clear HE1
    generalize w8.drewN y1 = w9 at *
    have HTX9 := Go.Lib.hid (HOX.out.trl (by have := HS9.out; omega) HFEW.out)
    have HTd := Go.Lib.hid (HT4.out.below (below_drewN HP.out 1))
    have HSW := Go.Lib.hid (show Below w9.heap.size w9 (w9.drewN 1) from below_drewN (Below.refl _ _) 1)
    have K0 := HK0.out.below HP.out
    have kx_0 := KX.at_ 0 _ rfl
    have kx_1 := KX.at_ 1 _ rfl
    have kx_2 := KX.at_ 2 _ rfl
    have kx_f := KX.fr
    have kx_l := KX.lt
    have k0_0 := K0.at_ 0 _ rfl
    have k0_1 := K0.at_ 1 _ rfl
    have k0_2 := K0.at_ 2 _ rfl
    have k0_f := K0.fr
    have k0_l := K0.lt
    go_upto_region 10 with fail
    refine wp_region_held_drew (S := fun w' => w'.cell? ⟨px, 0, none⟩ = some (.slice A5 x.f.length c5) ∧ w'.cell? ⟨px, 1, none⟩ = some (.slice B5 x.r.length d5) ∧ w'.cell? ⟨px, 2, none⟩ = some (.int .i64 x.n) ∧ w'.cell? ⟨w.heap.size, 0, none⟩ = some (.slice A x.f.length c) ∧ w'.cell? ⟨w.heap.size, 1, none⟩ = some (.slice B x.r.length d) ∧ w'.cell? ⟨w.heap.size, 2, none⟩ = some (.int .i64 x.n)) (by kernel_rfl) (by exact ⟨kx_0, kx_1, kx_2, k0_0, k0_1, k0_2⟩) (fun hHeld => ?_)
    refine wpAnyH_take (i := 0) (v := ?vk1) rfl (by kernel_rfl) (by kernel_rfl) (by kernel_rfl) (fun _ _ _ h => h) (Or.inl ⟨by rfl, ?hyk1⟩) (by assumption) ?restk1
    case hyk1 => (intro w hSw; (try dsimp only at hSw); go_simp; try with_reducible rfl)
    try simp only [List.getElem_toArray, List.getElem_cons_succ, List.getElem_cons_zero, Act.put, List.setIfInBounds_toArray, List.set_cons_zero, List.set_cons_succ]
    refine wpAnyH_take (i := 1) (v := ?vk2) rfl (by kernel_rfl) (by kernel_rfl) (by kernel_rfl) (fun _ _ _ h => h) (Or.inl ⟨by rfl, ?hyk2⟩) (by assumption) ?restk2
    case hyk2 => (intro w hSw; (try dsimp only at hSw); go_simp; try with_reducible rfl)
    try simp only [List.getElem_toArray, List.getElem_cons_succ, List.getElem_cons_zero, Act.put, List.setIfInBounds_toArray, List.set_cons_zero, List.set_cons_succ]
    refine wpAnyH_ready (rs := [2]) (by kernel_rfl) (by simp) ?_
    refine AllReadyH.cons rfl (fun K hK => ?_) AllReadyH.nil
    go_simp
    (go_at_call 40; refine (HTO.out _ HTd.out).mono ?_; rintro e wc1 ⟨A6, c6, B6, d6, he, o6, bc⟩; unfold trainV at he; subst he)
    have HBc := Go.Lib.hid (HSW.out.trans (bc.mono HSW.out.size))
    have HTx := Go.Lib.hid (HTX9.out.below HBc.out)
    have HTy := Go.Lib.hid (o6.trl (Nat.le_refl _) HFEW.out)
    clear o6 bc
    refine hK.out _ _ ?_ (fun hHeld => ?_)
    · exact ⟨(HBc.out.cell (p := ⟨px, 0, none⟩) kx_l).trans kx_0, (HBc.out.cell (p := ⟨px, 1, none⟩) kx_l).trans kx_1, (HBc.out.cell (p := ⟨px, 2, none⟩) kx_l).trans kx_2, (HBc.out.cell (p := ⟨w.heap.size, 0, none⟩) k0_l).trans k0_0, (HBc.out.cell (p := ⟨w.heap.size, 1, none⟩) k0_l).trans k0_1, (HBc.out.cell (p := ⟨w.heap.size, 2, none⟩) k0_l).trans k0_2⟩
    clear hK K
    try simp only [List.getElem_toArray, List.getElem_cons_succ, List.getElem_cons_zero, Act.put, List.setIfInBounds_toArray, List.set_cons_zero, List.set_cons_succ]
    refine wpAnyH_ready (rs := [3]) (by kernel_rfl) (by simp) ?_
    refine AllReadyH.cons rfl (fun K hK => ?_) AllReadyH.nil
    go_simp
    (go_at_call 41; refine (HEQ.out A5 c5 B5 d5 A6 c6 B6 d6 _ HTx.out HTy.out).mono ?_; rintro _ wc2 ⟨rfl, bc⟩)
    have HBc := Go.Lib.hid (HBc.out.trans (bc.mono HBc.out.size))
    clear bc
    refine hK.out _ _ ?_ (fun hHeld => ?_)
    · exact ⟨(HBc.out.cell (p := ⟨px, 0, none⟩) kx_l).trans kx_0, (HBc.out.cell (p := ⟨px, 1, none⟩) kx_l).trans kx_1, (HBc.out.cell (p := ⟨px, 2, none⟩) kx_l).trans kx_2, (HBc.out.cell (p := ⟨w.heap.size, 0, none⟩) k0_l).trans k0_0, (HBc.out.cell (p := ⟨w.heap.size, 1, none⟩) k0_l).trans k0_1, (HBc.out.cell (p := ⟨w.heap.size, 2, none⟩) k0_l).trans k0_2⟩
    clear hK K
    try simp only [List.getElem_toArray, List.getElem_cons_succ, List.getElem_cons_zero, Act.put, List.setIfInBounds_toArray, List.set_cons_zero, List.set_cons_succ]
    refine wpAnyH_take (i := 4) (v := ?vk3) rfl (by kernel_rfl) (by kernel_rfl) (by kernel_rfl) (fun _ _ _ h => h) (Or.inl ⟨by rfl, ?hyk3⟩) (by assumption) ?restk3
    case hyk3 => (intro w hSw; (try dsimp only at hSw); go_simp; try with_reducible rfl)
    try simp only [List.getElem_toArray, List.getElem_cons_succ, List.getElem_cons_zero, Act.put, List.setIfInBounds_toArray, List.set_cons_zero, List.set_cons_succ]
    refine wpAnyH_done (by kernel_rfl) ?_ _
    have HP := Go.Lib.hid (HP.out.trans (HBc.out.mono HP.out.size))
    have HOX := Go.Lib.hid (HOX.out.below HBc.out (by have := HS9.out; omega))
    have HG := Go.Lib.hid (HG.out.below HBc.out (by have := HS9.out; omega))
    have KX := KX.below HBc.out
    have HSA := Go.Lib.hid (show w8.heap.size ≤ wc2.heap.size from Nat.le_trans HS9.out HBc.out.size)
    clear k0_0 k0_1 k0_2 k0_f k0_l kx_0 kx_1 kx_2 kx_f kx_l
    clear HBc HSW HTx HTy HTX9 HTd
    have kx_0 := KX.at_ 0 _ rfl
    have kx_1 := KX.at_ 1 _ rfl
    have kx_2 := KX.at_ 2 _ rfl
    have kx_f := KX.fr
    have kx_l := KX.lt
    have HMT := Go.Lib.hid (law_markTrain x A5 c5 B5 d5 1 w4.heap.size w5.heap.size wc2 HOX.out (by have := HSA.out; omega) HFEW.out (by omega))
    unfold trainV at HMT
    go_wp2_with fail
    refine HMT.out.mono ?_
    rintro _ wm ⟨rfl, km⟩
    clear kx_0 kx_1 kx_2 kx_f kx_l
    have HP := Go.Lib.hid (HP.out.trans (km.below (B := w4.heap.size) (by omega) HP.out.size))
    have HG := Go.Lib.hid (HG.out.keep km (by have := HSA.out; omega) (.inr (by omega)))
    have HSB := Go.Lib.hid (show w8.heap.size ≤ wm.heap.size from Nat.le_trans HSA.out km.size)
    have hkn : ¬ ((1 + x.f.length + x.r.length : Nat) : Int) < 0 := by omega
    clear km KX HMT HOX HSA
    have HE2 := Go.Lib.hid (eqInts_same E8 E4 V0.length f8 f4 V0 _ _ _ _ _ (HG.out).rd (HW0.out.below (HP.out) (Nat.le_refl _)) (by have := HFL.out; omega))
    go_wp2_with fail
    refine HE2.out.mono ?_
    rintro _ _ ⟨rfl, y2, rfl⟩
    have HP := Go.Lib.hid (below_drewN HP.out y2)
    have HG := Go.Lib.hid (HG.out.drewN y2)
    have HSB := Go.Lib.hid (show w8.heap.size ≤ (wm.drewN y2).heap.size from HSB.out)
    clear HE2
    generalize wm.drewN y2 = wn at *
    have HM := Go.Lib.hid (markInts E8 V0.length f8 1 _ _ _ _ HG.out (by have := HFL.out; omega) (by omega))
    go_wp2_with fail
    refine HM.out.mono ?_
    rintro _ wo ⟨rfl, qm, km⟩
    have HP := Go.Lib.hid (HP.out.trans (km.below (B := w4.heap.size) (by omega) HP.out.size))
    have HGM := Go.Lib.hid qm
    have HSB := Go.Lib.hid (show w8.heap.size ≤ wo.heap.size from Nat.le_trans HSB.out km.size)
    clear qm km HM HG
    have HH := Go.Lib.hid (heldInts E8 V0.length f8 1 _ _ _ HGM.out.rd (by have := HFL.out; omega) (by omega))
    have hqn : ¬ (((1 + V0.length) : Nat) : Int) < 0 := by omega
    have hqm : ((((1 + V0.length) : Nat) : Int) != (((1 + V0.length) : Nat) : Int)) = false := by simp
    go_wp2_with fail
    refine HH.out.mono ?_
    rintro _ _ ⟨rfl, rfl⟩
    clear HH
    have K0 := HK0.out.below HP.out
    have k0_0 := K0.at_ 0 _ rfl
    have k0_1 := K0.at_ 1 _ rfl
    have k0_2 := K0.at_ 2 _ rfl
    have k0_f := K0.fr
    have k0_l := K0.lt
    go_wp2_with fail
    refine (HTO.out _ (HT4.out.below HP.out)).mono ?_
    rintro e wp ⟨A7, c7, B7, d7, he, o7, b7⟩
    unfold trainV at he
    subst he
    clear k0_0 k0_1 k0_2 k0_f k0_l
    have HP := Go.Lib.hid (HP.out.trans (b7.mono HP.out.size))
    have HGM := Go.Lib.hid (HGM.out.below b7 (by have := HSB.out; omega))
    have HSB := Go.Lib.hid (show w8.heap.size ≤ wp.heap.size from Nat.le_trans HSB.out b7.size)
    have HT7 := Go.Lib.hid (o7.trl (Nat.le_refl _) HFEW.out)
    clear o7 b7
    go_wp2_with fail
    refine (HI.out A7 c7 B7 d7 _ HT7.out).mono ?_
    rintro _ wr ⟨Eh, fh, rfl, qh, bh⟩
    have HP := Go.Lib.hid (HP.out.trans (bh.mono HP.out.size))
    have HGM := Go.Lib.hid (HGM.out.below bh (by have := HSB.out; omega))
    have HSB := Go.Lib.hid (show w8.heap.size ≤ wr.heap.size from Nat.le_trans HSB.out bh.size)
    have HE3 := Go.Lib.hid (eqInts_same Eh E4 V0.length fh f4 V0 _ _ _ _ _ (qh).rd (HW0.out.below (HP.out) (Nat.le_refl _)) (by have := HFL.out; omega))
    clear bh qh HT7
    go_wp2_with fail
    refine HE3.out.mono ?_
    rintro _ _ ⟨rfl, y3, rfl⟩
    have HP := Go.Lib.hid (below_drewN HP.out y3)
    have HGM := Go.Lib.hid (HGM.out.drewN y3)
    clear HE3
    generalize wr.drewN y3 = wt at *
    have HH := Go.Lib.hid (heldInts E8 V0.length f8 1 _ _ _ HGM.out.rd (by have := HFL.out; omega) (by omega))
    go_wp2_with fail
    refine HH.out.mono ?_
    rintro _ _ ⟨rfl, rfl⟩
    clear HH
    go_wp2_with fail
    go_ret
    exact ⟨rfl, upB HB4.out HP.out⟩

set_option maxRecDepth 100000 in
theorem lifted (os : Os) (started : os.Started) (H : Type) (enc : TypeId × Value → H) :
    ReturnsInHanded {} Try.checked os 9 .any (Rows.fnExactShortestWaySpec.pre6 enc Try.prog Try.f9 Rows.fnExactShortestWayRow.domain false) (Rows.fnExactShortestWaySpec.post enc Try.prog Try.f9 false true false false) := by
  refine returnsInHanded_of_change_sized (C := Try.checked) own started (by kernel_rfl) Try.func9
    (ChangeSpec.witness6 (enc := enc) (C := Try.checked) false ⟨#[], #[.agg #[.slice none 0 0, .slice none 0 0, .int .i64 0], .int .i64 0, .int .i64 0, .int .i64 0, .int .i64 0, .int .i64 0], []⟩ 8 (by kernel_rfl) (by kernel_rfl) (by kernel_rfl) (by kernel_rfl)) ?_
  intro W base args ds gs before hval0 hW hcnd hsz0 _
  have hsz : (DataW.weightsEach Try.prog (Try.f9.params.toList ++ Rows.fnExactShortestWaySpec.plain.varTypes Try.prog) (ds ++ gs)).all (· ≤ reachBytes) = true := hsz0
  clear hsz0
  have hval : ∀ (j : Nat) t v, Try.f9.params[j]? = some t → args[j]? = some v → Value.okWide Try.prog W .any base t v := hval0
  clear hval0
  have hW' := hW
  obtain ⟨p, q, hA0, hV, rfl, hfz, hnd⟩ := hW
  have hA : DataW.TrodAll enc Try.prog W 0 (fun _ => true) true Try.f9.params.toList args.toList ds p := hA0
  rw [Try.params9] at hA hval hsz
  obtain ⟨v0, vs0, d0, ds0, p0, q0, hargs, rfl, rfl, h0, r0⟩ := trodAll_cons hA
  obtain ⟨v1, vs1, d1, ds1, p1, q1, rfl, rfl, rfl, h1, r1⟩ := trodAll_cons r0
  obtain ⟨v2, vs2, d2, ds2, p2, q2, rfl, rfl, rfl, h2, r2⟩ := trodAll_cons r1
  obtain ⟨v3, vs3, d3, ds3, p3, q3, rfl, rfl, rfl, h3, r3⟩ := trodAll_cons r2
  obtain ⟨v4, vs4, d4, ds4, p4, q4, rfl, rfl, rfl, h4, r4⟩ := trodAll_cons r3
  obtain ⟨v5, vs5, d5, ds5, p5, q5, rfl, rfl, rfl, h5, r5⟩ := trodAll_cons r4
  obtain ⟨rfl, rfl, rfl⟩ := trodAll_nil r5
  obtain rfl : args = #[v0, v1, v2, v3, v4, v5] := by cases args; simp_all
  obtain ⟨rfl, rfl⟩ := trodVars_none hV
  have k0 := h0
  have lt0 : ∀ x ∈ p0, x.block < W.heap.size := by obtain ⟨m, hm⟩ := k0; exact DataW.trod_lt m _ _ _ hm
  obtain ⟨A0, B0, n0, c0, m0, e0, q0, f0, z0, rfl, rf0, lf0, mf0, rr0, lr0, mr0, w0⟩ := open_train (hval 0 53 v0 rfl rfl) h0
  obtain rfl : f0.length = n0 := by have := rf0.len; rwa [ints_len] at this
  obtain rfl : z0.length = m0 := by have := rr0.len; rwa [ints_len] at this
  obtain ⟨a1, rfl, rfl, rfl, w1⟩ := open_int Try.underlying2 (hval 1 2 v1 rfl rfl) h1
  obtain ⟨a2, rfl, rfl, rfl, w2⟩ := open_int Try.underlying2 (hval 2 2 v2 rfl rfl) h2
  obtain ⟨a3, rfl, rfl, rfl, w3⟩ := open_int Try.underlying2 (hval 3 2 v3 rfl rfl) h3
  obtain ⟨a4, rfl, rfl, rfl, w4⟩ := open_int Try.underlying2 (hval 4 2 v4 rfl rfl) h4
  obtain ⟨a5, rfl, rfl, rfl, w5⟩ := open_int Try.underlying2 (hval 5 2 v5 rfl rfl) h5
  clear hA0
  refine (walk ⟨f0, z0, q0⟩ A0 c0 B0 e0 a1 a2 a3 a4 a5 W ⟨rf0, lf0, mf0, rr0, lr0, mr0⟩ w1 w2 w3 w4 w5).mono fun e W' ⟨he, bel⟩ => ?_
  subst he
  exact ⟨_, rfl, _, _, _, [], _, [], hW', trodAll_mk1 (shut_bool Try.underlying4 _), (trodAll_cons_mk (Below.trod laidOut (by kernel_rfl) (of_decide_eq_true (by kernel_rfl)) k0 bel lt0) (trodAll_cons_mk (shut_int Try.underlying2 w1) (trodAll_cons_mk (shut_int Try.underlying2 w2) (trodAll_cons_mk (shut_int Try.underlying2 w3) (trodAll_cons_mk (shut_int Try.underlying2 w4) (trodAll_cons_mk (shut_int Try.underlying2 w5) trodAll_mk0)))))), rfl, bel.frame _, fun h => by cases h⟩

theorem over : Rows.fnExactShortestWayRow.holds Try.pinned (OpenSpec.ofChange Rows.fnExactShortestWaySpec) :=
  OpenClaim.holds_of_wide 9 Try.f9 rfl rfl rfl rfl rfl rfl rfl ⟨rfl, rfl, rfl, rfl, rfl⟩ rfl rfl rfl rfl rfl (by kernel_rfl) Try.func9 (by kernel_rfl)
    (of_decide_eq_true (by kernel_rfl)) (by unfold Func.isWrapper; first | (rw [if_pos (by decide +kernel)]; kernel_rfl) | (rw [if_neg (by decide +kernel)]; exact ⟨rfl, rfl⟩))
    (fun os started H enc _ => lifted os started H enc)

theorem proved : Rows.FnExactShortestWaySaid := over
end Go.Proofs.Ythedanpldebjcaa.fnExactShortestWay
