/- The model: the steps between gears. -/
import Derived.Test.YtifblmcocikopaaGearS5
namespace Go.Proofs.Ytifblmcocikopaa
open Go.RowKit
set_option linter.unusedSimpArgs false
set_option linter.unusedVariables false

def UpG (x : Trn) : List Gr → Prop
  | [] => True
  | [_] => True
  | a :: b :: t => leG x a b ∧ UpG x (b :: t)
theorem leG_total {x : Trn} {a b : Gr} (h : ¬ leG x a b) : leG x b a := by
  unfold leG at *
  omega
theorem ins_up {x : Trn} {g : Gr} : ∀ {gs : List Gr}, UpG x gs → UpG x (ins x g gs)
  | [], _ => trivial
  | [a], _ => by
    unfold ins
    split
    · exact ⟨by assumption, trivial⟩
    · exact ⟨leG_total (by assumption), trivial⟩
  | a :: b :: t, ⟨hab, h⟩ => by
    have ih := ins_up (g := g) h
    unfold ins
    split
    · rename_i hag
      unfold ins at ih ⊢
      split at ih
      · rename_i hbg
        rw [if_pos hbg]
        exact ⟨hab, ih⟩
      · rename_i hbg
        rw [if_neg hbg]
        exact ⟨hag, ih⟩
    · exact ⟨leG_total (by assumption), hab, h⟩
theorem ordTo_up (x : Trn) : ∀ k, UpG x (ordTo x k)
  | 0 => trivial
  | k + 1 => ins_up (ordTo_up x k)
theorem UpG.at_ {x : Trn} : ∀ {gs : List Gr} {i : Nat}, UpG x gs → i + 1 < gs.length → leG x (gs.getD i (0, 0)) (gs.getD (i + 1) (0, 0))
  | [], _, _, h => absurd h (by simp)
  | [_], _, _, h => absurd h (by simp)
  | a :: b :: t, 0, ⟨h, _⟩, _ => by simpa using h
  | a :: b :: t, i + 1, ⟨_, h⟩, hi => by
    have := h.at_ (i := i) (by simpa using hi)
    simpa using this
theorem stepsTo_succ (x : Trn) (gs : List Gr) (k : Nat) : stepsTo x gs (k + 1) = stepsTo x gs k ++ [stepG x (gs.getD k (0, 0)) (gs.getD (k + 1) (0, 0))] := by
  unfold stepsTo
  rw [List.range_succ, List.map_append]
  rfl
theorem stepsTo_len (x : Trn) (gs : List Gr) (k : Nat) : (stepsTo x gs k).length = k := by simp [stepsTo]
theorem Gat.below {w wr w1 : World} {zs : List Int} {v : Value} (h : Gat w zs v wr) (b : Below wr.heap.size wr w1) : Gat w zs v w1 := by
  obtain ⟨A, cap, rfl, ho⟩ := h.form
  exact ⟨(ho.below b (Nat.le_refl _)).1, h.b.trans (b.mono h.b.size)⟩
set_option maxRecDepth 100000 in
set_option maxHeartbeats 16000000 in
theorem specSteps (x : Trn) (A : Option Addr) (c : Nat) (B : Option Addr) (d : Nat) (w : World) (T : TrL x A c B d w) :
    Calls Try.prog 30 #[trainV x A c B d] w (GivesLN (stepsR x) w) := by
  obtain ⟨i0, hi, hz0, hz1, hz2⟩ := info_parts infoI64
  have HT := Go.Lib.hid T
  have HX := Go.Lib.hid (boxT_box x A c B d w)
  have HXB := Go.Lib.hid (boxT_below x A c B d w)
  clear T
  have H1 := Go.Lib.hid (fun w0 T0 => specTrain x A c B d w0 T0)
  by_cases ht : trainB x = true
  case neg =>
    have HV := Go.Lib.hid (show stepsR x = ([], 1) by unfold stepsR; rw [if_neg ht])
    rw [Bool.not_eq_true] at ht
    rw [ht] at H1
    clear ht
    unfold trainV at *
    go_enter Try.func30, Try.ntmps30
    go_upto_region 1 with fail
    refine wp_gen (R := fun W => Box W w.heap.size (trainC x A c B d) ∧ Below w.heap.size w W) ⟨HX.out, HXB.out⟩ ?_
    rintro W ⟨hx, hb⟩
    have HX1 := Go.Lib.hid hx
    have HB1 := Go.Lib.hid hb
    have HT1 := Go.Lib.hid (HT.out.below hb)
    clear hx hb HX HXB
    have hc0 : W.cell? ⟨w.heap.size, 0, none⟩ = some (.slice A x.f.length c) := HX1.out.at_ 0 _ rfl
    have hc1 : W.cell? ⟨w.heap.size, 1, none⟩ = some (.slice B x.r.length d) := HX1.out.at_ 1 _ rfl
    have hc2 : W.cell? ⟨w.heap.size, 2, none⟩ = some (.int .i64 x.n) := HX1.out.at_ 2 _ rfl
    go_wp2_with fail
    refine (H1.out _ HT1.out).mono ?_
    rintro _ w2 ⟨rfl, b2⟩
    have HX2 := Go.Lib.hid (HX1.out.below b2)
    have HB2 := Go.Lib.hid (upB HB1.out b2)
    have HT2 := Go.Lib.hid (HT1.out.below b2)
    clear b2
    go_wp2_with fail
    go_ret2
    exact GivesLN.nil HV.out HB2.out
  case pos =>
    have HUP := Go.Lib.hid (show ∀ i, i + 1 < (ordI x).length → leG x ((ordI x).getD i (0, 0)) ((ordI x).getD (i + 1) (0, 0)) from fun i hi => (ordTo_up x (x.f.length * x.r.length)).at_ hi)
    have HV := Go.Lib.hid (show stepsR x = (stepsTo x (ordI x) ((ordI x).length - 1), 0) by unfold stepsR; rw [if_pos ht])
    have HD := Go.Lib.hid (fun w0 T0 => specOrder x A c B d w0 T0 (trainB_ok ht))
    have HTr := Go.Lib.hid (trainB_ok ht)
    rw [ht] at H1
    clear ht
    have hTr := HTr.out
    have hn1 : 1 ≤ (ordI x).length := by rw [ordI_len]; exact Nat.mul_pos hTr.f.one hTr.r.one
    have hn36 : (ordI x).length ≤ 36 := by
      rw [ordI_len]
      have h1 := hTr.f.few
      have h2 := hTr.r.few
      exact Nat.le_trans (Nat.mul_le_mul (by omega : x.f.length ≤ 3) (by omega : x.r.length ≤ 12)) (by decide)
    have HOK := Go.Lib.hid (fun i (hi : i < (ordI x).length) => ordTo_ok (x := x) (k := x.f.length * x.r.length) (Nat.le_refl _) (mem_getD (gs := ordI x) (i := i) hi))
    have HRA := Go.Lib.hid (fun i (hi : i < (ordI x).length) => rowsG_at (gs := ordI x) (i := i) hi)
    have HLE := Go.Lib.hid (rowsG_len (ordI x))
    clear hTr
    generalize ordI x = L at *
    rw [HLE.out] at HD

    unfold trainV at *
    go_enter Try.func30, Try.ntmps30
    go_upto_region 1 with fail
    refine wp_gen (R := fun W => Box W w.heap.size (trainC x A c B d) ∧ Below w.heap.size w W) ⟨HX.out, HXB.out⟩ ?_
    rintro W ⟨hx, hb⟩
    have HX1 := Go.Lib.hid hx
    have HB1 := Go.Lib.hid hb
    have HT1 := Go.Lib.hid (HT.out.below hb)
    clear hx hb HX HXB
    have hc0 : W.cell? ⟨w.heap.size, 0, none⟩ = some (.slice A x.f.length c) := HX1.out.at_ 0 _ rfl
    have hc1 : W.cell? ⟨w.heap.size, 1, none⟩ = some (.slice B x.r.length d) := HX1.out.at_ 1 _ rfl
    have hc2 : W.cell? ⟨w.heap.size, 2, none⟩ = some (.int .i64 x.n) := HX1.out.at_ 2 _ rfl
    go_wp2_with fail
    refine (H1.out _ HT1.out).mono ?_
    rintro _ w2 ⟨rfl, b2⟩
    have HX2 := Go.Lib.hid (HX1.out.below b2)
    have HB2 := Go.Lib.hid (upB HB1.out b2)
    have HT2 := Go.Lib.hid (HT1.out.below b2)
    clear b2
    clear hc0 hc1 hc2
    have hc0 : w2.cell? ⟨w.heap.size, 0, none⟩ = some (.slice A x.f.length c) := HX2.out.at_ 0 _ rfl
    have hc1 : w2.cell? ⟨w.heap.size, 1, none⟩ = some (.slice B x.r.length d) := HX2.out.at_ 1 _ rfl
    have hc2 : w2.cell? ⟨w.heap.size, 2, none⟩ = some (.int .i64 x.n) := HX2.out.at_ 2 _ rfl
    go_wp2_with fail
    refine (HD.out _ HT2.out).mono ?_
    rintro _ w3 ⟨gl, capl, rfl, oz, b3⟩
    have HLZ := Go.Lib.hid (oz.ls (by rw [HLE.out]; omega))
    have HB3 := Go.Lib.hid (upB HB2.out b3)
    have HX3 := Go.Lib.hid (HX2.out.below b3)
    have HT3 := Go.Lib.hid (HT2.out.below b3)
    clear oz b3 hc0 hc1 hc2
    have HG0 := Go.Lib.hid (Gat.start (Below.refl w3.heap.size w3))
    have HLC := Go.Lib.hid HLZ.out.le
    go_wp2_with fail
    go_loopw [5, 6] (fun v u wr => ∃ (k : Nat), 1 ≤ k ∧ k ≤ L.length ∧ u = .int .i64 k ∧ Gat w3 (stepsTo x L (k - 1)) v wr) (fun _ u _ => L.length - (intOf u).toNat)
    case atStart => exact ⟨1, Nat.le_refl _, hn1, rfl, HG0.out⟩
    case round =>
      obtain ⟨k, hk1, hk, rfl, hgat⟩ := hrel
      have HGT := Go.Lib.hid hgat
      have hbq := hgat.b
      clear hgat HG0
      by_cases hlt : k < L.length
      case neg =>
        obtain rfl : k = L.length := by omega
        have HF := Go.Lib.hid ((HGT.out.done HV.out).up HB3.out)
        clear hbq
        go_wp2_with fail
        go_ret2
        exact HF.out
      case pos =>
        obtain ⟨eb, eo, D, dd, e, -, hrow0, hlr0⟩ := HLZ.out.at_ (k := k - 1) (by rw [HLE.out]; omega)
        cases e
        obtain ⟨eb2, eo2, E, ee, e, -, hrow1, hlr1⟩ := HLZ.out.at_ (k := k) (by rw [HLE.out]; omega)
        cases e
        rw [HRA.out (k - 1) (by omega)] at hrow0 hlr0
        rw [HRA.out k hlt] at hrow1 hlr1
        rw [Nat.zero_add] at hrow0 hrow1
        have hra : wr.cell? ⟨gl, k - 1, none⟩ = some (.slice D 2 dd) := (hbq.cell (p := ⟨gl, k - 1, none⟩) (cell_in hrow0)).trans hrow0
        have hrb : wr.cell? ⟨gl, k, none⟩ = some (.slice E 2 ee) := (hbq.cell (p := ⟨gl, k, none⟩) (cell_in hrow1)).trans hrow1
        have HRp := Go.Lib.hid (hlr0.below hbq)
        have HRq := Go.Lib.hid (hlr1.below hbq)
        have HXQ := Go.Lib.hid (HX3.out.below hbq)
        have HTQ := Go.Lib.hid (HT3.out.below hbq)
        obtain ⟨ha1, ha2⟩ := HOK.out (k - 1) (by omega)
        obtain ⟨hb1, hb2⟩ := HOK.out k hlt
        have hup := HUP.out (k - 1) (by omega)
        have HSU := Go.Lib.hid (stepsTo_succ x L (k - 1))
        rw [Nat.sub_add_cancel hk1] at HSU hup
        have HSL := Go.Lib.hid (stepsTo_len x L (k - 1))
        have afb := HTr.out.fb (HOK.out (k - 1) (by omega))
        have arb := HTr.out.rb (HOK.out (k - 1) (by omega))
        have bfb := HTr.out.fb (HOK.out k hlt)
        have brb := HTr.out.rb (HOK.out k hlt)
        generalize L.getD (k - 1) (0, 0) = a at *
        generalize L.getD k (0, 0) = b at *
        obtain ⟨pb, po, rfl, -, pc⟩ := HRp.out.at_ (k := 0) (by simp [rowG])
        have p0 : wr.cell? ⟨pb, po, none⟩ = some (.int .i64 a.1) := pc 0 (by simp [rowG])
        have p1 : wr.cell? ⟨pb, po + 1, none⟩ = some (.int .i64 a.2) := pc 1 (by simp [rowG])
        obtain ⟨qb, qo, rfl, -, qc⟩ := HRq.out.at_ (k := 0) (by simp [rowG])
        have q0 : wr.cell? ⟨qb, qo, none⟩ = some (.int .i64 b.1) := qc 0 (by simp [rowG])
        have q1 : wr.cell? ⟨qb, qo + 1, none⟩ = some (.int .i64 b.2) := qc 1 (by simp [rowG])
        clear pc qc
        obtain ⟨fb, fo, hAe, -, fc⟩ := HTQ.out.f.at_ ha1
        obtain ⟨rb, ro, hBe, -, rc⟩ := HTQ.out.r.at_ ha2
        have hcfa : wr.cell? ⟨fb, fo + a.1, none⟩ = some (.int .i64 (fI x a.1)) := fc a.1 ha1
        have hcfb : wr.cell? ⟨fb, fo + b.1, none⟩ = some (.int .i64 (fI x b.1)) := fc b.1 hb1
        have hcra : wr.cell? ⟨rb, ro + a.2, none⟩ = some (.int .i64 (rI x a.2)) := rc a.2 ha2
        have hcrb : wr.cell? ⟨rb, ro + b.2, none⟩ = some (.int .i64 (rI x b.2)) := rc b.2 hb2
        have hc0 : wr.cell? ⟨w.heap.size, 0, none⟩ = some (.slice (some ⟨fb, fo, none⟩) x.f.length c) := by rw [← hAe]; exact HXQ.out.at_ 0 _ rfl
        have hc1 : wr.cell? ⟨w.heap.size, 1, none⟩ = some (.slice (some ⟨rb, ro, none⟩) x.r.length d) := by rw [← hBe]; exact HXQ.out.at_ 1 _ rfl
        have hm1 := mul_bd (show 0 ≤ fI x a.1 by omega) afb.2 (show 0 ≤ rI x b.2 by omega) brb.2
        have hm2 := mul_bd (show 0 ≤ fI x b.1 by omega) bfb.2 (show 0 ≤ rI x a.2 by omega) arb.2
        have hm3 : 20 * 9 ≤ fI x a.1 * rI x b.2 := Int.mul_le_mul afb.1 brb.1 (by omega) (by omega)
        have HSG := Go.Lib.hid (show stepG x a b = 1000 * (fI x b.1 * rI x a.2 - fI x a.1 * rI x b.2) / (fI x a.1 * rI x b.2) from rfl)
        unfold leG at hup
        have ew1 : IntKind.i64.wrap (fI x a.1 * rI x b.2) = fI x a.1 * rI x b.2 := IntWalk.i64_in _ (by omega)
        have ew2 : IntKind.i64.wrap (fI x b.1 * rI x a.2) = fI x b.1 * rI x a.2 := IntWalk.i64_in _ (by omega)
        have ew3 : IntKind.i64.wrap (fI x b.1 * rI x a.2 - fI x a.1 * rI x b.2) = fI x b.1 * rI x a.2 - fI x a.1 * rI x b.2 := IntWalk.i64_in _ (by omega)
        have ew4 : IntKind.i64.wrap (1000 * (fI x b.1 * rI x a.2 - fI x a.1 * rI x b.2)) = 1000 * (fI x b.1 * rI x a.2 - fI x a.1 * rI x b.2) := IntWalk.i64_in _ (by omega)
        have ew5 : (1000 * (fI x b.1 * rI x a.2 - fI x a.1 * rI x b.2)).tdiv (fI x a.1 * rI x b.2) = stepG x a b := (Int.tdiv_eq_ediv_of_nonneg (by omega)).trans HSG.out.symm
        have hq0 : 0 ≤ stepG x a b := by rw [HSG.out]; exact Int.ediv_nonneg (by omega) (by omega)
        have hq1 : stepG x a b ≤ 1000 * (fI x b.1 * rI x a.2 - fI x a.1 * rI x b.2) := by rw [HSG.out]; exact Int.ediv_le_self _ (by omega)
        have ew6 : IntKind.i64.wrap (stepG x a b) = stepG x a b := IntWalk.i64_in _ (by omega)
        have hne : ¬ fI x a.1 * rI x b.2 = 0 := by omega
        have hne2 : (fI x a.1 * rI x b.2 == 0) = false := by simp only [beq_eq_false_iff_ne]; exact hne
        have hne3 : ¬ fI x a.1 = 0 := by omega
        have hne4 : ¬ rI x b.2 = 0 := by omega
        have i1 : (a.1 : Int) < x.f.length := by omega
        have i2 : (a.2 : Int) < x.r.length := by omega
        have i3 : (0 : Int) ≤ a.1 := by omega
        have i4 : (0 : Int) ≤ a.2 := by omega
        have i5 : (b.1 : Int) < x.f.length := by omega
        have i6 : (b.2 : Int) < x.r.length := by omega
        have i7 : (0 : Int) ≤ b.1 := by omega
        have i8 : (0 : Int) ≤ b.2 := by omega
        have hki : (k : Int) < L.length := by omega
        have hkj : (k : Int) < capl := by have := HLC.out; rw [HLE.out] at this; omega
        have ek1 : IntKind.i64.wrap ((k : Int) - 1) = ((k - 1 : Nat) : Int) := (IntWalk.i64_in _ (by omega)).trans (by omega)
        have hk2 : ((k - 1 : Nat) : Int) < L.length := by omega
        have hk3 : (0 : Int) ≤ ((k - 1 : Nat) : Int) := by omega
        have hk4 : (0 : Int) ≤ (k : Int) := by omega
        clear hm1 hm2 hm3 hup afb arb bfb brb hq0 hq1 fc rc hrow0 hlr0 hrow1 hlr1 hbq hAe hBe HXQ HTQ HRp HRq HSG ha1 ha2 hb1 hb2
        generalize fI x a.1 = fa at *
        generalize fI x b.1 = fbb at *
        generalize rI x a.2 = ra at *
        generalize rI x b.2 = rbb at *
        generalize stepG x a b = sg at *
        have HGQ := Go.Lib.hid (fun m n => (HGT.out.drewN m).drewN n)
        go_upto_region 8 with fail
        go_quiet (fail)
        go_wp2_with fail
        go_quiet (fail)
        generalize hWW : World.drewN (World.drewN _ _) _ = WW
        have HGW := Go.Lib.hid (show Gat w3 (stepsTo x L (k - 1)) u5 WW from hWW ▸ HGQ.out _ _)
        have hrow := HGW.out.row
        have HBS := Go.Lib.hid HGW.out.b.size
        rw [HSL.out] at hrow
        clear hWW HGQ hra hrb p0 p1 q0 q1 hcfa hcfb hcra hcrb hc0 hc1
        go_wp2_with (at_builtin; refine wpList_append_own_at _ rfl _ _ 24 rfl w3.heap.size 2 i0 (.int .i64 0) 1 8 Try.underlying24 hi hz0 hz1 hz2 rfl (by decide) _ _ _ rfl (hrow.alloc _) ⟨WW.heap.size, 0, none⟩ 1 1 [.int .i64 sg] rfl rfl (cell_one_new _ _ _) (by simp [Value.oneCell']) (by unfold maxLen; omega) (by omega) (by have := HBS.out; simp; omega) ?_; intro v' w5 hown' hgrow hnil hat; clear hnil hat)
        have HNZ := Go.Lib.hid (HGW.out.step (z := sg) (by rw [HSL.out]; exact hown') hgrow)
        clear hown' hgrow hrow
        go_wp2_with fail
        go_roundw
        case rel => exact ⟨k + 1, by omega, by omega, by go_num, by rw [Nat.add_sub_cancel, HSU.out]; exact HNZ.out⟩
        case measure => simp [intOf]; omega
end Go.Proofs.Ytifblmcocikopaa
