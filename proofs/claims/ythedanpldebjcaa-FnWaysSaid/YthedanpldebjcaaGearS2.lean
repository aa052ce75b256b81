/- The model: IsTrain, developments, ratios compared. -/
import Derived.Test.YthedanpldebjcaaGearS1
namespace Go.Proofs.Ythedanpldebjcaa
open Go.RowKit
section
end
set_option linter.unusedSimpArgs false
set_option linter.unusedVariables false

set_option maxRecDepth 100000 in
set_option maxHeartbeats 4000000 in
theorem specTrain (x : Trn) (A : Option Addr) (c : Nat) (B : Option Addr) (d : Nat) (w : World) (T : TrL x A c B d w) :
    Calls Try.prog 94 #[trainV x A c B d] w (IsV w (.bool (trainB x))) := by
  have HT := Go.Lib.hid T
  have HX := Go.Lib.hid (boxT_box x A c B d w)
  have HXB := Go.Lib.hid (boxT_below x A c B d w)
  clear T
  have H1 := Go.Lib.hid (fun w0 L0 => specTeeth A c x.f 3 20 60 w0 L0)
  have H2 := Go.Lib.hid (fun w0 L0 => specTeeth B d x.r 12 9 52 w0 L0)
  have H3 := Go.Lib.hid (fun w0 => inN2 x.n 1000 2500 w0)
  have HV := Go.Lib.hid (show trainB x = ((teethB 20 60 3 x.f && teethB 9 52 12 x.r) && inB x.n 1000 2500) from rfl)
  generalize teethB 20 60 3 x.f = tf at *
  generalize teethB 9 52 12 x.r = tr at *
  generalize inB x.n 1000 2500 = tn at *
  unfold trainV
  go_enter Try.func94, Try.ntmps94
  go_upto_region 1 with fail
  refine wp_gen (R := fun W => Box W w.heap.size (trainC x A c B d) ∧ Below w.heap.size w W) ⟨HX.out, HXB.out⟩ ?_
  rintro W ⟨hx, hb⟩
  have HX1 := Go.Lib.hid hx
  have HB1 := Go.Lib.hid hb
  have HT1 := Go.Lib.hid (HT.out.below hb)
  clear hx hb HX HXB
  have hc0 : W.cell? ⟨w.heap.size, 0, none⟩ = some (.slice A x.f.length c) := HX1.out.at_ 0 _ rfl
  cases tf
  case false =>
    go_wp2_with fail
    refine (H1.out _ HT1.out.f).mono ?_
    rintro _ w2 ⟨rfl, b2⟩
    have HX2 := Go.Lib.hid (HX1.out.below b2)
    have HB2 := Go.Lib.hid (upB HB1.out b2)
    have HT2 := Go.Lib.hid (HT1.out.below b2)
    clear b2
    go_wp2_with fail
    go_ret
    exact ⟨by rw [HV.out]; rfl, HB2.out⟩
  case true =>
    go_wp2_with fail
    refine (H1.out _ HT1.out.f).mono ?_
    rintro _ w2 ⟨rfl, b2⟩
    have HX2 := Go.Lib.hid (HX1.out.below b2)
    have HB2 := Go.Lib.hid (upB HB1.out b2)
    have HT2 := Go.Lib.hid (HT1.out.below b2)
    clear b2
    have hc1 : w2.cell? ⟨w.heap.size, 1, none⟩ = some (.slice B x.r.length d) := HX2.out.at_ 1 _ rfl
    clear hc0
    cases tr
    case false =>
      go_wp2_with fail
      refine (H2.out _ HT2.out.r).mono ?_
      rintro _ w3 ⟨rfl, b3⟩
      have HX3 := Go.Lib.hid (HX2.out.below b3)
      have HB3 := Go.Lib.hid (upB HB2.out b3)
      have HT3 := Go.Lib.hid (HT2.out.below b3)
      clear b3
      go_wp2_with fail
      go_ret
      exact ⟨by rw [HV.out]; rfl, HB3.out⟩
    case true =>
      go_wp2_with fail
      refine (H2.out _ HT2.out.r).mono ?_
      rintro _ w3 ⟨rfl, b3⟩
      have HX3 := Go.Lib.hid (HX2.out.below b3)
      have HB3 := Go.Lib.hid (upB HB2.out b3)
      have HT3 := Go.Lib.hid (HT2.out.below b3)
      clear b3
      have hc2 : w3.cell? ⟨w.heap.size, 2, none⟩ = some (.int .i64 x.n) := HX3.out.at_ 2 _ rfl
      clear hc1
      go_wp2_with fail
      refine (H3.out _).mono ?_
      rintro _ _ ⟨rfl, rfl⟩
      go_wp2_with fail
      go_ret
      exact ⟨by rw [HV.out]; rfl, HB3.out⟩
set_option maxRecDepth 100000 in
set_option maxHeartbeats 4000000 in
theorem specGear (x : Trn) (A : Option Addr) (c : Nat) (B : Option Addr) (d : Nat) (f r : Int) (w : World) (T : TrL x A c B d w) :
    Calls Try.prog 85 #[trainV x A c B d, .int .i64 f, .int .i64 r] w (IsV w (.bool (gearB x f r))) := by
  have hf := T.f.few
  have hr := T.r.few
  have HT := Go.Lib.hid T
  have HX := Go.Lib.hid (boxT_box x A c B d w)
  have HXB := Go.Lib.hid (boxT_below x A c B d w)
  clear T
  have H1 := Go.Lib.hid (fun w0 => inN2 f 0 ((x.f.length : Int) - 1) w0)
  have H2 := Go.Lib.hid (fun w0 => inN2 r 0 ((x.r.length : Int) - 1) w0)
  have HV := Go.Lib.hid (show gearB x f r = (inB f 0 ((x.f.length : Int) - 1) && inB r 0 ((x.r.length : Int) - 1)) from rfl)
  have e1 : IntKind.i64.wrap ((x.f.length : Int) - 1) = (x.f.length : Int) - 1 := IntWalk.i64_in _ (by omega)
  have e2 : IntKind.i64.wrap ((x.r.length : Int) - 1) = (x.r.length : Int) - 1 := IntWalk.i64_in _ (by omega)
  generalize inB f 0 ((x.f.length : Int) - 1) = tf at *
  generalize inB r 0 ((x.r.length : Int) - 1) = tr at *
  unfold trainV
  go_enter Try.func85, Try.ntmps85
  go_upto_region 1 with fail
  refine wp_gen (R := fun W => Box W w.heap.size (trainC x A c B d) ∧ Below w.heap.size w W) ⟨HX.out, HXB.out⟩ ?_
  rintro W ⟨hx, hb⟩
  have HX1 := Go.Lib.hid hx
  have HB1 := Go.Lib.hid hb
  have HT1 := Go.Lib.hid (HT.out.below hb)
  clear hx hb HX HXB
  have hc0 : W.cell? ⟨w.heap.size, 0, none⟩ = some (.slice A x.f.length c) := HX1.out.at_ 0 _ rfl
  have hc1 : W.cell? ⟨w.heap.size, 1, none⟩ = some (.slice B x.r.length d) := HX1.out.at_ 1 _ rfl
  cases tf
  case false =>
    go_wp2_with fail
    refine (H1.out _).mono ?_
    rintro _ _ ⟨rfl, rfl⟩
    go_wp2_with fail
    go_ret
    exact ⟨by rw [HV.out]; rfl, HB1.out⟩
  case true =>
    go_wp2_with fail
    refine (H1.out _).mono ?_
    rintro _ _ ⟨rfl, rfl⟩
    go_wp2_with fail
    refine (H2.out _).mono ?_
    rintro _ _ ⟨rfl, rfl⟩
    go_wp2_with fail
    go_ret
    exact ⟨by rw [HV.out]; rfl, HB1.out⟩
set_option maxRecDepth 100000 in
set_option maxHeartbeats 4000000 in
theorem specCode9 (x : Trn) (A : Option Addr) (c : Nat) (B : Option Addr) (d : Nat) (f r : Int) (w : World) (T : TrL x A c B d w) :
    Calls Try.prog 81 #[trainV x A c B d, .int .i64 f, .int .i64 r] w (IsV w (.int .i64 (code9 x f r))) := by
  have HT := Go.Lib.hid T
  have HX := Go.Lib.hid (boxT_box x A c B d w)
  have HXB := Go.Lib.hid (boxT_below x A c B d w)
  clear T
  have H1 := Go.Lib.hid (fun w0 T0 => specTrain x A c B d w0 T0)
  have H2 := Go.Lib.hid (fun w0 T0 => specGear x A c B d f r w0 T0)
  have HV := Go.Lib.hid (show code9 x f r = if trainB x then if gearB x f r then 0 else 2 else 1 from rfl)
  generalize trainB x = tb at *
  generalize gearB x f r = gb at *
  generalize code9 x f r = cd at *
  unfold trainV at *
  go_enter Try.func81, Try.ntmps81
  go_upto_region 1 with fail
  refine wp_gen (R := fun W => Box W w.heap.size (trainC x A c B d) ∧ Below w.heap.size w W) ⟨HX.out, HXB.out⟩ ?_
  rintro W ⟨hx, hb⟩
  have HX1 := Go.Lib.hid hx
  have HB1 := Go.Lib.hid hb
  have HT1 := Go.Lib.hid (HT.out.below hb)
  clear hx hb HX HXB
  have hc0 : W.cell? ⟨w.heap.size, 0, none⟩ = some (.slice A x.f.length c) := HX1.out.at_ 0 _ rfl
  have hc1 : W.cell? ⟨w.heap.size, 1, none⟩ = some (.slice B x.r.length d) := HX1.out.at_ 1 _ rfl
  have hc2 : W.cell? ⟨w.heap.size, 2, none⟩ = some (.int .i64 x.n) := HX1.out.at_ 2 _ rfl
  cases tb
  case false =>
    rw [if_neg (by simp)] at HV
    go_wp2_with fail
    refine (H1.out _ HT1.out).mono ?_
    rintro _ w2 ⟨rfl, b2⟩
    have HX2 := Go.Lib.hid (HX1.out.below b2)
    have HB2 := Go.Lib.hid (upB HB1.out b2)
    have HT2 := Go.Lib.hid (HT1.out.below b2)
    clear b2
    go_wp2_with fail
    go_ret
    exact ⟨by rw [HV.out]; rfl, HB2.out⟩
  case true =>
    rw [if_pos rfl] at HV
    go_wp2_with fail
    refine (H1.out _ HT1.out).mono ?_
    rintro _ w2 ⟨rfl, b2⟩
    have HX2 := Go.Lib.hid (HX1.out.below b2)
    have HB2 := Go.Lib.hid (upB HB1.out b2)
    have HT2 := Go.Lib.hid (HT1.out.below b2)
    clear b2
    clear hc0 hc1 hc2
    have hc0 : w2.cell? ⟨w.heap.size, 0, none⟩ = some (.slice A x.f.length c) := HX2.out.at_ 0 _ rfl
    have hc1 : w2.cell? ⟨w.heap.size, 1, none⟩ = some (.slice B x.r.length d) := HX2.out.at_ 1 _ rfl
    have hc2 : w2.cell? ⟨w.heap.size, 2, none⟩ = some (.int .i64 x.n) := HX2.out.at_ 2 _ rfl
    cases gb
    case false =>
      rw [if_neg (by simp)] at HV
      go_wp2_with fail
      refine (H2.out _ HT2.out).mono ?_
      rintro _ w3 ⟨rfl, b3⟩
      have HX3 := Go.Lib.hid (HX2.out.below b3)
      have HB3 := Go.Lib.hid (upB HB2.out b3)
      have HT3 := Go.Lib.hid (HT2.out.below b3)
      clear b3
      go_wp2_with fail
      go_ret
      exact ⟨by rw [HV.out]; rfl, HB3.out⟩
    case true =>
      rw [if_pos rfl] at HV
      go_wp2_with fail
      refine (H2.out _ HT2.out).mono ?_
      rintro _ w3 ⟨rfl, b3⟩
      have HX3 := Go.Lib.hid (HX2.out.below b3)
      have HB3 := Go.Lib.hid (upB HB2.out b3)
      have HT3 := Go.Lib.hid (HT2.out.below b3)
      clear b3
      go_wp2_with fail
      go_ret
      exact ⟨by rw [HV.out]; rfl, HB3.out⟩
/-- Ratios compared: -1, 0, 1. -/
def cmpI (x : Trn) (a b : Gr) : Int := if fI x a.1 * rI x b.2 < fI x b.1 * rI x a.2 then -1 else if fI x b.1 * rI x a.2 < fI x a.1 * rI x b.2 then 1 else 0
theorem cmpI_le (x : Trn) (a b : Gr) : cmpI x a b ≤ 0 ↔ leG x a b := by
  unfold cmpI leG
  split
  · exact ⟨fun _ => by omega, fun _ => by omega⟩
  · split
    · exact ⟨fun h => by omega, fun h => by omega⟩
    · exact ⟨fun _ => by omega, fun _ => by omega⟩
set_option maxRecDepth 100000 in
set_option maxHeartbeats 8000000 in
theorem specCmp (x : Trn) (A : Option Addr) (c : Nat) (B : Option Addr) (d : Nat) (a b : Gr) (D : Option Addr) (e : Nat) (E : Option Addr) (h : Nat) (w : World) (T : TrL x A c B d w) (hT : Train x) (ha : GOk x a) (hb : GOk x b) (R : Ls (rowG a) D e w) (R2 : Ls (rowG b) E h w) :
    Calls Try.prog 99 #[trainV x A c B d, .slice D 2 e, .slice E 2 h] w (IsV w (.int .i64 (cmpI x a b))) := by
  have afb := hT.fb ha
  have arb := hT.rb ha
  have bfb := hT.fb hb
  have brb := hT.rb hb
  obtain ⟨ha1, ha2⟩ := ha
  obtain ⟨hb1, hb2⟩ := hb
  have HRA := Go.Lib.hid R
  have HRB := Go.Lib.hid R2
  clear R R2
  have HT := Go.Lib.hid T
  have HX := Go.Lib.hid (boxT_box x A c B d w)
  have HXB := Go.Lib.hid (boxT_below x A c B d w)
  clear T
  have HV := Go.Lib.hid (show cmpI x a b = if fI x a.1 * rI x b.2 < fI x b.1 * rI x a.2 then -1 else if fI x b.1 * rI x a.2 < fI x a.1 * rI x b.2 then 1 else 0 from rfl)
  unfold trainV
  go_enter Try.func99, Try.ntmps99
  go_upto_region 1 with fail
  refine wp_gen (R := fun W => Box W w.heap.size (trainC x A c B d) ∧ Below w.heap.size w W) ⟨HX.out, HXB.out⟩ ?_
  rintro W ⟨hx, hb⟩
  have HX1 := Go.Lib.hid hx
  have HB1 := Go.Lib.hid hb
  have HT1 := Go.Lib.hid (HT.out.below hb)
  clear hx hb HX HXB
  have HRp := Go.Lib.hid (HRA.out.below HB1.out)
  have HRq := Go.Lib.hid (HRB.out.below HB1.out)
  have hc0 : W.cell? ⟨w.heap.size, 0, none⟩ = some (.slice A x.f.length c) := HX1.out.at_ 0 _ rfl
  have hc1 : W.cell? ⟨w.heap.size, 1, none⟩ = some (.slice B x.r.length d) := HX1.out.at_ 1 _ rfl
  obtain ⟨pb, po, rfl, -, pc⟩ := HRp.out.at_ (k := 0) (by simp [rowG])
  have p0 : W.cell? ⟨pb, po, none⟩ = some (.int .i64 a.1) := pc 0 (by simp [rowG])
  have p1 : W.cell? ⟨pb, po + 1, none⟩ = some (.int .i64 a.2) := pc 1 (by simp [rowG])
  clear pc
  obtain ⟨qb, qo, rfl, -, qc⟩ := HRq.out.at_ (k := 0) (by simp [rowG])
  have q0 : W.cell? ⟨qb, qo, none⟩ = some (.int .i64 b.1) := qc 0 (by simp [rowG])
  have q1 : W.cell? ⟨qb, qo + 1, none⟩ = some (.int .i64 b.2) := qc 1 (by simp [rowG])
  clear qc
  obtain ⟨fb, fo, rfl, -, fc⟩ := HT1.out.f.at_ ha1
  obtain ⟨rb, ro, rfl, -, rc⟩ := HT1.out.r.at_ ha2
  have hcfa : W.cell? ⟨fb, fo + a.1, none⟩ = some (.int .i64 (fI x a.1)) := fc a.1 ha1
  have hcfb : W.cell? ⟨fb, fo + b.1, none⟩ = some (.int .i64 (fI x b.1)) := fc b.1 hb1
  have hcra : W.cell? ⟨rb, ro + a.2, none⟩ = some (.int .i64 (rI x a.2)) := rc a.2 ha2
  have hcrb : W.cell? ⟨rb, ro + b.2, none⟩ = some (.int .i64 (rI x b.2)) := rc b.2 hb2
  clear fc rc HX1 HT1 HRA HRB HRp HRq
  have hm1 := mul_bd (show 0 ≤ fI x a.1 by omega) afb.2 (show 0 ≤ rI x b.2 by omega) brb.2
  have hm2 := mul_bd (show 0 ≤ fI x b.1 by omega) bfb.2 (show 0 ≤ rI x a.2 by omega) arb.2
  have ew1 : IntKind.i64.wrap (fI x a.1 * rI x b.2) = fI x a.1 * rI x b.2 := IntWalk.i64_in _ (by omega)
  have ew2 : IntKind.i64.wrap (fI x b.1 * rI x a.2) = fI x b.1 * rI x a.2 := IntWalk.i64_in _ (by omega)
  have i1 : (a.1 : Int) < x.f.length := by omega
  have i2 : (a.2 : Int) < x.r.length := by omega
  have i3 : (0 : Int) ≤ a.1 := by omega
  have i4 : (0 : Int) ≤ a.2 := by omega
  have i5 : (b.1 : Int) < x.f.length := by omega
  have i6 : (b.2 : Int) < x.r.length := by omega
  have i7 : (0 : Int) ≤ b.1 := by omega
  have i8 : (0 : Int) ≤ b.2 := by omega
  clear afb arb bfb brb hm1 hm2
  generalize fI x a.1 = fa at *
  generalize fI x b.1 = fbb at *
  generalize rI x a.2 = ra at *
  generalize rI x b.2 = rbb at *
  go_quiet (fail)
  generalize fa * rbb = p at *
  generalize fbb * ra = q at *
  by_cases hpq : p < q
  case pos =>
    have HV2 := Go.Lib.hid (show cmpI x a b = -1 by rw [HV.out, if_pos hpq])
    clear HV
    go_wp2_with fail
    go_ret
    exact ⟨by rw [HV2.out]; rfl, below_drewN HB1.out _⟩
  case neg =>
  by_cases hqp : q < p
  case pos =>
    have HV2 := Go.Lib.hid (show cmpI x a b = 1 by rw [HV.out, if_neg hpq, if_pos hqp])
    clear HV
    go_wp2_with fail
    go_ret
    exact ⟨by rw [HV2.out]; rfl, below_drewN HB1.out _⟩
  case neg =>
    have HV2 := Go.Lib.hid (show cmpI x a b = 0 by rw [HV.out, if_neg hpq, if_neg hqp])
    clear HV
    go_wp2_with fail
    go_ret
    exact ⟨by rw [HV2.out]; rfl, below_drewN HB1.out _⟩
theorem lit2_ls (w : World) (a b : Int) : Ls [a, b] (some ⟨w.heap.size, 0, none⟩) 2 (w.alloc (.cells #[.int .i64 a, .int .i64 b] 2)) := by
  have h : (w.alloc (.cells #[.int .i64 a, .int .i64 b] 2)).ownsRow w.heap.size 2 1 (.slice (some ⟨w.heap.size, 0, none⟩) 2 2) 2 (ints [a, b]) := World.ownsRow_lit w #[.int .i64 a, .int .i64 b] 2 (Nat.le_refl _) (by unfold maxLen; omega) rfl
  obtain ⟨A, cap, e, ho⟩ := row_ow h
  cases e
  exact ⟨ho.rd.here, Nat.le_refl _, by simp⟩
theorem gearB_ok {x : Trn} {f r : Int} (h : gearB x f r = true) : 0 ≤ f ∧ 0 ≤ r ∧ GOk x (f.toNat, r.toNat) := by
  unfold gearB at h
  simp only [Bool.and_eq_true, decide_eq_true_eq] at h
  unfold GOk
  refine ⟨h.1.1, h.2.1, ?_, ?_⟩
  · show f.toNat < _
    omega
  · show r.toNat < _
    omega
theorem row_nat {f r : Int} (hf : 0 ≤ f) (hr : 0 ≤ r) : rowG (f.toNat, r.toNat) = [f, r] := by
  unfold rowG
  simp [Int.toNat_of_nonneg hf, Int.toNat_of_nonneg hr]
end Go.Proofs.Ythedanpldebjcaa
