/- The model: crossed gears, moves. -/
import Derived.Test.YthedanpldebjcaaGearS2
import Derived.Test.YthedanpldebjcaaMgWays5
namespace Go.Proofs.Ythedanpldebjcaa
open Go.RowKit
set_option linter.unusedSimpArgs false
set_option linter.unusedVariables false

theorem tmod_two {l : Int} (h : 0 ≤ l) : l.tmod 2 = l % 2 := Int.tmod_eq_emod_of_nonneg h
/-- A call's answer: a bool and a number. -/
def GivesBI (p : Bool × Int) (w : World) (e : Ending) (w' : World) : Prop := e = .returned (.tuple #[.bool p.1, .int .i64 p.2]) ∧ Below w.heap.size w w'
set_option maxRecDepth 100000 in
set_option maxHeartbeats 4000000 in
theorem specCrossed (x : Trn) (A : Option Addr) (c : Nat) (B : Option Addr) (d : Nat) (lm f r : Int) (w : World) (T : TrL x A c B d w) (hl : 0 ≤ lm ∧ lm ≤ 4) :
    Calls Try.prog 71 #[trainV x A c B d, .int .i64 lm, .int .i64 f, .int .i64 r] w (IsV w (.bool (crossB x lm (f, r)))) := by
  have hf := T.f.few
  have hr := T.r.few
  have HT := Go.Lib.hid T
  have HX := Go.Lib.hid (boxT_box x A c B d w)
  have HXB := Go.Lib.hid (boxT_below x A c B d w)
  clear T
  obtain ⟨m, hm⟩ : ∃ m, (x.f.length : Int) = m := ⟨_, rfl⟩
  obtain ⟨n, hn⟩ : ∃ n, (x.r.length : Int) = n := ⟨_, rfl⟩
  have e1 : IntKind.i64.wrap ((x.f.length : Int) - 1) = (x.f.length : Int) - 1 := IntWalk.i64_in _ (by omega)
  have e2 : IntKind.i64.wrap ((x.r.length : Int) - lm) = (x.r.length : Int) - lm := IntWalk.i64_in _ (by omega)
  have HV := Go.Lib.hid (show crossB x lm (f, r) = (decide (1 < (x.f.length : Int)) && ((decide (f = (x.f.length : Int) - 1) && decide ((x.r.length : Int) - lm ≤ r)) || (decide (f = 0) && decide (r < lm)))) from rfl)
  clear hl hm hn
  by_cases a1 : 1 < (x.f.length : Int)
  case pos =>
    by_cases a2 : f = (x.f.length : Int) - 1
    case pos =>
      by_cases a3 : (x.r.length : Int) - lm ≤ r
      case pos =>
        rw [decide_eq_true a1, decide_eq_true a2, decide_eq_true a3] at HV
        have a2b : (f == (x.f.length : Int) - 1) = true := by simpa using a2
        clear a2
        unfold trainV at *
        go_enter Try.func71, Try.ntmps71
        go_upto_region 1 with fail
        refine wp_gen (R := fun W => Box W w.heap.size (trainC x A c B d) ∧ Below w.heap.size w W) ⟨HX.out, HXB.out⟩ ?_
        rintro W ⟨hx, hb⟩
        have HX1 := Go.Lib.hid hx
        have HB1 := Go.Lib.hid hb
        have HT1 := Go.Lib.hid (HT.out.below hb)
        clear hx hb HX HXB
        have hc0 : W.cell? ⟨w.heap.size, 0, none⟩ = some (.slice A x.f.length c) := HX1.out.at_ 0 _ rfl
        have hc1 : W.cell? ⟨w.heap.size, 1, none⟩ = some (.slice B x.r.length d) := HX1.out.at_ 1 _ rfl
        have hc2 : W.cell? ⟨w.heap.size, 2, none⟩ = some (.int .i64 x.n) := HX1.out.at_ 2 _ rfl
        have HBE := Go.Lib.hid (fun m => below_drewN HB1.out m)
        go_quiet (fail)
        go_wp2_with fail
        go_ret
        exact ⟨by rw [HV.out]; rfl, HBE.out _⟩
      case neg =>
        by_cases a4 : f = 0
        case pos =>
          by_cases a5 : r < lm
          case pos =>
            rw [decide_eq_true a1, decide_eq_true a2, decide_eq_false a3, decide_eq_true a4, decide_eq_true a5] at HV
            have a2b : (f == (x.f.length : Int) - 1) = true := by simpa using a2
            clear a2
            have a3f : ((x.r.length : Int) - lm ≤ r) = False := eq_false a3
            have a4b : (f == 0) = true := by simpa using a4
            clear a4
            unfold trainV at *
            go_enter Try.func71, Try.ntmps71
            go_upto_region 1 with fail
            refine wp_gen (R := fun W => Box W w.heap.size (trainC x A c B d) ∧ Below w.heap.size w W) ⟨HX.out, HXB.out⟩ ?_
            rintro W ⟨hx, hb⟩
            have HX1 := Go.Lib.hid hx
            have HB1 := Go.Lib.hid hb
            have HT1 := Go.Lib.hid (HT.out.below hb)
            clear hx hb HX HXB
            have hc0 : W.cell? ⟨w.heap.size, 0, none⟩ = some (.slice A x.f.length c) := HX1.out.at_ 0 _ rfl
            have hc1 : W.cell? ⟨w.heap.size, 1, none⟩ = some (.slice B x.r.length d) := HX1.out.at_ 1 _ rfl
            have hc2 : W.cell? ⟨w.heap.size, 2, none⟩ = some (.int .i64 x.n) := HX1.out.at_ 2 _ rfl
            have HBE := Go.Lib.hid (fun m => below_drewN HB1.out m)
            go_quiet (fail)
            go_wp2_with fail
            go_ret
            exact ⟨by rw [HV.out]; rfl, HBE.out _⟩
          case neg =>
            rw [decide_eq_true a1, decide_eq_true a2, decide_eq_false a3, decide_eq_true a4, decide_eq_false a5] at HV
            have a2b : (f == (x.f.length : Int) - 1) = true := by simpa using a2
            clear a2
            have a3f : ((x.r.length : Int) - lm ≤ r) = False := eq_false a3
            have a4b : (f == 0) = true := by simpa using a4
            clear a4
            have a5f : (r < lm) = False := eq_false a5
            unfold trainV at *
            go_enter Try.func71, Try.ntmps71
            go_upto_region 1 with fail
            refine wp_gen (R := fun W => Box W w.heap.size (trainC x A c B d) ∧ Below w.heap.size w W) ⟨HX.out, HXB.out⟩ ?_
            rintro W ⟨hx, hb⟩
            have HX1 := Go.Lib.hid hx
            have HB1 := Go.Lib.hid hb
            have HT1 := Go.Lib.hid (HT.out.below hb)
            clear hx hb HX HXB
            have hc0 : W.cell? ⟨w.heap.size, 0, none⟩ = some (.slice A x.f.length c) := HX1.out.at_ 0 _ rfl
            have hc1 : W.cell? ⟨w.heap.size, 1, none⟩ = some (.slice B x.r.length d) := HX1.out.at_ 1 _ rfl
            have hc2 : W.cell? ⟨w.heap.size, 2, none⟩ = some (.int .i64 x.n) := HX1.out.at_ 2 _ rfl
            have HBE := Go.Lib.hid (fun m => below_drewN HB1.out m)
            go_quiet (fail)
            go_wp2_with fail
            go_ret
            exact ⟨by rw [HV.out]; rfl, HBE.out _⟩
        case neg =>
          rw [decide_eq_true a1, decide_eq_true a2, decide_eq_false a3, decide_eq_false a4] at HV
          have a2b : (f == (x.f.length : Int) - 1) = true := by simpa using a2
          clear a2
          have a3f : ((x.r.length : Int) - lm ≤ r) = False := eq_false a3
          have a4b : (f == 0) = false := by simpa using a4
          clear a4
          unfold trainV at *
          go_enter Try.func71, Try.ntmps71
          go_upto_region 1 with fail
          refine wp_gen (R := fun W => Box W w.heap.size (trainC x A c B d) ∧ Below w.heap.size w W) ⟨HX.out, HXB.out⟩ ?_
          rintro W ⟨hx, hb⟩
          have HX1 := Go.Lib.hid hx
          have HB1 := Go.Lib.hid hb
          have HT1 := Go.Lib.hid (HT.out.below hb)
          clear hx hb HX HXB
          have hc0 : W.cell? ⟨w.heap.size, 0, none⟩ = some (.slice A x.f.length c) := HX1.out.at_ 0 _ rfl
          have hc1 : W.cell? ⟨w.heap.size, 1, none⟩ = some (.slice B x.r.length d) := HX1.out.at_ 1 _ rfl
          have hc2 : W.cell? ⟨w.heap.size, 2, none⟩ = some (.int .i64 x.n) := HX1.out.at_ 2 _ rfl
          have HBE := Go.Lib.hid (fun m => below_drewN HB1.out m)
          go_quiet (fail)
          go_wp2_with fail
          go_ret
          exact ⟨by rw [HV.out]; rfl, HBE.out _⟩
    case neg =>
      by_cases a4 : f = 0
      case pos =>
        by_cases a5 : r < lm
        case pos =>
          rw [decide_eq_true a1, decide_eq_false a2, decide_eq_true a4, decide_eq_true a5] at HV
          have a2b : (f == (x.f.length : Int) - 1) = false := by simpa using a2
          clear a2
          have a4b : (f == 0) = true := by simpa using a4
          clear a4
          unfold trainV at *
          go_enter Try.func71, Try.ntmps71
          go_upto_region 1 with fail
          refine wp_gen (R := fun W => Box W w.heap.size (trainC x A c B d) ∧ Below w.heap.size w W) ⟨HX.out, HXB.out⟩ ?_
          rintro W ⟨hx, hb⟩
          have HX1 := Go.Lib.hid hx
          have HB1 := Go.Lib.hid hb
          have HT1 := Go.Lib.hid (HT.out.below hb)
          clear hx hb HX HXB
          have hc0 : W.cell? ⟨w.heap.size, 0, none⟩ = some (.slice A x.f.length c) := HX1.out.at_ 0 _ rfl
          have hc1 : W.cell? ⟨w.heap.size, 1, none⟩ = some (.slice B x.r.length d) := HX1.out.at_ 1 _ rfl
          have hc2 : W.cell? ⟨w.heap.size, 2, none⟩ = some (.int .i64 x.n) := HX1.out.at_ 2 _ rfl
          have HBE := Go.Lib.hid (fun m => below_drewN HB1.out m)
          go_quiet (fail)
          go_wp2_with fail
          go_ret
          exact ⟨by rw [HV.out]; rfl, HBE.out _⟩
        case neg =>
          rw [decide_eq_true a1, decide_eq_false a2, decide_eq_true a4, decide_eq_false a5] at HV
          have a2b : (f == (x.f.length : Int) - 1) = false := by simpa using a2
          clear a2
          have a4b : (f == 0) = true := by simpa using a4
          clear a4
          have a5f : (r < lm) = False := eq_false a5
          unfold trainV at *
          go_enter Try.func71, Try.ntmps71
          go_upto_region 1 with fail
          refine wp_gen (R := fun W => Box W w.heap.size (trainC x A c B d) ∧ Below w.heap.size w W) ⟨HX.out, HXB.out⟩ ?_
          rintro W ⟨hx, hb⟩
          have HX1 := Go.Lib.hid hx
          have HB1 := Go.Lib.hid hb
          have HT1 := Go.Lib.hid (HT.out.below hb)
          clear hx hb HX HXB
          have hc0 : W.cell? ⟨w.heap.size, 0, none⟩ = some (.slice A x.f.length c) := HX1.out.at_ 0 _ rfl
          have hc1 : W.cell? ⟨w.heap.size, 1, none⟩ = some (.slice B x.r.length d) := HX1.out.at_ 1 _ rfl
          have hc2 : W.cell? ⟨w.heap.size, 2, none⟩ = some (.int .i64 x.n) := HX1.out.at_ 2 _ rfl
          have HBE := Go.Lib.hid (fun m => below_drewN HB1.out m)
          go_quiet (fail)
          go_wp2_with fail
          go_ret
          exact ⟨by rw [HV.out]; rfl, HBE.out _⟩
      case neg =>
        rw [decide_eq_true a1, decide_eq_false a2, decide_eq_false a4] at HV
        have a2b : (f == (x.f.length : Int) - 1) = false := by simpa using a2
        clear a2
        have a4b : (f == 0) = false := by simpa using a4
        clear a4
        unfold trainV at *
        go_enter Try.func71, Try.ntmps71
        go_upto_region 1 with fail
        refine wp_gen (R := fun W => Box W w.heap.size (trainC x A c B d) ∧ Below w.heap.size w W) ⟨HX.out, HXB.out⟩ ?_
        rintro W ⟨hx, hb⟩
        have HX1 := Go.Lib.hid hx
        have HB1 := Go.Lib.hid hb
        have HT1 := Go.Lib.hid (HT.out.below hb)
        clear hx hb HX HXB
        have hc0 : W.cell? ⟨w.heap.size, 0, none⟩ = some (.slice A x.f.length c) := HX1.out.at_ 0 _ rfl
        have hc1 : W.cell? ⟨w.heap.size, 1, none⟩ = some (.slice B x.r.length d) := HX1.out.at_ 1 _ rfl
        have hc2 : W.cell? ⟨w.heap.size, 2, none⟩ = some (.int .i64 x.n) := HX1.out.at_ 2 _ rfl
        have HBE := Go.Lib.hid (fun m => below_drewN HB1.out m)
        go_quiet (fail)
        go_wp2_with fail
        go_ret
        exact ⟨by rw [HV.out]; rfl, HBE.out _⟩
  case neg =>
    rw [decide_eq_false a1] at HV
    have a1f : (1 < (x.f.length : Int)) = False := eq_false a1
    unfold trainV at *
    go_enter Try.func71, Try.ntmps71
    go_upto_region 1 with fail
    refine wp_gen (R := fun W => Box W w.heap.size (trainC x A c B d) ∧ Below w.heap.size w W) ⟨HX.out, HXB.out⟩ ?_
    rintro W ⟨hx, hb⟩
    have HX1 := Go.Lib.hid hx
    have HB1 := Go.Lib.hid hb
    have HT1 := Go.Lib.hid (HT.out.below hb)
    clear hx hb HX HXB
    have hc0 : W.cell? ⟨w.heap.size, 0, none⟩ = some (.slice A x.f.length c) := HX1.out.at_ 0 _ rfl
    have hc1 : W.cell? ⟨w.heap.size, 1, none⟩ = some (.slice B x.r.length d) := HX1.out.at_ 1 _ rfl
    have hc2 : W.cell? ⟨w.heap.size, 2, none⟩ = some (.int .i64 x.n) := HX1.out.at_ 2 _ rfl
    have HBE := Go.Lib.hid (fun m => below_drewN HB1.out m)
    go_quiet (fail)
    go_wp2_with fail
    go_ret
    exact ⟨by rw [HV.out]; rfl, HBE.out _⟩
set_option maxRecDepth 100000 in
set_option maxHeartbeats 4000000 in
theorem specCode11 (x : Trn) (A : Option Addr) (c : Nat) (B : Option Addr) (d : Nat) (lm f r : Int) (w : World) (T : TrL x A c B d w) :
    Calls Try.prog 57 #[trainV x A c B d, .int .i64 lm, .int .i64 f, .int .i64 r] w (IsV w (.int .i64 (code11 x lm f r))) := by
  have HT := Go.Lib.hid T
  have HX := Go.Lib.hid (boxT_box x A c B d w)
  have HXB := Go.Lib.hid (boxT_below x A c B d w)
  clear T
  have H1 := Go.Lib.hid (fun w0 T0 => specCode9 x A c B d f r w0 T0)
  have H2 := Go.Lib.hid (fun w0 => inN2 lm 0 4 w0)
  have HV := Go.Lib.hid (show code11 x lm f r = if code9 x f r = 0 then if inB lm 0 4 then 0 else 2 else code9 x f r from rfl)
  generalize code9 x f r = cd at *
  generalize inB lm 0 4 = b at *
  by_cases h0 : cd = 0
  case neg =>
    rw [if_neg h0] at HV
    unfold trainV at *
    go_enter Try.func57, Try.ntmps57
    go_upto_region 1 with fail
    refine wp_gen (R := fun W => Box W w.heap.size (trainC x A c B d) ∧ Below w.heap.size w W) ⟨HX.out, HXB.out⟩ ?_
    rintro W ⟨hx, hb⟩
    have HX1 := Go.Lib.hid hx
    have HB1 := Go.Lib.hid hb
    have HT1 := Go.Lib.hid (HT.out.below hb)
    clear hx hb HX HXB
    have hc0 : W.cell? ⟨w.heap.size, 0, none⟩ = some (.slice A x.f.length c) := HX1.out.at_ 0 _ rfl
    have hc1 : W.cell? ⟨w.heap.size, 1, none⟩ = some (.slice B x.r.length d) := HX1.out.at_ 1 _ rfl
    have hc2 : W.cell? ⟨w.heap.size, 2, none⟩ = some (.int .i64 x.n) := HX1.out.at_ 2 _ rfl
    go_wp2_with fail
    refine (H1.out _ HT1.out).mono ?_
    rintro _ w2 ⟨rfl, b2⟩
    have HX2 := Go.Lib.hid (HX1.out.below b2)
    have HB2 := Go.Lib.hid (upB HB1.out b2)
    have HT2 := Go.Lib.hid (HT1.out.below b2)
    clear b2
    go_wp2_with fail
    go_ret
    exact ⟨by rw [HV.out]; rfl, HB2.out⟩
  case pos =>
    subst h0
    rw [if_pos rfl] at HV
    cases b
    case false =>
      unfold trainV at *
      go_enter Try.func57, Try.ntmps57
      go_upto_region 1 with fail
      refine wp_gen (R := fun W => Box W w.heap.size (trainC x A c B d) ∧ Below w.heap.size w W) ⟨HX.out, HXB.out⟩ ?_
      rintro W ⟨hx, hb⟩
      have HX1 := Go.Lib.hid hx
      have HB1 := Go.Lib.hid hb
      have HT1 := Go.Lib.hid (HT.out.below hb)
      clear hx hb HX HXB
      have hc0 : W.cell? ⟨w.heap.size, 0, none⟩ = some (.slice A x.f.length c) := HX1.out.at_ 0 _ rfl
      have hc1 : W.cell? ⟨w.heap.size, 1, none⟩ = some (.slice B x.r.length d) := HX1.out.at_ 1 _ rfl
      have hc2 : W.cell? ⟨w.heap.size, 2, none⟩ = some (.int .i64 x.n) := HX1.out.at_ 2 _ rfl
      go_wp2_with fail
      refine (H1.out _ HT1.out).mono ?_
      rintro _ w2 ⟨rfl, b2⟩
      have HX2 := Go.Lib.hid (HX1.out.below b2)
      have HB2 := Go.Lib.hid (upB HB1.out b2)
      have HT2 := Go.Lib.hid (HT1.out.below b2)
      clear b2
      go_wp2_with fail
      refine (H2.out _).mono ?_
      rintro _ _ ⟨rfl, rfl⟩
      go_wp2_with fail
      go_ret
      exact ⟨by rw [HV.out]; rfl, HB2.out⟩
    case true =>
      unfold trainV at *
      go_enter Try.func57, Try.ntmps57
      go_upto_region 1 with fail
      refine wp_gen (R := fun W => Box W w.heap.size (trainC x A c B d) ∧ Below w.heap.size w W) ⟨HX.out, HXB.out⟩ ?_
      rintro W ⟨hx, hb⟩
      have HX1 := Go.Lib.hid hx
      have HB1 := Go.Lib.hid hb
      have HT1 := Go.Lib.hid (HT.out.below hb)
      clear hx hb HX HXB
      have hc0 : W.cell? ⟨w.heap.size, 0, none⟩ = some (.slice A x.f.length c) := HX1.out.at_ 0 _ rfl
      have hc1 : W.cell? ⟨w.heap.size, 1, none⟩ = some (.slice B x.r.length d) := HX1.out.at_ 1 _ rfl
      have hc2 : W.cell? ⟨w.heap.size, 2, none⟩ = some (.int .i64 x.n) := HX1.out.at_ 2 _ rfl
      go_wp2_with fail
      refine (H1.out _ HT1.out).mono ?_
      rintro _ w2 ⟨rfl, b2⟩
      have HX2 := Go.Lib.hid (HX1.out.below b2)
      have HB2 := Go.Lib.hid (upB HB1.out b2)
      have HT2 := Go.Lib.hid (HT1.out.below b2)
      clear b2
      go_wp2_with fail
      refine (H2.out _).mono ?_
      rintro _ _ ⟨rfl, rfl⟩
      go_wp2_with fail
      go_ret
      exact ⟨by rw [HV.out]; rfl, HB2.out⟩
theorem code11_lm {x : Trn} {lm f r : Int} (h : code11 x lm f r = 0) : 0 ≤ lm ∧ lm ≤ 4 := inB_iff.1 (code11_ok h).2.2
set_option maxRecDepth 100000 in
set_option maxHeartbeats 4000000 in
theorem specStart11 (x : Trn) (A : Option Addr) (c : Nat) (B : Option Addr) (d : Nat) (lm f r : Int) (w : World) (T : TrL x A c B d w) :
    Calls Try.prog 58 #[trainV x A c B d, .int .i64 lm, .int .i64 f, .int .i64 r] w (IsV w (.int .i64 (start11 x lm f r))) := by
  have HT := Go.Lib.hid T
  have HX := Go.Lib.hid (boxT_box x A c B d w)
  have HXB := Go.Lib.hid (boxT_below x A c B d w)
  clear T
  have H1 := Go.Lib.hid (fun w0 T0 => specCode11 x A c B d lm f r w0 T0)
  have HL := Go.Lib.hid (fun h => code11_lm (x := x) (lm := lm) (f := f) (r := r) h)
  have HV := Go.Lib.hid (show start11 x lm f r = if code11 x lm f r = 0 then if crossB x lm (f, r) then 5 else 0 else code11 x lm f r from rfl)
  generalize code11 x lm f r = cd at *
  by_cases h0 : cd = 0
  case neg =>
    rw [if_neg h0] at HV
    unfold trainV at *
    go_enter Try.func58, Try.ntmps58
    go_upto_region 1 with fail
    refine wp_gen (R := fun W => Box W w.heap.size (trainC x A c B d) ∧ Below w.heap.size w W) ⟨HX.out, HXB.out⟩ ?_
    rintro W ⟨hx, hb⟩
    have HX1 := Go.Lib.hid hx
    have HB1 := Go.Lib.hid hb
    have HT1 := Go.Lib.hid (HT.out.below hb)
    clear hx hb HX HXB
    have hc0 : W.cell? ⟨w.heap.size, 0, none⟩ = some (.slice A x.f.length c) := HX1.out.at_ 0 _ rfl
    have hc1 : W.cell? ⟨w.heap.size, 1, none⟩ = some (.slice B x.r.length d) := HX1.out.at_ 1 _ rfl
    have hc2 : W.cell? ⟨w.heap.size, 2, none⟩ = some (.int .i64 x.n) := HX1.out.at_ 2 _ rfl
    go_wp2_with fail
    refine (H1.out _ HT1.out).mono ?_
    rintro _ w2 ⟨rfl, b2⟩
    have HX2 := Go.Lib.hid (HX1.out.below b2)
    have HB2 := Go.Lib.hid (upB HB1.out b2)
    have HT2 := Go.Lib.hid (HT1.out.below b2)
    clear b2
    go_wp2_with fail
    go_ret
    exact ⟨by rw [HV.out]; rfl, HB2.out⟩
  case pos =>
    have H2 := Go.Lib.hid (fun w0 T0 => specCrossed x A c B d lm f r w0 T0 (HL.out h0))
    subst h0
    rw [if_pos rfl] at HV
    generalize crossB x lm (f, r) = b at *
    cases b
    case false =>
      unfold trainV at *
      go_enter Try.func58, Try.ntmps58
      go_upto_region 1 with fail
      refine wp_gen (R := fun W => Box W w.heap.size (trainC x A c B d) ∧ Below w.heap.size w W) ⟨HX.out, HXB.out⟩ ?_
      rintro W ⟨hx, hb⟩
      have HX1 := Go.Lib.hid hx
      have HB1 := Go.Lib.hid hb
      have HT1 := Go.Lib.hid (HT.out.below hb)
      clear hx hb HX HXB
      have hc0 : W.cell? ⟨w.heap.size, 0, none⟩ = some (.slice A x.f.length c) := HX1.out.at_ 0 _ rfl
      have hc1 : W.cell? ⟨w.heap.size, 1, none⟩ = some (.slice B x.r.length d) := HX1.out.at_ 1 _ rfl
      have hc2 : W.cell? ⟨w.heap.size, 2, none⟩ = some (.int .i64 x.n) := HX1.out.at_ 2 _ rfl
      go_wp2_with fail
      refine (H1.out _ HT1.out).mono ?_
      rintro _ w2 ⟨rfl, b2⟩
      have HX2 := Go.Lib.hid (HX1.out.below b2)
      have HB2 := Go.Lib.hid (upB HB1.out b2)
      have HT2 := Go.Lib.hid (HT1.out.below b2)
      clear b2
      clear hc0 hc1 hc2
      have hc0 : w2.cell? ⟨w.heap.size, 0, none⟩ = some (.slice A x.f.length c) := HX2.out.at_ 0 _ rfl
      have hc1 : w2.cell? ⟨w.heap.size, 1, none⟩ = some (.slice B x.r.length d) := HX2.out.at_ 1 _ rfl
      have hc2 : w2.cell? ⟨w.heap.size, 2, none⟩ = some (.int .i64 x.n) := HX2.out.at_ 2 _ rfl
      go_wp2_with fail
      refine (H2.out _ HT2.out).mono ?_
      rintro _ w3 ⟨rfl, b3⟩
      have HX3 := Go.Lib.hid (HX2.out.below b3)
      have HB3 := Go.Lib.hid (upB HB2.out b3)
      have HT3 := Go.Lib.hid (HT2.out.below b3)
      clear b3
      go_wp2_with fail
      go_ret
      exact ⟨by rw [HV.out]; rfl, HB3.out⟩
    case true =>
      unfold trainV at *
      go_enter Try.func58, Try.ntmps58
      go_upto_region 1 with fail
      refine wp_gen (R := fun W => Box W w.heap.size (trainC x A c B d) ∧ Below w.heap.size w W) ⟨HX.out, HXB.out⟩ ?_
      rintro W ⟨hx, hb⟩
      have HX1 := Go.Lib.hid hx
      have HB1 := Go.Lib.hid hb
      have HT1 := Go.Lib.hid (HT.out.below hb)
      clear hx hb HX HXB
      have hc0 : W.cell? ⟨w.heap.size, 0, none⟩ = some (.slice A x.f.length c) := HX1.out.at_ 0 _ rfl
      have hc1 : W.cell? ⟨w.heap.size, 1, none⟩ = some (.slice B x.r.length d) := HX1.out.at_ 1 _ rfl
      have hc2 : W.cell? ⟨w.heap.size, 2, none⟩ = some (.int .i64 x.n) := HX1.out.at_ 2 _ rfl
      go_wp2_with fail
      refine (H1.out _ HT1.out).mono ?_
      rintro _ w2 ⟨rfl, b2⟩
      have HX2 := Go.Lib.hid (HX1.out.below b2)
      have HB2 := Go.Lib.hid (upB HB1.out b2)
      have HT2 := Go.Lib.hid (HT1.out.below b2)
      clear b2
      clear hc0 hc1 hc2
      have hc0 : w2.cell? ⟨w.heap.size, 0, none⟩ = some (.slice A x.f.length c) := HX2.out.at_ 0 _ rfl
      have hc1 : w2.cell? ⟨w.heap.size, 1, none⟩ = some (.slice B x.r.length d) := HX2.out.at_ 1 _ rfl
      have hc2 : w2.cell? ⟨w.heap.size, 2, none⟩ = some (.int .i64 x.n) := HX2.out.at_ 2 _ rfl
      go_wp2_with fail
      refine (H2.out _ HT2.out).mono ?_
      rintro _ w3 ⟨rfl, b3⟩
      have HX3 := Go.Lib.hid (HX2.out.below b3)
      have HB3 := Go.Lib.hid (upB HB2.out b3)
      have HT3 := Go.Lib.hid (HT2.out.below b3)
      clear b3
      go_wp2_with fail
      go_ret
      exact ⟨by rw [HV.out]; rfl, HB3.out⟩
set_option maxRecDepth 100000 in
set_option maxHeartbeats 4000000 in
theorem specCross (x : Trn) (A : Option Addr) (c : Nat) (B : Option Addr) (d : Nat) (lm f r : Int) (w : World) (T : TrL x A c B d w) :
    Calls Try.prog 30 #[trainV x A c B d, .int .i64 lm, .int .i64 f, .int .i64 r] w (GivesBI (crossR x lm f r) w) := by
  have HT := Go.Lib.hid T
  have HX := Go.Lib.hid (boxT_box x A c B d w)
  have HXB := Go.Lib.hid (boxT_below x A c B d w)
  clear T
  have H1 := Go.Lib.hid (fun w0 T0 => specCode11 x A c B d lm f r w0 T0)
  have HL := Go.Lib.hid (fun h => code11_lm (x := x) (lm := lm) (f := f) (r := r) h)
  have HV := Go.Lib.hid (show crossR x lm f r = if code11 x lm f r = 0 then (crossB x lm (f, r), 0) else (false, code11 x lm f r) from rfl)
  generalize code11 x lm f r = cd at *
  by_cases h0 : cd = 0
  case neg =>
    rw [if_neg h0] at HV
    unfold trainV at *
    go_enter Try.func30, Try.ntmps30
    go_upto_region 1 with fail
    refine wp_gen (R := fun W => Box W w.heap.size (trainC x A c B d) ∧ Below w.heap.size w W) ⟨HX.out, HXB.out⟩ ?_
    rintro W ⟨hx, hb⟩
    have HX1 := Go.Lib.hid hx
    have HB1 := Go.Lib.hid hb
    have HT1 := Go.Lib.hid (HT.out.below hb)
    clear hx hb HX HXB
    have hc0 : W.cell? ⟨w.heap.size, 0, none⟩ = some (.slice A x.f.length c) := HX1.out.at_ 0 _ rfl
    have hc1 : W.cell? ⟨w.heap.size, 1, none⟩ = some (.slice B x.r.length d) := HX1.out.at_ 1 _ rfl
    have hc2 : W.cell? ⟨w.heap.size, 2, none⟩ = some (.int .i64 x.n) := HX1.out.at_ 2 _ rfl
    go_wp2_with fail
    refine (H1.out _ HT1.out).mono ?_
    rintro _ w2 ⟨rfl, b2⟩
    have HX2 := Go.Lib.hid (HX1.out.below b2)
    have HB2 := Go.Lib.hid (upB HB1.out b2)
    have HT2 := Go.Lib.hid (HT1.out.below b2)
    clear b2
    go_wp2_with fail
    go_ret2
    exact ⟨by rw [HV.out]; rfl, HB2.out⟩
  case pos =>
    have H2 := Go.Lib.hid (fun w0 T0 => specCrossed x A c B d lm f r w0 T0 (HL.out h0))
    subst h0
    rw [if_pos rfl] at HV
    generalize crossB x lm (f, r) = b at *
    unfold trainV at *
    go_enter Try.func30, Try.ntmps30
    go_upto_region 1 with fail
    refine wp_gen (R := fun W => Box W w.heap.size (trainC x A c B d) ∧ Below w.heap.size w W) ⟨HX.out, HXB.out⟩ ?_
    rintro W ⟨hx, hb⟩
    have HX1 := Go.Lib.hid hx
    have HB1 := Go.Lib.hid hb
    have HT1 := Go.Lib.hid (HT.out.below hb)
    clear hx hb HX HXB
    have hc0 : W.cell? ⟨w.heap.size, 0, none⟩ = some (.slice A x.f.length c) := HX1.out.at_ 0 _ rfl
    have hc1 : W.cell? ⟨w.heap.size, 1, none⟩ = some (.slice B x.r.length d) := HX1.out.at_ 1 _ rfl
    have hc2 : W.cell? ⟨w.heap.size, 2, none⟩ = some (.int .i64 x.n) := HX1.out.at_ 2 _ rfl
    go_wp2_with fail
    refine (H1.out _ HT1.out).mono ?_
    rintro _ w2 ⟨rfl, b2⟩
    have HX2 := Go.Lib.hid (HX1.out.below b2)
    have HB2 := Go.Lib.hid (upB HB1.out b2)
    have HT2 := Go.Lib.hid (HT1.out.below b2)
    clear b2
    clear hc0 hc1 hc2
    have hc0 : w2.cell? ⟨w.heap.size, 0, none⟩ = some (.slice A x.f.length c) := HX2.out.at_ 0 _ rfl
    have hc1 : w2.cell? ⟨w.heap.size, 1, none⟩ = some (.slice B x.r.length d) := HX2.out.at_ 1 _ rfl
    have hc2 : w2.cell? ⟨w.heap.size, 2, none⟩ = some (.int .i64 x.n) := HX2.out.at_ 2 _ rfl
    go_wp2_with fail
    refine (H2.out _ HT2.out).mono ?_
    rintro _ w3 ⟨rfl, b3⟩
    have HX3 := Go.Lib.hid (HX2.out.below b3)
    have HB3 := Go.Lib.hid (upB HB2.out b3)
    have HT3 := Go.Lib.hid (HT2.out.below b3)
    clear b3
    go_wp2_with fail
    go_ret2
    exact ⟨by rw [HV.out]; rfl, HB3.out⟩
set_option maxRecDepth 100000 in
set_option maxHeartbeats 4000000 in
theorem specMove (x : Trn) (A : Option Addr) (c : Nat) (B : Option Addr) (d : Nat) (lm f r m : Int) (w : World) (T : TrL x A c B d w) (hl : 0 ≤ lm ∧ lm ≤ 4) (hf : -100 ≤ f ∧ f ≤ 100) (hr : -100 ≤ r ∧ r ≤ 100) (hm : 0 ≤ m ∧ m ≤ 3) :
    Calls Try.prog 64 #[trainV x A c B d, .int .i64 lm, .int .i64 f, .int .i64 r, .int .i64 m] w (IsV w (.tuple #[.int .i64 (mvG (f, r) m).1, .int .i64 (mvG (f, r) m).2, .bool (okG x lm (mvG (f, r) m))])) := by
  have HT := Go.Lib.hid T
  have HX := Go.Lib.hid (boxT_box x A c B d w)
  have HXB := Go.Lib.hid (boxT_below x A c B d w)
  clear T
  have em : m.tmod 2 = m % 2 := tmod_two (by omega)
  have e0 : IntKind.i64.wrap (m % 2) = m % 2 := IntWalk.i64_in _ (by omega)
  have e1 : IntKind.i64.wrap (2 * (m % 2)) = 2 * (m % 2) := IntWalk.i64_in _ (by omega)
  have e2 : IntKind.i64.wrap (2 * (m % 2) - 1) = 2 * (m % 2) - 1 := IntWalk.i64_in _ (by omega)
  have e3 : IntKind.i64.wrap (f + (2 * (m % 2) - 1)) = f + (2 * (m % 2) - 1) := IntWalk.i64_in _ (by omega)
  have e4 : IntKind.i64.wrap (r + (2 * (m % 2) - 1)) = r + (2 * (m % 2) - 1) := IntWalk.i64_in _ (by omega)
  clear hf hr hm
  by_cases h2 : m < 2
  case pos =>
    have HV0 := Go.Lib.hid (show mvG (f, r) m = (f + (2 * (m % 2) - 1), r) by unfold mvG; rw [if_pos h2])
    have H1 := Go.Lib.hid (fun w0 T0 => specGear x A c B d (f + (2 * (m % 2) - 1)) r w0 T0)
    have H2 := Go.Lib.hid (fun w0 T0 => specCrossed x A c B d lm (f + (2 * (m % 2) - 1)) r w0 T0 hl)
    have HV := Go.Lib.hid (show okG x lm (f + (2 * (m % 2) - 1), r) = (gearB x (f + (2 * (m % 2) - 1)) r && !crossB x lm (f + (2 * (m % 2) - 1), r)) from rfl)
    rw [HV0.out]
    clear HV0 hl
    generalize okG x lm (f + (2 * (m % 2) - 1), r) = ok at *
    generalize gearB x (f + (2 * (m % 2) - 1)) r = a at *
    generalize crossB x lm (f + (2 * (m % 2) - 1), r) = b at *
    cases a
    case false =>
      unfold trainV at *
      go_enter Try.func64, Try.ntmps64
      go_upto_region 1 with fail
      refine wp_gen (R := fun W => Box W w.heap.size (trainC x A c B d) ∧ Below w.heap.size w W) ⟨HX.out, HXB.out⟩ ?_
      rintro W ⟨hx, hb⟩
      have HX1 := Go.Lib.hid hx
      have HB1 := Go.Lib.hid hb
      have HT1 := Go.Lib.hid (HT.out.below hb)
      clear hx hb HX HXB
      have hc0 : W.cell? ⟨w.heap.size, 0, none⟩ = some (.slice A x.f.length c) := HX1.out.at_ 0 _ rfl
      have hc1 : W.cell? ⟨w.heap.size, 1, none⟩ = some (.slice B x.r.length d) := HX1.out.at_ 1 _ rfl
      have hc2 : W.cell? ⟨w.heap.size, 2, none⟩ = some (.int .i64 x.n) := HX1.out.at_ 2 _ rfl
      go_wp2_with fail
      refine (H1.out _ HT1.out).mono ?_
      rintro _ w2 ⟨rfl, b2⟩
      have HX2 := Go.Lib.hid (HX1.out.below b2)
      have HB2 := Go.Lib.hid (upB HB1.out b2)
      have HT2 := Go.Lib.hid (HT1.out.below b2)
      clear b2
      go_wp2_with fail
      refine bodyPost_ret (results_tmp3 rfl _ _ _) rfl ?_
      exact ⟨by rw [HV.out]; rfl, HB2.out⟩
    case true =>
      unfold trainV at *
      go_enter Try.func64, Try.ntmps64
      go_upto_region 1 with fail
      refine wp_gen (R := fun W => Box W w.heap.size (trainC x A c B d) ∧ Below w.heap.size w W) ⟨HX.out, HXB.out⟩ ?_
      rintro W ⟨hx, hb⟩
      have HX1 := Go.Lib.hid hx
      have HB1 := Go.Lib.hid hb
      have HT1 := Go.Lib.hid (HT.out.below hb)
      clear hx hb HX HXB
      have hc0 : W.cell? ⟨w.heap.size, 0, none⟩ = some (.slice A x.f.length c) := HX1.out.at_ 0 _ rfl
      have hc1 : W.cell? ⟨w.heap.size, 1, none⟩ = some (.slice B x.r.length d) := HX1.out.at_ 1 _ rfl
      have hc2 : W.cell? ⟨w.heap.size, 2, none⟩ = some (.int .i64 x.n) := HX1.out.at_ 2 _ rfl
      go_wp2_with fail
      refine (H1.out _ HT1.out).mono ?_
      rintro _ w2 ⟨rfl, b2⟩
      have HX2 := Go.Lib.hid (HX1.out.below b2)
      have HB2 := Go.Lib.hid (upB HB1.out b2)
      have HT2 := Go.Lib.hid (HT1.out.below b2)
      clear b2
      clear hc0 hc1 hc2
      have hc0 : w2.cell? ⟨w.heap.size, 0, none⟩ = some (.slice A x.f.length c) := HX2.out.at_ 0 _ rfl
      have hc1 : w2.cell? ⟨w.heap.size, 1, none⟩ = some (.slice B x.r.length d) := HX2.out.at_ 1 _ rfl
      have hc2 : w2.cell? ⟨w.heap.size, 2, none⟩ = some (.int .i64 x.n) := HX2.out.at_ 2 _ rfl
      go_wp2_with fail
      refine (H2.out _ HT2.out).mono ?_
      rintro _ w3 ⟨rfl, b3⟩
      have HX3 := Go.Lib.hid (HX2.out.below b3)
      have HB3 := Go.Lib.hid (upB HB2.out b3)
      have HT3 := Go.Lib.hid (HT2.out.below b3)
      clear b3
      go_wp2_with fail
      refine bodyPost_ret (results_tmp3 rfl _ _ _) rfl ?_
      exact ⟨by rw [HV.out]; rfl, HB3.out⟩
  case neg =>
    have HV0 := Go.Lib.hid (show mvG (f, r) m = (f, r + (2 * (m % 2) - 1)) by unfold mvG; rw [if_neg h2])
    have H1 := Go.Lib.hid (fun w0 T0 => specGear x A c B d f (r + (2 * (m % 2) - 1)) w0 T0)
    have H2 := Go.Lib.hid (fun w0 T0 => specCrossed x A c B d lm f (r + (2 * (m % 2) - 1)) w0 T0 hl)
    have HV := Go.Lib.hid (show okG x lm (f, r + (2 * (m % 2) - 1)) = (gearB x f (r + (2 * (m % 2) - 1)) && !crossB x lm (f, r + (2 * (m % 2) - 1))) from rfl)
    rw [HV0.out]
    clear HV0 hl
    generalize okG x lm (f, r + (2 * (m % 2) - 1)) = ok at *
    generalize gearB x f (r + (2 * (m % 2) - 1)) = a at *
    generalize crossB x lm (f, r + (2 * (m % 2) - 1)) = b at *
    cases a
    case false =>
      unfold trainV at *
      go_enter Try.func64, Try.ntmps64
      go_upto_region 1 with fail
      refine wp_gen (R := fun W => Box W w.heap.size (trainC x A c B d) ∧ Below w.heap.size w W) ⟨HX.out, HXB.out⟩ ?_
      rintro W ⟨hx, hb⟩
      have HX1 := Go.Lib.hid hx
      have HB1 := Go.Lib.hid hb
      have HT1 := Go.Lib.hid (HT.out.below hb)
      clear hx hb HX HXB
      have hc0 : W.cell? ⟨w.heap.size, 0, none⟩ = some (.slice A x.f.length c) := HX1.out.at_ 0 _ rfl
      have hc1 : W.cell? ⟨w.heap.size, 1, none⟩ = some (.slice B x.r.length d) := HX1.out.at_ 1 _ rfl
      have hc2 : W.cell? ⟨w.heap.size, 2, none⟩ = some (.int .i64 x.n) := HX1.out.at_ 2 _ rfl
      go_wp2_with fail
      refine (H1.out _ HT1.out).mono ?_
      rintro _ w2 ⟨rfl, b2⟩
      have HX2 := Go.Lib.hid (HX1.out.below b2)
      have HB2 := Go.Lib.hid (upB HB1.out b2)
      have HT2 := Go.Lib.hid (HT1.out.below b2)
      clear b2
      go_wp2_with fail
      refine bodyPost_ret (results_tmp3 rfl _ _ _) rfl ?_
      exact ⟨by rw [HV.out]; rfl, HB2.out⟩
    case true =>
      unfold trainV at *
      go_enter Try.func64, Try.ntmps64
      go_upto_region 1 with fail
      refine wp_gen (R := fun W => Box W w.heap.size (trainC x A c B d) ∧ Below w.heap.size w W) ⟨HX.out, HXB.out⟩ ?_
      rintro W ⟨hx, hb⟩
      have HX1 := Go.Lib.hid hx
      have HB1 := Go.Lib.hid hb
      have HT1 := Go.Lib.hid (HT.out.below hb)
      clear hx hb HX HXB
      have hc0 : W.cell? ⟨w.heap.size, 0, none⟩ = some (.slice A x.f.length c) := HX1.out.at_ 0 _ rfl
      have hc1 : W.cell? ⟨w.heap.size, 1, none⟩ = some (.slice B x.r.length d) := HX1.out.at_ 1 _ rfl
      have hc2 : W.cell? ⟨w.heap.size, 2, none⟩ = some (.int .i64 x.n) := HX1.out.at_ 2 _ rfl
      go_wp2_with fail
      refine (H1.out _ HT1.out).mono ?_
      rintro _ w2 ⟨rfl, b2⟩
      have HX2 := Go.Lib.hid (HX1.out.below b2)
      have HB2 := Go.Lib.hid (upB HB1.out b2)
      have HT2 := Go.Lib.hid (HT1.out.below b2)
      clear b2
      clear hc0 hc1 hc2
      have hc0 : w2.cell? ⟨w.heap.size, 0, none⟩ = some (.slice A x.f.length c) := HX2.out.at_ 0 _ rfl
      have hc1 : w2.cell? ⟨w.heap.size, 1, none⟩ = some (.slice B x.r.length d) := HX2.out.at_ 1 _ rfl
      have hc2 : w2.cell? ⟨w.heap.size, 2, none⟩ = some (.int .i64 x.n) := HX2.out.at_ 2 _ rfl
      go_wp2_with fail
      refine (H2.out _ HT2.out).mono ?_
      rintro _ w3 ⟨rfl, b3⟩
      have HX3 := Go.Lib.hid (HX2.out.below b3)
      have HB3 := Go.Lib.hid (upB HB2.out b3)
      have HT3 := Go.Lib.hid (HT2.out.below b3)
      clear b3
      go_wp2_with fail
      refine bodyPost_ret (results_tmp3 rfl _ _ _) rfl ?_
      exact ⟨by rw [HV.out]; rfl, HB3.out⟩

end Go.Proofs.Ythedanpldebjcaa
