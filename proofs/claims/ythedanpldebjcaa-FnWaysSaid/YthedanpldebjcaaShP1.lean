/- The program of chapter 11: moves, checks, one gear, crossed gears, shifts. -/
import Derived.Test.YthedanpldebjcaaGearI2
import Derived.Test.YthedanpldebjcaaGearI4
import Derived.Test.YthedanpldebjcaaMgWays5
import Derived.OrdersHeld
namespace Go.Proofs.Ythedanpldebjcaa
open Go.RowKit
set_option linter.unusedSimpArgs false
set_option linter.unusedVariables false

/-- A train and a limit by value. -/
def shV (x : Trn) (A : Option Addr) (c : Nat) (B : Option Addr) (d : Nat) (lm : Int) : Value := .agg #[.slice A x.f.length c, .slice B x.r.length d, .int .i64 x.n, .int .i64 lm]
def shC (x : Trn) (A : Option Addr) (c : Nat) (B : Option Addr) (d : Nat) (lm : Int) : List Value := [.slice A x.f.length c, .slice B x.r.length d, .int .i64 x.n, .int .i64 lm]
def boxS (x : Trn) (A : Option Addr) (c : Nat) (B : Option Addr) (d : Nat) (lm : Int) (w : World) : World := w.alloc (.cells #[.slice A x.f.length c, .slice B x.r.length d, .int .i64 x.n, .int .i64 lm] 74)
theorem boxS_box (x : Trn) (A : Option Addr) (c : Nat) (B : Option Addr) (d : Nat) (lm : Int) (w : World) : Box (boxS x A c B d lm w) w.heap.size (shC x A c B d lm) := Box.new rfl rfl
theorem boxS_below (x : Trn) (A : Option Addr) (c : Nat) (B : Option Addr) (d : Nat) (lm : Int) (w : World) : Below w.heap.size w (boxS x A c B d lm w) := (Below.refl _ _).alloc (Nat.le_refl _) _
def codeS (x : Trn) (lm : Int) : Int := if trainB x then if inB lm 0 4 then 0 else 2 else 1
def codeG (x : Trn) (lm f r : Int) : Int := if codeS x lm = 0 then code9 x f r else codeS x lm
theorem codeG_is (x : Trn) (lm f r : Int) : codeG x lm f r = code11 x lm f r := by
  unfold codeG codeS code11 code9
  cases trainB x <;> cases inB lm 0 4 <;> cases gearB x f r <;> simp
theorem codeS_is (x : Trn) (lm : Int) : codeS x lm = if trainB x = true ∧ inB lm 0 4 = true then 0 else codeS x lm := by
  unfold codeS
  cases trainB x <;> cases inB lm 0 4 <;> simp
theorem gearAtV_form (x : Trn) (f r : Int) : ∃ a b p q, gearAtV x f r = gV a b p q := by
  unfold gearAtV
  split
  · split
    · exact ⟨_, _, _, _, rfl⟩
    · exact ⟨_, _, _, _, rfl⟩
  · exact ⟨_, _, _, _, rfl⟩
def shAtV (x : Trn) (lm f r : Int) : Value := if codeS x lm = 0 then gearAtV x f r else gV 0 0 0 0
set_option maxRecDepth 100000 in
set_option maxHeartbeats 4000000 in
theorem implIsMove (m : Int) (w : World) : Calls Try.prog 61 #[.int .i64 m] w (Just (.bool (inB m 0 3)) w) := by
  have HR := Go.Lib.hid (implPlace 4 m w (by omega) (by omega))
  go_enter Try.func61, Try.ntmps61
  go_wp2_with fail
  refine HR.out.mono ?_
  rintro _ _ ⟨rfl, rfl⟩
  go_wp2_with fail
  go_ret
  exact ⟨rfl, rfl⟩
set_option maxRecDepth 100000 in
set_option maxHeartbeats 4000000 in
theorem implCheck (x : Trn) (A : Option Addr) (c : Nat) (B : Option Addr) (d : Nat) (lm : Int) (w : World) (T : TrL x A c B d w) :
    Calls Try.prog 65 #[shV x A c B d lm] w (IsV w (.int .i64 (codeS x lm))) := by
  have HT := Go.Lib.hid T
  have HX := Go.Lib.hid (boxS_box x A c B d lm w)
  have HXB := Go.Lib.hid (boxS_below x A c B d lm w)
  clear T
  have H1 := Go.Lib.hid (fun w0 T0 => implTrain x A c B d w0 T0)
  have H2 := Go.Lib.hid (fun w0 => implInR lm 0 4 w0)
  have HV := Go.Lib.hid (show codeS x lm = if trainB x then if inB lm 0 4 then 0 else 2 else 1 from rfl)
  generalize trainB x = bt at *
  generalize inB lm 0 4 = bl at *
  cases bt
  case false =>
    unfold trainV at *
    unfold shV
    go_enter Try.func65, Try.ntmps65
    go_upto_region 1 with fail
    refine wp_gen (R := fun W => Box W w.heap.size (shC x A c B d lm) ∧ Below w.heap.size w W) ⟨HX.out, HXB.out⟩ ?_
    rintro W ⟨hx, hb⟩
    have HX1 := Go.Lib.hid hx
    have HB1 := Go.Lib.hid hb
    have HT1 := Go.Lib.hid (HT.out.below hb)
    clear hx hb HX HXB
    have hc0 : W.cell? ⟨w.heap.size, 0, none⟩ = some (.slice A x.f.length c) := HX1.out.at_ 0 _ rfl
    have hc1 : W.cell? ⟨w.heap.size, 1, none⟩ = some (.slice B x.r.length d) := HX1.out.at_ 1 _ rfl
    have hc2 : W.cell? ⟨w.heap.size, 2, none⟩ = some (.int .i64 x.n) := HX1.out.at_ 2 _ rfl
    have hc3 : W.cell? ⟨w.heap.size, 3, none⟩ = some (.int .i64 lm) := HX1.out.at_ 3 _ rfl
    go_wp2_with fail
    refine (H1.out _ HT1.out).mono ?_
    rintro _ w2 ⟨rfl, b2⟩
    have HX2 := Go.Lib.hid (HX1.out.below b2)
    have HB2 := Go.Lib.hid (upB HB1.out b2)
    have HT2 := Go.Lib.hid (HT1.out.below b2)
    clear b2 hc0 hc1 hc2 hc3
    have hc0 : w2.cell? ⟨w.heap.size, 0, none⟩ = some (.slice A x.f.length c) := HX2.out.at_ 0 _ rfl
    have hc1 : w2.cell? ⟨w.heap.size, 1, none⟩ = some (.slice B x.r.length d) := HX2.out.at_ 1 _ rfl
    have hc2 : w2.cell? ⟨w.heap.size, 2, none⟩ = some (.int .i64 x.n) := HX2.out.at_ 2 _ rfl
    have hc3 : w2.cell? ⟨w.heap.size, 3, none⟩ = some (.int .i64 lm) := HX2.out.at_ 3 _ rfl
    go_wp2_with fail
    go_ret
    exact ⟨by rw [HV.out]; rfl, HB2.out⟩
  case true =>
    cases bl
    case false =>
      unfold trainV at *
      unfold shV
      go_enter Try.func65, Try.ntmps65
      go_upto_region 1 with fail
      refine wp_gen (R := fun W => Box W w.heap.size (shC x A c B d lm) ∧ Below w.heap.size w W) ⟨HX.out, HXB.out⟩ ?_
      rintro W ⟨hx, hb⟩
      have HX1 := Go.Lib.hid hx
      have HB1 := Go.Lib.hid hb
      have HT1 := Go.Lib.hid (HT.out.below hb)
      clear hx hb HX HXB
      have hc0 : W.cell? ⟨w.heap.size, 0, none⟩ = some (.slice A x.f.length c) := HX1.out.at_ 0 _ rfl
      have hc1 : W.cell? ⟨w.heap.size, 1, none⟩ = some (.slice B x.r.length d) := HX1.out.at_ 1 _ rfl
      have hc2 : W.cell? ⟨w.heap.size, 2, none⟩ = some (.int .i64 x.n) := HX1.out.at_ 2 _ rfl
      have hc3 : W.cell? ⟨w.heap.size, 3, none⟩ = some (.int .i64 lm) := HX1.out.at_ 3 _ rfl
      go_wp2_with fail
      refine (H1.out _ HT1.out).mono ?_
      rintro _ w2 ⟨rfl, b2⟩
      have HX2 := Go.Lib.hid (HX1.out.below b2)
      have HB2 := Go.Lib.hid (upB HB1.out b2)
      have HT2 := Go.Lib.hid (HT1.out.below b2)
      clear b2 hc0 hc1 hc2 hc3
      have hc0 : w2.cell? ⟨w.heap.size, 0, none⟩ = some (.slice A x.f.length c) := HX2.out.at_ 0 _ rfl
      have hc1 : w2.cell? ⟨w.heap.size, 1, none⟩ = some (.slice B x.r.length d) := HX2.out.at_ 1 _ rfl
      have hc2 : w2.cell? ⟨w.heap.size, 2, none⟩ = some (.int .i64 x.n) := HX2.out.at_ 2 _ rfl
      have hc3 : w2.cell? ⟨w.heap.size, 3, none⟩ = some (.int .i64 lm) := HX2.out.at_ 3 _ rfl
      go_wp2_with fail
      refine (H2.out _).mono ?_
      rintro _ _ ⟨rfl, rfl⟩
      go_wp2_with fail
      go_ret
      exact ⟨by rw [HV.out]; rfl, HB2.out⟩
    case true =>
      unfold trainV at *
      unfold shV
      go_enter Try.func65, Try.ntmps65
      go_upto_region 1 with fail
      refine wp_gen (R := fun W => Box W w.heap.size (shC x A c B d lm) ∧ Below w.heap.size w W) ⟨HX.out, HXB.out⟩ ?_
      rintro W ⟨hx, hb⟩
      have HX1 := Go.Lib.hid hx
      have HB1 := Go.Lib.hid hb
      have HT1 := Go.Lib.hid (HT.out.below hb)
      clear hx hb HX HXB
      have hc0 : W.cell? ⟨w.heap.size, 0, none⟩ = some (.slice A x.f.length c) := HX1.out.at_ 0 _ rfl
      have hc1 : W.cell? ⟨w.heap.size, 1, none⟩ = some (.slice B x.r.length d) := HX1.out.at_ 1 _ rfl
      have hc2 : W.cell? ⟨w.heap.size, 2, none⟩ = some (.int .i64 x.n) := HX1.out.at_ 2 _ rfl
      have hc3 : W.cell? ⟨w.heap.size, 3, none⟩ = some (.int .i64 lm) := HX1.out.at_ 3 _ rfl
      go_wp2_with fail
      refine (H1.out _ HT1.out).mono ?_
      rintro _ w2 ⟨rfl, b2⟩
      have HX2 := Go.Lib.hid (HX1.out.below b2)
      have HB2 := Go.Lib.hid (upB HB1.out b2)
      have HT2 := Go.Lib.hid (HT1.out.below b2)
      clear b2 hc0 hc1 hc2 hc3
      have hc0 : w2.cell? ⟨w.heap.size, 0, none⟩ = some (.slice A x.f.length c) := HX2.out.at_ 0 _ rfl
      have hc1 : w2.cell? ⟨w.heap.size, 1, none⟩ = some (.slice B x.r.length d) := HX2.out.at_ 1 _ rfl
      have hc2 : w2.cell? ⟨w.heap.size, 2, none⟩ = some (.int .i64 x.n) := HX2.out.at_ 2 _ rfl
      have hc3 : w2.cell? ⟨w.heap.size, 3, none⟩ = some (.int .i64 lm) := HX2.out.at_ 3 _ rfl
      go_wp2_with fail
      refine (H2.out _).mono ?_
      rintro _ _ ⟨rfl, rfl⟩
      go_wp2_with fail
      go_ret
      exact ⟨by rw [HV.out]; rfl, HB2.out⟩
set_option maxRecDepth 100000 in
set_option maxHeartbeats 4000000 in
theorem implShAt (x : Trn) (A : Option Addr) (c : Nat) (B : Option Addr) (d : Nat) (lm : Int) (f r : Int) (w : World) (T : TrL x A c B d w) :
    Calls Try.prog 54 #[shV x A c B d lm, .int .i64 f, .int .i64 r] w (IsV w (.tuple #[shAtV x lm f r, .int .i64 (codeG x lm f r)])) := by
  have HT := Go.Lib.hid T
  have HX := Go.Lib.hid ((boxS_box x A c B d lm w).alloc (.cells #[.int .i64 0, .int .i64 0, .int .i64 0, .int .i64 0] 76))
  have HG := Go.Lib.hid (show Box ((boxS x A c B d lm w).alloc (.cells #[.int .i64 0, .int .i64 0, .int .i64 0, .int .i64 0] 76)) (w.heap.size + 1) (gC 0 0 0 0) from Box.new (by simp [boxS]) rfl)
  have HXB := Go.Lib.hid ((boxS_below x A c B d lm w).alloc (boxS_below x A c B d lm w).size (.cells #[.int .i64 0, .int .i64 0, .int .i64 0, .int .i64 0] 76))
  clear T
  have H1 := Go.Lib.hid (fun w0 T0 => implCheck x A c B d lm w0 T0)
  have H2 := Go.Lib.hid (fun w0 T0 => implGearAt x A c B d f r w0 T0)
  have HV := Go.Lib.hid (show shAtV x lm f r = if codeS x lm = 0 then gearAtV x f r else gV 0 0 0 0 from rfl)
  have HC := Go.Lib.hid (show codeG x lm f r = if codeS x lm = 0 then code9 x f r else codeS x lm from rfl)
  obtain ⟨ga, gb, gc, gd, hv⟩ := gearAtV_form x f r
  rw [hv] at H2 HV
  clear hv
  generalize codeS x lm = cs at *
  generalize code9 x f r = cn at *
  by_cases h0 : cs = 0
  case neg =>
    rw [if_neg h0] at HV HC
    have hzb : (cs != 0) = true := by simpa using h0
    rw [HC.out]
    clear h0 HC H2
    unfold trainV at *
    unfold shV at *
    unfold gV at *
    go_enter Try.func54, Try.ntmps54
    go_upto_region 1 with fail
    refine wp_gen (R := fun W => Box W w.heap.size (shC x A c B d lm) ∧ Box W (w.heap.size + 1) (gC 0 0 0 0) ∧ Below w.heap.size w W) ⟨HX.out, HG.out, HXB.out⟩ ?_
    rintro W ⟨hx, hg, hb⟩
    have HX1 := Go.Lib.hid hx
    have HG1 := Go.Lib.hid hg
    have HB1 := Go.Lib.hid hb
    have HT1 := Go.Lib.hid (HT.out.below hb)
    clear hx hg hb HX HG HXB
    have hc0 : W.cell? ⟨w.heap.size, 0, none⟩ = some (.slice A x.f.length c) := HX1.out.at_ 0 _ rfl
    have hc1 : W.cell? ⟨w.heap.size, 1, none⟩ = some (.slice B x.r.length d) := HX1.out.at_ 1 _ rfl
    have hc2 : W.cell? ⟨w.heap.size, 2, none⟩ = some (.int .i64 x.n) := HX1.out.at_ 2 _ rfl
    have hc3 : W.cell? ⟨w.heap.size, 3, none⟩ = some (.int .i64 lm) := HX1.out.at_ 3 _ rfl
    go_wp2_with fail
    refine (H1.out _ HT1.out).mono ?_
    rintro _ w2 ⟨rfl, b2⟩
    have HX2 := Go.Lib.hid (HX1.out.below b2)
    have HG2 := Go.Lib.hid (HG1.out.below b2)
    have HB2 := Go.Lib.hid (upB HB1.out b2)
    have HT2 := Go.Lib.hid (HT1.out.below b2)
    clear b2 hc0 hc1 hc2 hc3
    have hc0 : w2.cell? ⟨w.heap.size, 0, none⟩ = some (.slice A x.f.length c) := HX2.out.at_ 0 _ rfl
    have hc1 : w2.cell? ⟨w.heap.size, 1, none⟩ = some (.slice B x.r.length d) := HX2.out.at_ 1 _ rfl
    have hc2 : w2.cell? ⟨w.heap.size, 2, none⟩ = some (.int .i64 x.n) := HX2.out.at_ 2 _ rfl
    have hc3 : w2.cell? ⟨w.heap.size, 3, none⟩ = some (.int .i64 lm) := HX2.out.at_ 3 _ rfl
    have hg0 : w2.cell? ⟨w.heap.size + 1, 0, none⟩ = some (.int .i64 0) := HG2.out.at_ 0 _ rfl
    have hf0 := HG2.out.fr 0
    have hg1 : w2.cell? ⟨w.heap.size + 1, 1, none⟩ = some (.int .i64 0) := HG2.out.at_ 1 _ rfl
    have hf1 := HG2.out.fr 1
    have hg2 : w2.cell? ⟨w.heap.size + 1, 2, none⟩ = some (.int .i64 0) := HG2.out.at_ 2 _ rfl
    have hf2 := HG2.out.fr 2
    have hg3 : w2.cell? ⟨w.heap.size + 1, 3, none⟩ = some (.int .i64 0) := HG2.out.at_ 3 _ rfl
    have hf3 := HG2.out.fr 3
    go_wp2_with fail
    have hk := put4_keep w2 (w.heap.size + 1) 0 0 0 0 0
    have HE := Go.Lib.hid (HB2.out.trans (hk.below (Nat.le_succ _) HB2.out.size))
    have HQ := Go.Lib.hid (put4_box (a2 := 0) (b2 := 0) (c2 := 0) (d2 := 0) HG2.out)
    change bodyPost _ _ _ _ _ (put4 w2 (w.heap.size + 1) 0 0 0 0 0)
    generalize put4 w2 (w.heap.size + 1) 0 0 0 0 0 = WE at *
    obtain ⟨q0, q1, q2, q3⟩ := cells4 HQ.out
    clear hk hg0 hg1 hg2 hg3 hf0 hf1 hf2 hf3
    refine bodyPost_ret (v := .tuple #[gV 0 0 0 0, .int .i64 cs]) (by simp [results, Try.results54, go_sem, gV, *]) rfl ⟨by rw [HV.out] <;> rfl, HE.out⟩
  case pos =>
    subst h0
    rw [if_pos rfl] at HV HC
    rw [HC.out]
    clear HC
    unfold trainV at *
    unfold shV at *
    unfold gV at *
    go_enter Try.func54, Try.ntmps54
    go_upto_region 1 with fail
    refine wp_gen (R := fun W => Box W w.heap.size (shC x A c B d lm) ∧ Box W (w.heap.size + 1) (gC 0 0 0 0) ∧ Below w.heap.size w W) ⟨HX.out, HG.out, HXB.out⟩ ?_
    rintro W ⟨hx, hg, hb⟩
    have HX1 := Go.Lib.hid hx
    have HG1 := Go.Lib.hid hg
    have HB1 := Go.Lib.hid hb
    have HT1 := Go.Lib.hid (HT.out.below hb)
    clear hx hg hb HX HG HXB
    have hc0 : W.cell? ⟨w.heap.size, 0, none⟩ = some (.slice A x.f.length c) := HX1.out.at_ 0 _ rfl
    have hc1 : W.cell? ⟨w.heap.size, 1, none⟩ = some (.slice B x.r.length d) := HX1.out.at_ 1 _ rfl
    have hc2 : W.cell? ⟨w.heap.size, 2, none⟩ = some (.int .i64 x.n) := HX1.out.at_ 2 _ rfl
    have hc3 : W.cell? ⟨w.heap.size, 3, none⟩ = some (.int .i64 lm) := HX1.out.at_ 3 _ rfl
    go_wp2_with fail
    refine (H1.out _ HT1.out).mono ?_
    rintro _ w2 ⟨rfl, b2⟩
    have HX2 := Go.Lib.hid (HX1.out.below b2)
    have HG2 := Go.Lib.hid (HG1.out.below b2)
    have HB2 := Go.Lib.hid (upB HB1.out b2)
    have HT2 := Go.Lib.hid (HT1.out.below b2)
    clear b2 hc0 hc1 hc2 hc3
    have hc0 : w2.cell? ⟨w.heap.size, 0, none⟩ = some (.slice A x.f.length c) := HX2.out.at_ 0 _ rfl
    have hc1 : w2.cell? ⟨w.heap.size, 1, none⟩ = some (.slice B x.r.length d) := HX2.out.at_ 1 _ rfl
    have hc2 : w2.cell? ⟨w.heap.size, 2, none⟩ = some (.int .i64 x.n) := HX2.out.at_ 2 _ rfl
    have hc3 : w2.cell? ⟨w.heap.size, 3, none⟩ = some (.int .i64 lm) := HX2.out.at_ 3 _ rfl
    go_wp2_with fail
    refine (H2.out _ HT2.out).mono ?_
    rintro _ w3 ⟨rfl, b3⟩
    have HX3 := Go.Lib.hid (HX2.out.below b3)
    have HG3 := Go.Lib.hid (HG2.out.below b3)
    have HB3 := Go.Lib.hid (upB HB2.out b3)
    have HT3 := Go.Lib.hid (HT2.out.below b3)
    clear b3 hc0 hc1 hc2 hc3
    have hg0 : w3.cell? ⟨w.heap.size + 1, 0, none⟩ = some (.int .i64 0) := HG3.out.at_ 0 _ rfl
    have hf0 := HG3.out.fr 0
    have hg1 : w3.cell? ⟨w.heap.size + 1, 1, none⟩ = some (.int .i64 0) := HG3.out.at_ 1 _ rfl
    have hf1 := HG3.out.fr 1
    have hg2 : w3.cell? ⟨w.heap.size + 1, 2, none⟩ = some (.int .i64 0) := HG3.out.at_ 2 _ rfl
    have hf2 := HG3.out.fr 2
    have hg3 : w3.cell? ⟨w.heap.size + 1, 3, none⟩ = some (.int .i64 0) := HG3.out.at_ 3 _ rfl
    have hf3 := HG3.out.fr 3
    go_wp2_with fail
    have hk := put4_keep w3 (w.heap.size + 1) 0 ga gb gc gd
    have HE := Go.Lib.hid (HB3.out.trans (hk.below (Nat.le_succ _) HB3.out.size))
    have HQ := Go.Lib.hid (put4_box (a2 := ga) (b2 := gb) (c2 := gc) (d2 := gd) HG3.out)
    change bodyPost _ _ _ _ _ (put4 w3 (w.heap.size + 1) 0 ga gb gc gd)
    generalize put4 w3 (w.heap.size + 1) 0 ga gb gc gd = WE at *
    obtain ⟨q0, q1, q2, q3⟩ := cells4 HQ.out
    clear hk hg0 hg1 hg2 hg3 hf0 hf1 hf2 hf3
    refine bodyPost_ret (v := .tuple #[gV ga gb gc gd, .int .i64 cn]) (by simp [results, Try.results54, go_sem, gV, *]) rfl ⟨by rw [HV.out] <;> rfl, HE.out⟩
set_option maxRecDepth 100000 in
set_option maxHeartbeats 4000000 in
theorem implCrossedG (x : Trn) (A : Option Addr) (c : Nat) (B : Option Addr) (d : Nat) (lm : Int) (f r p q : Int) (w : World) (T : TrL x A c B d w) (hl : 0 ≤ lm ∧ lm ≤ 4) (h1 : 1 ≤ x.f.length) :
    Calls Try.prog 55 #[shV x A c B d lm, gV f r p q] w (IsV w (.bool (crossB x lm (f, r)))) := by
  have hf := T.f.few
  have hr := T.r.few
  have HT := Go.Lib.hid T
  have HX := Go.Lib.hid ((boxS_box x A c B d lm w).alloc (.cells #[.int .i64 f, .int .i64 r, .int .i64 p, .int .i64 q] 76))
  have HG := Go.Lib.hid (show Box ((boxS x A c B d lm w).alloc (.cells #[.int .i64 f, .int .i64 r, .int .i64 p, .int .i64 q] 76)) (w.heap.size + 1) (gC f r p q) from Box.new (by simp [boxS]) rfl)
  have HXB := Go.Lib.hid ((boxS_below x A c B d lm w).alloc (boxS_below x A c B d lm w).size (.cells #[.int .i64 f, .int .i64 r, .int .i64 p, .int .i64 q] 76))
  clear T
  have e1 : IntKind.i64.wrap ((x.f.length : Int) - 1) = (x.f.length : Int) - 1 := IntWalk.i64_in _ (by omega)
  have e2 : IntKind.i64.wrap ((x.r.length : Int) - lm) = (x.r.length : Int) - lm := IntWalk.i64_in _ (by omega)
  have HV := Go.Lib.hid (show crossB x lm (f, r) = (decide (1 < (x.f.length : Int)) && ((decide (f = (x.f.length : Int) - 1) && decide ((x.r.length : Int) - lm ≤ r)) || (decide (f = 0) && decide (r < lm)))) from rfl)
  clear hl
  by_cases a1 : (x.f.length : Int) = 1
  case pos =>
    rw [decide_eq_false (show ¬ 1 < (x.f.length : Int) by omega)] at HV
    clear h1
    have a1b : ((x.f.length : Int) == 1) = true := by simpa using a1
    clear a1
    unfold shV at *
    unfold gV at *
    go_enter Try.func55, Try.ntmps55
    go_upto_region 1 with fail
    refine wp_gen (R := fun W => Box W w.heap.size (shC x A c B d lm) ∧ Box W (w.heap.size + 1) (gC f r p q) ∧ Below w.heap.size w W) ⟨HX.out, HG.out, HXB.out⟩ ?_
    rintro W ⟨hx, hg, hb⟩
    have HX1 := Go.Lib.hid hx
    have HG1 := Go.Lib.hid hg
    have HB1 := Go.Lib.hid hb
    have HT1 := Go.Lib.hid (HT.out.below hb)
    clear hx hg hb HX HG HXB
    have hc0 : W.cell? ⟨w.heap.size, 0, none⟩ = some (.slice A x.f.length c) := HX1.out.at_ 0 _ rfl
    have hc1 : W.cell? ⟨w.heap.size, 1, none⟩ = some (.slice B x.r.length d) := HX1.out.at_ 1 _ rfl
    have hc2 : W.cell? ⟨w.heap.size, 2, none⟩ = some (.int .i64 x.n) := HX1.out.at_ 2 _ rfl
    have hc3 : W.cell? ⟨w.heap.size, 3, none⟩ = some (.int .i64 lm) := HX1.out.at_ 3 _ rfl
    obtain ⟨g0, g1, g2, g3⟩ := cells4 HG1.out
    have HBE := Go.Lib.hid (fun m => below_drewN HB1.out m)
    go_quiet (fail)
    go_wp2_with fail
    go_ret
    exact ⟨by rw [HV.out]; rfl, HBE.out _⟩
  case neg =>
    by_cases a2 : f = (x.f.length : Int) - 1
    case pos =>
      by_cases a3 : (x.r.length : Int) - lm ≤ r
      case pos =>
        rw [decide_eq_true (show 1 < (x.f.length : Int) by omega)] at HV
        rw [decide_eq_true a2, decide_eq_true a3] at HV
        clear h1
        have a1b : ((x.f.length : Int) == 1) = false := by simpa using a1
        clear a1
        have a2b : (f == (x.f.length : Int) - 1) = true := by simpa using a2
        clear a2
        unfold shV at *
        unfold gV at *
        go_enter Try.func55, Try.ntmps55
        go_upto_region 1 with fail
        refine wp_gen (R := fun W => Box W w.heap.size (shC x A c B d lm) ∧ Box W (w.heap.size + 1) (gC f r p q) ∧ Below w.heap.size w W) ⟨HX.out, HG.out, HXB.out⟩ ?_
        rintro W ⟨hx, hg, hb⟩
        have HX1 := Go.Lib.hid hx
        have HG1 := Go.Lib.hid hg
        have HB1 := Go.Lib.hid hb
        have HT1 := Go.Lib.hid (HT.out.below hb)
        clear hx hg hb HX HG HXB
        have hc0 : W.cell? ⟨w.heap.size, 0, none⟩ = some (.slice A x.f.length c) := HX1.out.at_ 0 _ rfl
        have hc1 : W.cell? ⟨w.heap.size, 1, none⟩ = some (.slice B x.r.length d) := HX1.out.at_ 1 _ rfl
        have hc2 : W.cell? ⟨w.heap.size, 2, none⟩ = some (.int .i64 x.n) := HX1.out.at_ 2 _ rfl
        have hc3 : W.cell? ⟨w.heap.size, 3, none⟩ = some (.int .i64 lm) := HX1.out.at_ 3 _ rfl
        obtain ⟨g0, g1, g2, g3⟩ := cells4 HG1.out
        have HBE := Go.Lib.hid (fun m => below_drewN HB1.out m)
        go_quiet (fail)
        go_wp2_with fail
        go_ret
        exact ⟨by rw [HV.out]; rfl, HBE.out _⟩
      case neg =>
        by_cases a4 : f = 0
        case pos =>
          by_cases a5 : r < lm
          case pos =>
            rw [decide_eq_true (show 1 < (x.f.length : Int) by omega)] at HV
            rw [decide_eq_true a2, decide_eq_false a3, decide_eq_true a4, decide_eq_true a5] at HV
            clear h1
            have a1b : ((x.f.length : Int) == 1) = false := by simpa using a1
            clear a1
            have a2b : (f == (x.f.length : Int) - 1) = true := by simpa using a2
            clear a2
            have a3f : ((x.r.length : Int) - lm ≤ r) = False := eq_false a3
            have a4b : (f == 0) = true := by simpa using a4
            clear a4
            unfold shV at *
            unfold gV at *
            go_enter Try.func55, Try.ntmps55
            go_upto_region 1 with fail
            refine wp_gen (R := fun W => Box W w.heap.size (shC x A c B d lm) ∧ Box W (w.heap.size + 1) (gC f r p q) ∧ Below w.heap.size w W) ⟨HX.out, HG.out, HXB.out⟩ ?_
            rintro W ⟨hx, hg, hb⟩
            have HX1 := Go.Lib.hid hx
            have HG1 := Go.Lib.hid hg
            have HB1 := Go.Lib.hid hb
            have HT1 := Go.Lib.hid (HT.out.below hb)
            clear hx hg hb HX HG HXB
            have hc0 : W.cell? ⟨w.heap.size, 0, none⟩ = some (.slice A x.f.length c) := HX1.out.at_ 0 _ rfl
            have hc1 : W.cell? ⟨w.heap.size, 1, none⟩ = some (.slice B x.r.length d) := HX1.out.at_ 1 _ rfl
            have hc2 : W.cell? ⟨w.heap.size, 2, none⟩ = some (.int .i64 x.n) := HX1.out.at_ 2 _ rfl
            have hc3 : W.cell? ⟨w.heap.size, 3, none⟩ = some (.int .i64 lm) := HX1.out.at_ 3 _ rfl
            obtain ⟨g0, g1, g2, g3⟩ := cells4 HG1.out
            have HBE := Go.Lib.hid (fun m => below_drewN HB1.out m)
            go_quiet (fail)
            go_wp2_with fail
            go_ret
            exact ⟨by rw [HV.out]; rfl, HBE.out _⟩
          case neg =>
            rw [decide_eq_true (show 1 < (x.f.length : Int) by omega)] at HV
            rw [decide_eq_true a2, decide_eq_false a3, decide_eq_true a4, decide_eq_false a5] at HV
            clear h1
            have a1b : ((x.f.length : Int) == 1) = false := by simpa using a1
            clear a1
            have a2b : (f == (x.f.length : Int) - 1) = true := by simpa using a2
            clear a2
            have a3f : ((x.r.length : Int) - lm ≤ r) = False := eq_false a3
            have a4b : (f == 0) = true := by simpa using a4
            clear a4
            have a5f : (r < lm) = False := eq_false a5
            unfold shV at *
            unfold gV at *
            go_enter Try.func55, Try.ntmps55
            go_upto_region 1 with fail
            refine wp_gen (R := fun W => Box W w.heap.size (shC x A c B d lm) ∧ Box W (w.heap.size + 1) (gC f r p q) ∧ Below w.heap.size w W) ⟨HX.out, HG.out, HXB.out⟩ ?_
            rintro W ⟨hx, hg, hb⟩
            have HX1 := Go.Lib.hid hx
            have HG1 := Go.Lib.hid hg
            have HB1 := Go.Lib.hid hb
            have HT1 := Go.Lib.hid (HT.out.below hb)
            clear hx hg hb HX HG HXB
            have hc0 : W.cell? ⟨w.heap.size, 0, none⟩ = some (.slice A x.f.length c) := HX1.out.at_ 0 _ rfl
            have hc1 : W.cell? ⟨w.heap.size, 1, none⟩ = some (.slice B x.r.length d) := HX1.out.at_ 1 _ rfl
            have hc2 : W.cell? ⟨w.heap.size, 2, none⟩ = some (.int .i64 x.n) := HX1.out.at_ 2 _ rfl
            have hc3 : W.cell? ⟨w.heap.size, 3, none⟩ = some (.int .i64 lm) := HX1.out.at_ 3 _ rfl
            obtain ⟨g0, g1, g2, g3⟩ := cells4 HG1.out
            have HBE := Go.Lib.hid (fun m => below_drewN HB1.out m)
            go_quiet (fail)
            go_wp2_with fail
            go_ret
            exact ⟨by rw [HV.out]; rfl, HBE.out _⟩
        case neg =>
          rw [decide_eq_true (show 1 < (x.f.length : Int) by omega)] at HV
          rw [decide_eq_true a2, decide_eq_false a3, decide_eq_false a4] at HV
          clear h1
          have a1b : ((x.f.length : Int) == 1) = false := by simpa using a1
          clear a1
          have a2b : (f == (x.f.length : Int) - 1) = true := by simpa using a2
          clear a2
          have a3f : ((x.r.length : Int) - lm ≤ r) = False := eq_false a3
          have a4b : (f == 0) = false := by simpa using a4
          clear a4
          unfold shV at *
          unfold gV at *
          go_enter Try.func55, Try.ntmps55
          go_upto_region 1 with fail
          refine wp_gen (R := fun W => Box W w.heap.size (shC x A c B d lm) ∧ Box W (w.heap.size + 1) (gC f r p q) ∧ Below w.heap.size w W) ⟨HX.out, HG.out, HXB.out⟩ ?_
          rintro W ⟨hx, hg, hb⟩
          have HX1 := Go.Lib.hid hx
          have HG1 := Go.Lib.hid hg
          have HB1 := Go.Lib.hid hb
          have HT1 := Go.Lib.hid (HT.out.below hb)
          clear hx hg hb HX HG HXB
          have hc0 : W.cell? ⟨w.heap.size, 0, none⟩ = some (.slice A x.f.length c) := HX1.out.at_ 0 _ rfl
          have hc1 : W.cell? ⟨w.heap.size, 1, none⟩ = some (.slice B x.r.length d) := HX1.out.at_ 1 _ rfl
          have hc2 : W.cell? ⟨w.heap.size, 2, none⟩ = some (.int .i64 x.n) := HX1.out.at_ 2 _ rfl
          have hc3 : W.cell? ⟨w.heap.size, 3, none⟩ = some (.int .i64 lm) := HX1.out.at_ 3 _ rfl
          obtain ⟨g0, g1, g2, g3⟩ := cells4 HG1.out
          have HBE := Go.Lib.hid (fun m => below_drewN HB1.out m)
          go_quiet (fail)
          go_wp2_with fail
          go_ret
          exact ⟨by rw [HV.out]; rfl, HBE.out _⟩
    case neg =>
      by_cases a4 : f = 0
      case pos =>
        by_cases a5 : r < lm
        case pos =>
          rw [decide_eq_true (show 1 < (x.f.length : Int) by omega)] at HV
          rw [decide_eq_false a2, decide_eq_true a4, decide_eq_true a5] at HV
          clear h1
          have a1b : ((x.f.length : Int) == 1) = false := by simpa using a1
          clear a1
          have a2b : (f == (x.f.length : Int) - 1) = false := by simpa using a2
          clear a2
          have a4b : (f == 0) = true := by simpa using a4
          clear a4
          unfold shV at *
          unfold gV at *
          go_enter Try.func55, Try.ntmps55
          go_upto_region 1 with fail
          refine wp_gen (R := fun W => Box W w.heap.size (shC x A c B d lm) ∧ Box W (w.heap.size + 1) (gC f r p q) ∧ Below w.heap.size w W) ⟨HX.out, HG.out, HXB.out⟩ ?_
          rintro W ⟨hx, hg, hb⟩
          have HX1 := Go.Lib.hid hx
          have HG1 := Go.Lib.hid hg
          have HB1 := Go.Lib.hid hb
          have HT1 := Go.Lib.hid (HT.out.below hb)
          clear hx hg hb HX HG HXB
          have hc0 : W.cell? ⟨w.heap.size, 0, none⟩ = some (.slice A x.f.length c) := HX1.out.at_ 0 _ rfl
          have hc1 : W.cell? ⟨w.heap.size, 1, none⟩ = some (.slice B x.r.length d) := HX1.out.at_ 1 _ rfl
          have hc2 : W.cell? ⟨w.heap.size, 2, none⟩ = some (.int .i64 x.n) := HX1.out.at_ 2 _ rfl
          have hc3 : W.cell? ⟨w.heap.size, 3, none⟩ = some (.int .i64 lm) := HX1.out.at_ 3 _ rfl
          obtain ⟨g0, g1, g2, g3⟩ := cells4 HG1.out
          have HBE := Go.Lib.hid (fun m => below_drewN HB1.out m)
          go_quiet (fail)
          go_wp2_with fail
          go_ret
          exact ⟨by rw [HV.out]; rfl, HBE.out _⟩
        case neg =>
          rw [decide_eq_true (show 1 < (x.f.length : Int) by omega)] at HV
          rw [decide_eq_false a2, decide_eq_true a4, decide_eq_false a5] at HV
          clear h1
          have a1b : ((x.f.length : Int) == 1) = false := by simpa using a1
          clear a1
          have a2b : (f == (x.f.length : Int) - 1) = false := by simpa using a2
          clear a2
          have a4b : (f == 0) = true := by simpa using a4
          clear a4
          have a5f : (r < lm) = False := eq_false a5
          unfold shV at *
          unfold gV at *
          go_enter Try.func55, Try.ntmps55
          go_upto_region 1 with fail
          refine wp_gen (R := fun W => Box W w.heap.size (shC x A c B d lm) ∧ Box W (w.heap.size + 1) (gC f r p q) ∧ Below w.heap.size w W) ⟨HX.out, HG.out, HXB.out⟩ ?_
          rintro W ⟨hx, hg, hb⟩
          have HX1 := Go.Lib.hid hx
          have HG1 := Go.Lib.hid hg
          have HB1 := Go.Lib.hid hb
          have HT1 := Go.Lib.hid (HT.out.below hb)
          clear hx hg hb HX HG HXB
          have hc0 : W.cell? ⟨w.heap.size, 0, none⟩ = some (.slice A x.f.length c) := HX1.out.at_ 0 _ rfl
          have hc1 : W.cell? ⟨w.heap.size, 1, none⟩ = some (.slice B x.r.length d) := HX1.out.at_ 1 _ rfl
          have hc2 : W.cell? ⟨w.heap.size, 2, none⟩ = some (.int .i64 x.n) := HX1.out.at_ 2 _ rfl
          have hc3 : W.cell? ⟨w.heap.size, 3, none⟩ = some (.int .i64 lm) := HX1.out.at_ 3 _ rfl
          obtain ⟨g0, g1, g2, g3⟩ := cells4 HG1.out
          have HBE := Go.Lib.hid (fun m => below_drewN HB1.out m)
          go_quiet (fail)
          go_wp2_with fail
          go_ret
          exact ⟨by rw [HV.out]; rfl, HBE.out _⟩
      case neg =>
        rw [decide_eq_true (show 1 < (x.f.length : Int) by omega)] at HV
        rw [decide_eq_false a2, decide_eq_false a4] at HV
        clear h1
        have a1b : ((x.f.length : Int) == 1) = false := by simpa using a1
        clear a1
        have a2b : (f == (x.f.length : Int) - 1) = false := by simpa using a2
        clear a2
        have a4b : (f == 0) = false := by simpa using a4
        clear a4
        unfold shV at *
        unfold gV at *
        go_enter Try.func55, Try.ntmps55
        go_upto_region 1 with fail
        refine wp_gen (R := fun W => Box W w.heap.size (shC x A c B d lm) ∧ Box W (w.heap.size + 1) (gC f r p q) ∧ Below w.heap.size w W) ⟨HX.out, HG.out, HXB.out⟩ ?_
        rintro W ⟨hx, hg, hb⟩
        have HX1 := Go.Lib.hid hx
        have HG1 := Go.Lib.hid hg
        have HB1 := Go.Lib.hid hb
        have HT1 := Go.Lib.hid (HT.out.below hb)
        clear hx hg hb HX HG HXB
        have hc0 : W.cell? ⟨w.heap.size, 0, none⟩ = some (.slice A x.f.length c) := HX1.out.at_ 0 _ rfl
        have hc1 : W.cell? ⟨w.heap.size, 1, none⟩ = some (.slice B x.r.length d) := HX1.out.at_ 1 _ rfl
        have hc2 : W.cell? ⟨w.heap.size, 2, none⟩ = some (.int .i64 x.n) := HX1.out.at_ 2 _ rfl
        have hc3 : W.cell? ⟨w.heap.size, 3, none⟩ = some (.int .i64 lm) := HX1.out.at_ 3 _ rfl
        obtain ⟨g0, g1, g2, g3⟩ := cells4 HG1.out
        have HBE := Go.Lib.hid (fun m => below_drewN HB1.out m)
        go_quiet (fail)
        go_wp2_with fail
        go_ret
        exact ⟨by rw [HV.out]; rfl, HBE.out _⟩
theorem code9_zero {x : Trn} {f r : Int} (h : trainB x = true) : (code9 x f r == 0) = gearB x f r := by
  unfold code9
  rw [if_pos h]
  cases gearB x f r <;> simp
set_option maxRecDepth 100000 in
set_option maxHeartbeats 4000000 in
theorem implShiftG (x : Trn) (A : Option Addr) (c : Nat) (B : Option Addr) (d : Nat) (lm : Int) (f r p q m : Int) (w : World) (T : TrL x A c B d w) (ht : trainB x = true) (hfb : -100 ≤ f ∧ f ≤ 100) (hrb : -100 ≤ r ∧ r ≤ 100) (hm : 0 ≤ m ∧ m ≤ 3) :
    Calls Try.prog 62 #[shV x A c B d lm, gV f r p q, .int .i64 m] w (IsV w (.tuple #[gearAtV x (mvG (f, r) m).1 (mvG (f, r) m).2, .bool (gearB x (mvG (f, r) m).1 (mvG (f, r) m).2)])) := by
  have HT := Go.Lib.hid T
  have HX := Go.Lib.hid (((boxS_box x A c B d lm w).alloc (.cells #[.int .i64 f, .int .i64 r, .int .i64 p, .int .i64 q] 76)).alloc (.cells #[.int .i64 0, .int .i64 0, .int .i64 0, .int .i64 0] 76))
  have HG := Go.Lib.hid ((show Box ((boxS x A c B d lm w).alloc (.cells #[.int .i64 f, .int .i64 r, .int .i64 p, .int .i64 q] 76)) (w.heap.size + 1) (gC f r p q) from Box.new (by simp [boxS]) rfl).alloc (.cells #[.int .i64 0, .int .i64 0, .int .i64 0, .int .i64 0] 76))
  have HO := Go.Lib.hid (show Box (((boxS x A c B d lm w).alloc (.cells #[.int .i64 f, .int .i64 r, .int .i64 p, .int .i64 q] 76)).alloc (.cells #[.int .i64 0, .int .i64 0, .int .i64 0, .int .i64 0] 76)) (w.heap.size + 2) (gC 0 0 0 0) from Box.new (by simp [boxS]) rfl)
  have HXB := Go.Lib.hid (((boxS_below x A c B d lm w).alloc (boxS_below x A c B d lm w).size (.cells #[.int .i64 f, .int .i64 r, .int .i64 p, .int .i64 q] 76)).alloc (Nat.le_trans (boxS_below x A c B d lm w).size ((Below.refl _ _).alloc (Nat.le_refl _) (.cells #[.int .i64 f, .int .i64 r, .int .i64 p, .int .i64 q] 76)).size) (.cells #[.int .i64 0, .int .i64 0, .int .i64 0, .int .i64 0] 76))
  clear T
  have HTB := Go.Lib.hid ht
  clear ht
  have h4 : m = 0 ∨ m = 1 ∨ m = 2 ∨ m = 3 := by omega
  clear hm
  rcases h4 with rfl | rfl | rfl | rfl
  · rw [show mvG (f, r) 0 = (f - 1, r) by simp [mvG]; omega]
    have ew : IntKind.i64.wrap (f - 1) = f - 1 := IntWalk.i64_in _ (by omega)
    clear hfb hrb
    have H2 := Go.Lib.hid (fun w0 T0 => implGearAt x A c B d (f - 1) (r) w0 T0)
    obtain ⟨ga, gb, gc, gd, hv⟩ := gearAtV_form x (f - 1) (r)
    have HV := Go.Lib.hid (show gearAtV x (f - 1) (r) = gV ga gb gc gd from hv)
    rw [hv] at H2
    clear hv
    have hcz : (code9 x (f - 1) (r) == 0) = gearB x (f - 1) (r) := code9_zero HTB.out
    generalize code9 x (f - 1) (r) = cn at *
    generalize gearB x (f - 1) (r) = bg at *
    unfold trainV at *
    unfold shV
    unfold gV at H2
    unfold gV
    go_enter Try.func62, Try.ntmps62
    go_upto_region 1 with fail
    refine wp_gen (R := fun W => Box W w.heap.size (shC x A c B d lm) ∧ Box W (w.heap.size + 1) (gC f r p q) ∧ Box W (w.heap.size + 2) (gC 0 0 0 0) ∧ Below w.heap.size w W) ⟨HX.out, HG.out, HO.out, HXB.out⟩ ?_
    rintro W ⟨hx, hg, ho, hb⟩
    have HX1 := Go.Lib.hid hx
    have HO1 := Go.Lib.hid ho
    have HB1 := Go.Lib.hid hb
    obtain ⟨g0, g1, g2, g3⟩ := cells4 hg
    clear hx hg ho hb HX HG HO HXB
    refine wp_region_held_drew (S := fun w' => w'.cell? ⟨w.heap.size + 1, 0, none⟩ = some (.int .i64 f) ∧ w'.cell? ⟨w.heap.size + 1, 1, none⟩ = some (.int .i64 r)) (by kernel_rfl) (by exact ⟨g0, g1⟩) (fun hHeld => ?_)
    refine wpAnyH_take (i := 0) (v := ?vs01) rfl (by kernel_rfl) (by kernel_rfl) (by kernel_rfl) (fun _ _ _ h => h) (Or.inl ⟨by rfl, ?hys01⟩) (by assumption) ?rests01
    case hys01 => (intro w hSw; (try dsimp only at hSw); go_simp; try with_reducible rfl)
    try simp only [List.getElem_toArray, List.getElem_cons_succ, List.getElem_cons_zero, Act.put, List.setIfInBounds_toArray, List.set_cons_zero, List.set_cons_succ]
    refine wpAnyH_take (i := 1) (v := ?vs02) rfl (by kernel_rfl) (by kernel_rfl) (by kernel_rfl) (fun _ _ _ h => h) (Or.inl ⟨by rfl, ?hys02⟩) (by assumption) ?rests02
    case hys02 => (intro w hSw; (try dsimp only at hSw); go_simp; try with_reducible rfl)
    try simp only [List.getElem_toArray, List.getElem_cons_succ, List.getElem_cons_zero, Act.put, List.setIfInBounds_toArray, List.set_cons_zero, List.set_cons_succ]
    refine wpAnyH_take (i := 2) (v := ?vs03) rfl (by kernel_rfl) (by kernel_rfl) (by kernel_rfl) (fun _ _ _ h => h) (Or.inl ⟨by rfl, ?hys03⟩) (by assumption) ?rests03
    case hys03 => (intro w hSw; (try dsimp only at hSw); go_simp; try with_reducible rfl)
    try simp only [List.getElem_toArray, List.getElem_cons_succ, List.getElem_cons_zero, Act.put, List.setIfInBounds_toArray, List.set_cons_zero, List.set_cons_succ]
    refine wpAnyH_take (i := 3) (v := ?vs04) rfl (by kernel_rfl) (by kernel_rfl) (by kernel_rfl) (fun _ _ _ h => h) (Or.inl ⟨by rfl, ?hys04⟩) (by assumption) ?rests04
    case hys04 => (intro w hSw; (try dsimp only at hSw); go_simp; try with_reducible rfl)
    try simp only [List.getElem_toArray, List.getElem_cons_succ, List.getElem_cons_zero, Act.put, List.setIfInBounds_toArray, List.set_cons_zero, List.set_cons_succ]
    refine wpAnyH_take (i := 4) (v := ?vs05) rfl (by kernel_rfl) (by kernel_rfl) (by kernel_rfl) (fun _ _ _ h => h) (Or.inl ⟨by rfl, ?hys05⟩) (by assumption) ?rests05
    case hys05 => (intro w hSw; (try dsimp only at hSw); go_simp; try with_reducible rfl)
    try simp only [List.getElem_toArray, List.getElem_cons_succ, List.getElem_cons_zero, Act.put, List.setIfInBounds_toArray, List.set_cons_zero, List.set_cons_succ]
    refine wpAnyH_take (i := 5) (v := ?vs06) rfl (by kernel_rfl) (by kernel_rfl) (by kernel_rfl) (fun _ _ _ h => h) (Or.inl ⟨by rfl, ?hys06⟩) (by assumption) ?rests06
    case hys06 => (intro w hSw; (try dsimp only at hSw); go_simp; try with_reducible rfl)
    try simp only [List.getElem_toArray, List.getElem_cons_succ, List.getElem_cons_zero, Act.put, List.setIfInBounds_toArray, List.set_cons_zero, List.set_cons_succ]
    refine wpAnyH_done (by kernel_rfl) ?_ _
    have HX2 := Go.Lib.hid HX1.out.drew
    clear g0 g1 g2 g3 hHeld
    have hc0 : W.drew.cell? ⟨w.heap.size, 0, none⟩ = some (.slice A x.f.length c) := HX2.out.at_ 0 _ rfl
    have hc1 : W.drew.cell? ⟨w.heap.size, 1, none⟩ = some (.slice B x.r.length d) := HX2.out.at_ 1 _ rfl
    have hc2 : W.drew.cell? ⟨w.heap.size, 2, none⟩ = some (.int .i64 x.n) := HX2.out.at_ 2 _ rfl
    have hc3 : W.drew.cell? ⟨w.heap.size, 3, none⟩ = some (.int .i64 lm) := HX2.out.at_ 3 _ rfl
    have HO3 := Go.Lib.hid HO1.out.drew
    have HB3 := Go.Lib.hid (show Below w.heap.size w W.drew from below_drewN HB1.out 1)
    have HT3 := Go.Lib.hid (HT.out.below HB3.out)
    clear HX1 HO1 HB1
    generalize W.drew = W1 at *
    go_wp2_with fail
    refine (H2.out _ HT3.out).mono ?_
    rintro _ w2 ⟨rfl, b2⟩
    have HO2 := Go.Lib.hid ((HO3.out.below b2).alloc (.cells #[.int .i64 ga, .int .i64 gb, .int .i64 gc, .int .i64 gd] 76))
    have HN2 := Go.Lib.hid (show Box (w2.alloc (.cells #[.int .i64 ga, .int .i64 gb, .int .i64 gc, .int .i64 gd] 76)) w2.heap.size (gC ga gb gc gd) from Box.new rfl rfl)
    have HB2 := Go.Lib.hid ((upB HB3.out b2).alloc (upB HB3.out b2).size (.cells #[.int .i64 ga, .int .i64 gb, .int .i64 gc, .int .i64 gd] 76))
    clear b2 hc0 hc1 hc2 hc3 HX2 HO3 HB3 HT3
    go_upto_region 12 with fail
    refine wp_gen (R := fun V => Box V (w.heap.size + 2) (gC 0 0 0 0) ∧ Box V w2.heap.size (gC ga gb gc gd) ∧ Below w.heap.size w V) ⟨HO2.out, HN2.out, HB2.out⟩ ?_
    rintro V ⟨ho, hn, hb⟩
    have HG3 := Go.Lib.hid ho
    have HB3 := Go.Lib.hid hb
    obtain ⟨n0, n1, n2, n3⟩ := cells4 hn
    clear ho hn hb HO2 HN2 HB2
    have hg0 : V.cell? ⟨w.heap.size + 2, 0, none⟩ = some (.int .i64 0) := HG3.out.at_ 0 _ rfl
    have hf0 := HG3.out.fr 0
    have hg1 : V.cell? ⟨w.heap.size + 2, 1, none⟩ = some (.int .i64 0) := HG3.out.at_ 1 _ rfl
    have hf1 := HG3.out.fr 1
    have hg2 : V.cell? ⟨w.heap.size + 2, 2, none⟩ = some (.int .i64 0) := HG3.out.at_ 2 _ rfl
    have hf2 := HG3.out.fr 2
    have hg3 : V.cell? ⟨w.heap.size + 2, 3, none⟩ = some (.int .i64 0) := HG3.out.at_ 3 _ rfl
    have hf3 := HG3.out.fr 3
    go_wp2_with fail
    have hk := put4_keep V (w.heap.size + 2) 0 ga gb gc gd
    have HE := Go.Lib.hid (HB3.out.trans (hk.below (Nat.le_add_right _ _) HB3.out.size))
    have HQ := Go.Lib.hid (put4_box (a2 := ga) (b2 := gb) (c2 := gc) (d2 := gd) HG3.out)
    change bodyPost _ _ _ _ _ (put4 V (w.heap.size + 2) 0 ga gb gc gd)
    generalize put4 V (w.heap.size + 2) 0 ga gb gc gd = WE at *
    obtain ⟨q0, q1, q2, q3⟩ := cells4 HQ.out
    clear hk hg0 hg1 hg2 hg3 hf0 hf1 hf2 hf3
    refine bodyPost_ret (v := .tuple #[gV ga gb gc gd, .bool bg]) (by simp [results, Try.results62, go_sem, gV, *]) rfl ⟨by rw [HV.out] <;> rfl, HE.out⟩
  · rw [show mvG (f, r) 1 = (f + 1, r) by simp [mvG]]
    have ew : IntKind.i64.wrap (f + 1) = f + 1 := IntWalk.i64_in _ (by omega)
    clear hfb hrb
    have H2 := Go.Lib.hid (fun w0 T0 => implGearAt x A c B d (f + 1) (r) w0 T0)
    obtain ⟨ga, gb, gc, gd, hv⟩ := gearAtV_form x (f + 1) (r)
    have HV := Go.Lib.hid (show gearAtV x (f + 1) (r) = gV ga gb gc gd from hv)
    rw [hv] at H2
    clear hv
    have hcz : (code9 x (f + 1) (r) == 0) = gearB x (f + 1) (r) := code9_zero HTB.out
    generalize code9 x (f + 1) (r) = cn at *
    generalize gearB x (f + 1) (r) = bg at *
    unfold trainV at *
    unfold shV
    unfold gV at H2
    unfold gV
    go_enter Try.func62, Try.ntmps62
    go_upto_region 1 with fail
    refine wp_gen (R := fun W => Box W w.heap.size (shC x A c B d lm) ∧ Box W (w.heap.size + 1) (gC f r p q) ∧ Box W (w.heap.size + 2) (gC 0 0 0 0) ∧ Below w.heap.size w W) ⟨HX.out, HG.out, HO.out, HXB.out⟩ ?_
    rintro W ⟨hx, hg, ho, hb⟩
    have HX1 := Go.Lib.hid hx
    have HO1 := Go.Lib.hid ho
    have HB1 := Go.Lib.hid hb
    obtain ⟨g0, g1, g2, g3⟩ := cells4 hg
    clear hx hg ho hb HX HG HO HXB
    refine wp_region_held_drew (S := fun w' => w'.cell? ⟨w.heap.size + 1, 0, none⟩ = some (.int .i64 f) ∧ w'.cell? ⟨w.heap.size + 1, 1, none⟩ = some (.int .i64 r)) (by kernel_rfl) (by exact ⟨g0, g1⟩) (fun hHeld => ?_)
    refine wpAnyH_take (i := 0) (v := ?vs11) rfl (by kernel_rfl) (by kernel_rfl) (by kernel_rfl) (fun _ _ _ h => h) (Or.inl ⟨by rfl, ?hys11⟩) (by assumption) ?rests11
    case hys11 => (intro w hSw; (try dsimp only at hSw); go_simp; try with_reducible rfl)
    try simp only [List.getElem_toArray, List.getElem_cons_succ, List.getElem_cons_zero, Act.put, List.setIfInBounds_toArray, List.set_cons_zero, List.set_cons_succ]
    refine wpAnyH_take (i := 1) (v := ?vs12) rfl (by kernel_rfl) (by kernel_rfl) (by kernel_rfl) (fun _ _ _ h => h) (Or.inl ⟨by rfl, ?hys12⟩) (by assumption) ?rests12
    case hys12 => (intro w hSw; (try dsimp only at hSw); go_simp; try with_reducible rfl)
    try simp only [List.getElem_toArray, List.getElem_cons_succ, List.getElem_cons_zero, Act.put, List.setIfInBounds_toArray, List.set_cons_zero, List.set_cons_succ]
    refine wpAnyH_take (i := 2) (v := ?vs13) rfl (by kernel_rfl) (by kernel_rfl) (by kernel_rfl) (fun _ _ _ h => h) (Or.inl ⟨by rfl, ?hys13⟩) (by assumption) ?rests13
    case hys13 => (intro w hSw; (try dsimp only at hSw); go_simp; try with_reducible rfl)
    try simp only [List.getElem_toArray, List.getElem_cons_succ, List.getElem_cons_zero, Act.put, List.setIfInBounds_toArray, List.set_cons_zero, List.set_cons_succ]
    refine wpAnyH_take (i := 3) (v := ?vs14) rfl (by kernel_rfl) (by kernel_rfl) (by kernel_rfl) (fun _ _ _ h => h) (Or.inl ⟨by rfl, ?hys14⟩) (by assumption) ?rests14
    case hys14 => (intro w hSw; (try dsimp only at hSw); go_simp; try with_reducible rfl)
    try simp only [List.getElem_toArray, List.getElem_cons_succ, List.getElem_cons_zero, Act.put, List.setIfInBounds_toArray, List.set_cons_zero, List.set_cons_succ]
    refine wpAnyH_take (i := 4) (v := ?vs15) rfl (by kernel_rfl) (by kernel_rfl) (by kernel_rfl) (fun _ _ _ h => h) (Or.inl ⟨by rfl, ?hys15⟩) (by assumption) ?rests15
    case hys15 => (intro w hSw; (try dsimp only at hSw); go_simp; try with_reducible rfl)
    try simp only [List.getElem_toArray, List.getElem_cons_succ, List.getElem_cons_zero, Act.put, List.setIfInBounds_toArray, List.set_cons_zero, List.set_cons_succ]
    refine wpAnyH_take (i := 5) (v := ?vs16) rfl (by kernel_rfl) (by kernel_rfl) (by kernel_rfl) (fun _ _ _ h => h) (Or.inl ⟨by rfl, ?hys16⟩) (by assumption) ?rests16
    case hys16 => (intro w hSw; (try dsimp only at hSw); go_simp; try with_reducible rfl)
    try simp only [List.getElem_toArray, List.getElem_cons_succ, List.getElem_cons_zero, Act.put, List.setIfInBounds_toArray, List.set_cons_zero, List.set_cons_succ]
    refine wpAnyH_done (by kernel_rfl) ?_ _
    have HX2 := Go.Lib.hid HX1.out.drew
    clear g0 g1 g2 g3 hHeld
    have hc0 : W.drew.cell? ⟨w.heap.size, 0, none⟩ = some (.slice A x.f.length c) := HX2.out.at_ 0 _ rfl
    have hc1 : W.drew.cell? ⟨w.heap.size, 1, none⟩ = some (.slice B x.r.length d) := HX2.out.at_ 1 _ rfl
    have hc2 : W.drew.cell? ⟨w.heap.size, 2, none⟩ = some (.int .i64 x.n) := HX2.out.at_ 2 _ rfl
    have hc3 : W.drew.cell? ⟨w.heap.size, 3, none⟩ = some (.int .i64 lm) := HX2.out.at_ 3 _ rfl
    have HO3 := Go.Lib.hid HO1.out.drew
    have HB3 := Go.Lib.hid (show Below w.heap.size w W.drew from below_drewN HB1.out 1)
    have HT3 := Go.Lib.hid (HT.out.below HB3.out)
    clear HX1 HO1 HB1
    generalize W.drew = W1 at *
    go_wp2_with fail
    refine (H2.out _ HT3.out).mono ?_
    rintro _ w2 ⟨rfl, b2⟩
    have HO2 := Go.Lib.hid ((HO3.out.below b2).alloc (.cells #[.int .i64 ga, .int .i64 gb, .int .i64 gc, .int .i64 gd] 76))
    have HN2 := Go.Lib.hid (show Box (w2.alloc (.cells #[.int .i64 ga, .int .i64 gb, .int .i64 gc, .int .i64 gd] 76)) w2.heap.size (gC ga gb gc gd) from Box.new rfl rfl)
    have HB2 := Go.Lib.hid ((upB HB3.out b2).alloc (upB HB3.out b2).size (.cells #[.int .i64 ga, .int .i64 gb, .int .i64 gc, .int .i64 gd] 76))
    clear b2 hc0 hc1 hc2 hc3 HX2 HO3 HB3 HT3
    go_upto_region 12 with fail
    refine wp_gen (R := fun V => Box V (w.heap.size + 2) (gC 0 0 0 0) ∧ Box V w2.heap.size (gC ga gb gc gd) ∧ Below w.heap.size w V) ⟨HO2.out, HN2.out, HB2.out⟩ ?_
    rintro V ⟨ho, hn, hb⟩
    have HG3 := Go.Lib.hid ho
    have HB3 := Go.Lib.hid hb
    obtain ⟨n0, n1, n2, n3⟩ := cells4 hn
    clear ho hn hb HO2 HN2 HB2
    have hg0 : V.cell? ⟨w.heap.size + 2, 0, none⟩ = some (.int .i64 0) := HG3.out.at_ 0 _ rfl
    have hf0 := HG3.out.fr 0
    have hg1 : V.cell? ⟨w.heap.size + 2, 1, none⟩ = some (.int .i64 0) := HG3.out.at_ 1 _ rfl
    have hf1 := HG3.out.fr 1
    have hg2 : V.cell? ⟨w.heap.size + 2, 2, none⟩ = some (.int .i64 0) := HG3.out.at_ 2 _ rfl
    have hf2 := HG3.out.fr 2
    have hg3 : V.cell? ⟨w.heap.size + 2, 3, none⟩ = some (.int .i64 0) := HG3.out.at_ 3 _ rfl
    have hf3 := HG3.out.fr 3
    go_wp2_with fail
    have hk := put4_keep V (w.heap.size + 2) 0 ga gb gc gd
    have HE := Go.Lib.hid (HB3.out.trans (hk.below (Nat.le_add_right _ _) HB3.out.size))
    have HQ := Go.Lib.hid (put4_box (a2 := ga) (b2 := gb) (c2 := gc) (d2 := gd) HG3.out)
    change bodyPost _ _ _ _ _ (put4 V (w.heap.size + 2) 0 ga gb gc gd)
    generalize put4 V (w.heap.size + 2) 0 ga gb gc gd = WE at *
    obtain ⟨q0, q1, q2, q3⟩ := cells4 HQ.out
    clear hk hg0 hg1 hg2 hg3 hf0 hf1 hf2 hf3
    refine bodyPost_ret (v := .tuple #[gV ga gb gc gd, .bool bg]) (by simp [results, Try.results62, go_sem, gV, *]) rfl ⟨by rw [HV.out] <;> rfl, HE.out⟩
  · rw [show mvG (f, r) 2 = (f, r - 1) by simp [mvG]; omega]
    have ew : IntKind.i64.wrap (r - 1) = r - 1 := IntWalk.i64_in _ (by omega)
    clear hfb hrb
    have H2 := Go.Lib.hid (fun w0 T0 => implGearAt x A c B d (f) (r - 1) w0 T0)
    obtain ⟨ga, gb, gc, gd, hv⟩ := gearAtV_form x (f) (r - 1)
    have HV := Go.Lib.hid (show gearAtV x (f) (r - 1) = gV ga gb gc gd from hv)
    rw [hv] at H2
    clear hv
    have hcz : (code9 x (f) (r - 1) == 0) = gearB x (f) (r - 1) := code9_zero HTB.out
    generalize code9 x (f) (r - 1) = cn at *
    generalize gearB x (f) (r - 1) = bg at *
    unfold trainV at *
    unfold shV
    unfold gV at H2
    unfold gV
    go_enter Try.func62, Try.ntmps62
    go_upto_region 1 with fail
    refine wp_gen (R := fun W => Box W w.heap.size (shC x A c B d lm) ∧ Box W (w.heap.size + 1) (gC f r p q) ∧ Box W (w.heap.size + 2) (gC 0 0 0 0) ∧ Below w.heap.size w W) ⟨HX.out, HG.out, HO.out, HXB.out⟩ ?_
    rintro W ⟨hx, hg, ho, hb⟩
    have HX1 := Go.Lib.hid hx
    have HO1 := Go.Lib.hid ho
    have HB1 := Go.Lib.hid hb
    obtain ⟨g0, g1, g2, g3⟩ := cells4 hg
    clear hx hg ho hb HX HG HO HXB
    refine wp_region_held_drew (S := fun w' => w'.cell? ⟨w.heap.size + 1, 0, none⟩ = some (.int .i64 f) ∧ w'.cell? ⟨w.heap.size + 1, 1, none⟩ = some (.int .i64 r)) (by kernel_rfl) (by exact ⟨g0, g1⟩) (fun hHeld => ?_)
    refine wpAnyH_take (i := 0) (v := ?vs21) rfl (by kernel_rfl) (by kernel_rfl) (by kernel_rfl) (fun _ _ _ h => h) (Or.inl ⟨by rfl, ?hys21⟩) (by assumption) ?rests21
    case hys21 => (intro w hSw; (try dsimp only at hSw); go_simp; try with_reducible rfl)
    try simp only [List.getElem_toArray, List.getElem_cons_succ, List.getElem_cons_zero, Act.put, List.setIfInBounds_toArray, List.set_cons_zero, List.set_cons_succ]
    refine wpAnyH_take (i := 1) (v := ?vs22) rfl (by kernel_rfl) (by kernel_rfl) (by kernel_rfl) (fun _ _ _ h => h) (Or.inl ⟨by rfl, ?hys22⟩) (by assumption) ?rests22
    case hys22 => (intro w hSw; (try dsimp only at hSw); go_simp; try with_reducible rfl)
    try simp only [List.getElem_toArray, List.getElem_cons_succ, List.getElem_cons_zero, Act.put, List.setIfInBounds_toArray, List.set_cons_zero, List.set_cons_succ]
    refine wpAnyH_take (i := 2) (v := ?vs23) rfl (by kernel_rfl) (by kernel_rfl) (by kernel_rfl) (fun _ _ _ h => h) (Or.inl ⟨by rfl, ?hys23⟩) (by assumption) ?rests23
    case hys23 => (intro w hSw; (try dsimp only at hSw); go_simp; try with_reducible rfl)
    try simp only [List.getElem_toArray, List.getElem_cons_succ, List.getElem_cons_zero, Act.put, List.setIfInBounds_toArray, List.set_cons_zero, List.set_cons_succ]
    refine wpAnyH_take (i := 3) (v := ?vs24) rfl (by kernel_rfl) (by kernel_rfl) (by kernel_rfl) (fun _ _ _ h => h) (Or.inl ⟨by rfl, ?hys24⟩) (by assumption) ?rests24
    case hys24 => (intro w hSw; (try dsimp only at hSw); go_simp; try with_reducible rfl)
    try simp only [List.getElem_toArray, List.getElem_cons_succ, List.getElem_cons_zero, Act.put, List.setIfInBounds_toArray, List.set_cons_zero, List.set_cons_succ]
    refine wpAnyH_take (i := 4) (v := ?vs25) rfl (by kernel_rfl) (by kernel_rfl) (by kernel_rfl) (fun _ _ _ h => h) (Or.inl ⟨by rfl, ?hys25⟩) (by assumption) ?rests25
    case hys25 => (intro w hSw; (try dsimp only at hSw); go_simp; try with_reducible rfl)
    try simp only [List.getElem_toArray, List.getElem_cons_succ, List.getElem_cons_zero, Act.put, List.setIfInBounds_toArray, List.set_cons_zero, List.set_cons_succ]
    refine wpAnyH_take (i := 5) (v := ?vs26) rfl (by kernel_rfl) (by kernel_rfl) (by kernel_rfl) (fun _ _ _ h => h) (Or.inl ⟨by rfl, ?hys26⟩) (by assumption) ?rests26
    case hys26 => (intro w hSw; (try dsimp only at hSw); go_simp; try with_reducible rfl)
    try simp only [List.getElem_toArray, List.getElem_cons_succ, List.getElem_cons_zero, Act.put, List.setIfInBounds_toArray, List.set_cons_zero, List.set_cons_succ]
    refine wpAnyH_done (by kernel_rfl) ?_ _
    have HX2 := Go.Lib.hid HX1.out.drew
    clear g0 g1 g2 g3 hHeld
    have hc0 : W.drew.cell? ⟨w.heap.size, 0, none⟩ = some (.slice A x.f.length c) := HX2.out.at_ 0 _ rfl
    have hc1 : W.drew.cell? ⟨w.heap.size, 1, none⟩ = some (.slice B x.r.length d) := HX2.out.at_ 1 _ rfl
    have hc2 : W.drew.cell? ⟨w.heap.size, 2, none⟩ = some (.int .i64 x.n) := HX2.out.at_ 2 _ rfl
    have hc3 : W.drew.cell? ⟨w.heap.size, 3, none⟩ = some (.int .i64 lm) := HX2.out.at_ 3 _ rfl
    have HO3 := Go.Lib.hid HO1.out.drew
    have HB3 := Go.Lib.hid (show Below w.heap.size w W.drew from below_drewN HB1.out 1)
    have HT3 := Go.Lib.hid (HT.out.below HB3.out)
    clear HX1 HO1 HB1
    generalize W.drew = W1 at *
    go_wp2_with fail
    refine (H2.out _ HT3.out).mono ?_
    rintro _ w2 ⟨rfl, b2⟩
    have HO2 := Go.Lib.hid ((HO3.out.below b2).alloc (.cells #[.int .i64 ga, .int .i64 gb, .int .i64 gc, .int .i64 gd] 76))
    have HN2 := Go.Lib.hid (show Box (w2.alloc (.cells #[.int .i64 ga, .int .i64 gb, .int .i64 gc, .int .i64 gd] 76)) w2.heap.size (gC ga gb gc gd) from Box.new rfl rfl)
    have HB2 := Go.Lib.hid ((upB HB3.out b2).alloc (upB HB3.out b2).size (.cells #[.int .i64 ga, .int .i64 gb, .int .i64 gc, .int .i64 gd] 76))
    clear b2 hc0 hc1 hc2 hc3 HX2 HO3 HB3 HT3
    go_upto_region 12 with fail
    refine wp_gen (R := fun V => Box V (w.heap.size + 2) (gC 0 0 0 0) ∧ Box V w2.heap.size (gC ga gb gc gd) ∧ Below w.heap.size w V) ⟨HO2.out, HN2.out, HB2.out⟩ ?_
    rintro V ⟨ho, hn, hb⟩
    have HG3 := Go.Lib.hid ho
    have HB3 := Go.Lib.hid hb
    obtain ⟨n0, n1, n2, n3⟩ := cells4 hn
    clear ho hn hb HO2 HN2 HB2
    have hg0 : V.cell? ⟨w.heap.size + 2, 0, none⟩ = some (.int .i64 0) := HG3.out.at_ 0 _ rfl
    have hf0 := HG3.out.fr 0
    have hg1 : V.cell? ⟨w.heap.size + 2, 1, none⟩ = some (.int .i64 0) := HG3.out.at_ 1 _ rfl
    have hf1 := HG3.out.fr 1
    have hg2 : V.cell? ⟨w.heap.size + 2, 2, none⟩ = some (.int .i64 0) := HG3.out.at_ 2 _ rfl
    have hf2 := HG3.out.fr 2
    have hg3 : V.cell? ⟨w.heap.size + 2, 3, none⟩ = some (.int .i64 0) := HG3.out.at_ 3 _ rfl
    have hf3 := HG3.out.fr 3
    go_wp2_with fail
    have hk := put4_keep V (w.heap.size + 2) 0 ga gb gc gd
    have HE := Go.Lib.hid (HB3.out.trans (hk.below (Nat.le_add_right _ _) HB3.out.size))
    have HQ := Go.Lib.hid (put4_box (a2 := ga) (b2 := gb) (c2 := gc) (d2 := gd) HG3.out)
    change bodyPost _ _ _ _ _ (put4 V (w.heap.size + 2) 0 ga gb gc gd)
    generalize put4 V (w.heap.size + 2) 0 ga gb gc gd = WE at *
    obtain ⟨q0, q1, q2, q3⟩ := cells4 HQ.out
    clear hk hg0 hg1 hg2 hg3 hf0 hf1 hf2 hf3
    refine bodyPost_ret (v := .tuple #[gV ga gb gc gd, .bool bg]) (by simp [results, Try.results62, go_sem, gV, *]) rfl ⟨by rw [HV.out] <;> rfl, HE.out⟩
  · rw [show mvG (f, r) 3 = (f, r + 1) by simp [mvG]]
    have ew : IntKind.i64.wrap (r + 1) = r + 1 := IntWalk.i64_in _ (by omega)
    clear hfb hrb
    have H2 := Go.Lib.hid (fun w0 T0 => implGearAt x A c B d (f) (r + 1) w0 T0)
    obtain ⟨ga, gb, gc, gd, hv⟩ := gearAtV_form x (f) (r + 1)
    have HV := Go.Lib.hid (show gearAtV x (f) (r + 1) = gV ga gb gc gd from hv)
    rw [hv] at H2
    clear hv
    have hcz : (code9 x (f) (r + 1) == 0) = gearB x (f) (r + 1) := code9_zero HTB.out
    generalize code9 x (f) (r + 1) = cn at *
    generalize gearB x (f) (r + 1) = bg at *
    unfold trainV at *
    unfold shV
    unfold gV at H2
    unfold gV
    go_enter Try.func62, Try.ntmps62
    go_upto_region 1 with fail
    refine wp_gen (R := fun W => Box W w.heap.size (shC x A c B d lm) ∧ Box W (w.heap.size + 1) (gC f r p q) ∧ Box W (w.heap.size + 2) (gC 0 0 0 0) ∧ Below w.heap.size w W) ⟨HX.out, HG.out, HO.out, HXB.out⟩ ?_
    rintro W ⟨hx, hg, ho, hb⟩
    have HX1 := Go.Lib.hid hx
    have HO1 := Go.Lib.hid ho
    have HB1 := Go.Lib.hid hb
    obtain ⟨g0, g1, g2, g3⟩ := cells4 hg
    clear hx hg ho hb HX HG HO HXB
    refine wp_region_held_drew (S := fun w' => w'.cell? ⟨w.heap.size + 1, 0, none⟩ = some (.int .i64 f) ∧ w'.cell? ⟨w.heap.size + 1, 1, none⟩ = some (.int .i64 r)) (by kernel_rfl) (by exact ⟨g0, g1⟩) (fun hHeld => ?_)
    refine wpAnyH_take (i := 0) (v := ?vs31) rfl (by kernel_rfl) (by kernel_rfl) (by kernel_rfl) (fun _ _ _ h => h) (Or.inl ⟨by rfl, ?hys31⟩) (by assumption) ?rests31
    case hys31 => (intro w hSw; (try dsimp only at hSw); go_simp; try with_reducible rfl)
    try simp only [List.getElem_toArray, List.getElem_cons_succ, List.getElem_cons_zero, Act.put, List.setIfInBounds_toArray, List.set_cons_zero, List.set_cons_succ]
    refine wpAnyH_take (i := 1) (v := ?vs32) rfl (by kernel_rfl) (by kernel_rfl) (by kernel_rfl) (fun _ _ _ h => h) (Or.inl ⟨by rfl, ?hys32⟩) (by assumption) ?rests32
    case hys32 => (intro w hSw; (try dsimp only at hSw); go_simp; try with_reducible rfl)
    try simp only [List.getElem_toArray, List.getElem_cons_succ, List.getElem_cons_zero, Act.put, List.setIfInBounds_toArray, List.set_cons_zero, List.set_cons_succ]
    refine wpAnyH_take (i := 2) (v := ?vs33) rfl (by kernel_rfl) (by kernel_rfl) (by kernel_rfl) (fun _ _ _ h => h) (Or.inl ⟨by rfl, ?hys33⟩) (by assumption) ?rests33
    case hys33 => (intro w hSw; (try dsimp only at hSw); go_simp; try with_reducible rfl)
    try simp only [List.getElem_toArray, List.getElem_cons_succ, List.getElem_cons_zero, Act.put, List.setIfInBounds_toArray, List.set_cons_zero, List.set_cons_succ]
    refine wpAnyH_take (i := 3) (v := ?vs34) rfl (by kernel_rfl) (by kernel_rfl) (by kernel_rfl) (fun _ _ _ h => h) (Or.inl ⟨by rfl, ?hys34⟩) (by assumption) ?rests34
    case hys34 => (intro w hSw; (try dsimp only at hSw); go_simp; try with_reducible rfl)
    try simp only [List.getElem_toArray, List.getElem_cons_succ, List.getElem_cons_zero, Act.put, List.setIfInBounds_toArray, List.set_cons_zero, List.set_cons_succ]
    refine wpAnyH_take (i := 4) (v := ?vs35) rfl (by kernel_rfl) (by kernel_rfl) (by kernel_rfl) (fun _ _ _ h => h) (Or.inl ⟨by rfl, ?hys35⟩) (by assumption) ?rests35
    case hys35 => (intro w hSw; (try dsimp only at hSw); go_simp; try with_reducible rfl)
    try simp only [List.getElem_toArray, List.getElem_cons_succ, List.getElem_cons_zero, Act.put, List.setIfInBounds_toArray, List.set_cons_zero, List.set_cons_succ]
    refine wpAnyH_take (i := 5) (v := ?vs36) rfl (by kernel_rfl) (by kernel_rfl) (by kernel_rfl) (fun _ _ _ h => h) (Or.inl ⟨by rfl, ?hys36⟩) (by assumption) ?rests36
    case hys36 => (intro w hSw; (try dsimp only at hSw); go_simp; try with_reducible rfl)
    try simp only [List.getElem_toArray, List.getElem_cons_succ, List.getElem_cons_zero, Act.put, List.setIfInBounds_toArray, List.set_cons_zero, List.set_cons_succ]
    refine wpAnyH_done (by kernel_rfl) ?_ _
    have HX2 := Go.Lib.hid HX1.out.drew
    clear g0 g1 g2 g3 hHeld
    have hc0 : W.drew.cell? ⟨w.heap.size, 0, none⟩ = some (.slice A x.f.length c) := HX2.out.at_ 0 _ rfl
    have hc1 : W.drew.cell? ⟨w.heap.size, 1, none⟩ = some (.slice B x.r.length d) := HX2.out.at_ 1 _ rfl
    have hc2 : W.drew.cell? ⟨w.heap.size, 2, none⟩ = some (.int .i64 x.n) := HX2.out.at_ 2 _ rfl
    have hc3 : W.drew.cell? ⟨w.heap.size, 3, none⟩ = some (.int .i64 lm) := HX2.out.at_ 3 _ rfl
    have HO3 := Go.Lib.hid HO1.out.drew
    have HB3 := Go.Lib.hid (show Below w.heap.size w W.drew from below_drewN HB1.out 1)
    have HT3 := Go.Lib.hid (HT.out.below HB3.out)
    clear HX1 HO1 HB1
    generalize W.drew = W1 at *
    go_wp2_with fail
    refine (H2.out _ HT3.out).mono ?_
    rintro _ w2 ⟨rfl, b2⟩
    have HO2 := Go.Lib.hid ((HO3.out.below b2).alloc (.cells #[.int .i64 ga, .int .i64 gb, .int .i64 gc, .int .i64 gd] 76))
    have HN2 := Go.Lib.hid (show Box (w2.alloc (.cells #[.int .i64 ga, .int .i64 gb, .int .i64 gc, .int .i64 gd] 76)) w2.heap.size (gC ga gb gc gd) from Box.new rfl rfl)
    have HB2 := Go.Lib.hid ((upB HB3.out b2).alloc (upB HB3.out b2).size (.cells #[.int .i64 ga, .int .i64 gb, .int .i64 gc, .int .i64 gd] 76))
    clear b2 hc0 hc1 hc2 hc3 HX2 HO3 HB3 HT3
    go_upto_region 12 with fail
    refine wp_gen (R := fun V => Box V (w.heap.size + 2) (gC 0 0 0 0) ∧ Box V w2.heap.size (gC ga gb gc gd) ∧ Below w.heap.size w V) ⟨HO2.out, HN2.out, HB2.out⟩ ?_
    rintro V ⟨ho, hn, hb⟩
    have HG3 := Go.Lib.hid ho
    have HB3 := Go.Lib.hid hb
    obtain ⟨n0, n1, n2, n3⟩ := cells4 hn
    clear ho hn hb HO2 HN2 HB2
    have hg0 : V.cell? ⟨w.heap.size + 2, 0, none⟩ = some (.int .i64 0) := HG3.out.at_ 0 _ rfl
    have hf0 := HG3.out.fr 0
    have hg1 : V.cell? ⟨w.heap.size + 2, 1, none⟩ = some (.int .i64 0) := HG3.out.at_ 1 _ rfl
    have hf1 := HG3.out.fr 1
    have hg2 : V.cell? ⟨w.heap.size + 2, 2, none⟩ = some (.int .i64 0) := HG3.out.at_ 2 _ rfl
    have hf2 := HG3.out.fr 2
    have hg3 : V.cell? ⟨w.heap.size + 2, 3, none⟩ = some (.int .i64 0) := HG3.out.at_ 3 _ rfl
    have hf3 := HG3.out.fr 3
    go_wp2_with fail
    have hk := put4_keep V (w.heap.size + 2) 0 ga gb gc gd
    have HE := Go.Lib.hid (HB3.out.trans (hk.below (Nat.le_add_right _ _) HB3.out.size))
    have HQ := Go.Lib.hid (put4_box (a2 := ga) (b2 := gb) (c2 := gc) (d2 := gd) HG3.out)
    change bodyPost _ _ _ _ _ (put4 V (w.heap.size + 2) 0 ga gb gc gd)
    generalize put4 V (w.heap.size + 2) 0 ga gb gc gd = WE at *
    obtain ⟨q0, q1, q2, q3⟩ := cells4 HQ.out
    clear hk hg0 hg1 hg2 hg3 hf0 hf1 hf2 hf3
    refine bodyPost_ret (v := .tuple #[gV ga gb gc gd, .bool bg]) (by simp [results, Try.results62, go_sem, gV, *]) rfl ⟨by rw [HV.out] <;> rfl, HE.out⟩
end Go.Proofs.Ythedanpldebjcaa
