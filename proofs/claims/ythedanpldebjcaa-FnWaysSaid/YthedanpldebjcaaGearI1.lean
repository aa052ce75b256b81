/- The program: rising lists, drive trains, one gear. -/
import Derived.Test.YthedanpldebjcaaGearS1
import Derived.Test.YthedanpldebjcaaPlainGear3
import Derived.Test.YthedanpldebjcaaSumOf
namespace Go.Proofs.Ythedanpldebjcaa
open Go.RowKit
set_option linter.unusedSimpArgs false
set_option linter.unusedVariables false

set_option maxRecDepth 100000 in
set_option maxHeartbeats 4000000 in
theorem implRising (A : Option Addr) (c : Nat) (zs : List Int) (lo hi : Int) (w : World) (L : Ls zs A c w) :
    Calls Try.prog 102 #[.slice A zs.length c, .int .i64 lo, .int .i64 hi] w (Just (.bool (okTo lo hi zs zs.length)) w) := by
  have HL := Go.Lib.hid L
  have hn := L.few
  clear L
  go_enter Try.func102, Try.ntmps102
  go_wp2_with fail
  go_loopw [11] (fun i wr => ∃ k : Nat, k ≤ zs.length ∧ i = .int .i64 k ∧ wr = w ∧ okTo lo hi zs k = true) (fun i _ => zs.length - (intOf i).toNat)
  case atStart => exact ⟨0, Nat.zero_le _, rfl, rfl, rfl⟩
  case round =>
    obtain ⟨k, hk, rfl, rfl, he⟩ := hrel
    have HE := Go.Lib.hid he
    clear he
    by_cases hlt : k < zs.length
    case neg =>
      obtain rfl : k = zs.length := by omega
      go_wp2_with fail
      go_ret
      exact ⟨by rw [HE.out]; rfl, rfl⟩
    case pos =>
      obtain ⟨b, o, rfl, -, hc⟩ := HL.out.at_ hlt
      have hcell := hc k hlt
      have hkl : (k : Int) < zs.length := by omega
      have HO := Go.Lib.hid (okTo_succ lo hi zs k)
      have HMI := Go.Lib.hid (fun (h : okAt lo hi zs k = false) => show okTo lo hi zs zs.length = false from okTo_miss h hlt)
      have hI := implInR (zs.getD k 0) lo hi wr
      by_cases hin : lo ≤ zs.getD k 0 ∧ zs.getD k 0 ≤ hi
      case neg =>
        have HF := Go.Lib.hid (HMI.out (by unfold okAt; rw [show (decide (lo ≤ zs.getD k 0) && decide (zs.getD k 0 ≤ hi)) = false by rw [← Bool.not_eq_true]; simpa using hin]; rfl))
        rw [show inB (zs.getD k 0) lo hi = false by rw [← Bool.not_eq_true, inB_iff]; exact hin] at hI
        have HI := Go.Lib.hid hI
        rw [HF.out]
        clear hc hin hI HO HMI HE HF
        generalize zs.getD k 0 = y at *
        go_wp2_with fail
        refine HI.out.mono ?_
        rintro _ _ ⟨rfl, rfl⟩
        go_wp2_with fail
        go_ret
        exact ⟨rfl, rfl⟩
      case pos =>
        rw [inB_iff.2 hin] at hI
        have HI := Go.Lib.hid hI
        have hinb : (decide (lo ≤ zs.getD k 0) && decide (zs.getD k 0 ≤ hi)) = true := by simpa using hin
        by_cases h0 : k = 0
        case pos =>
          have HS := Go.Lib.hid (show okTo lo hi zs (k + 1) = true by rw [HO.out, HE.out, Bool.true_and]; unfold okAt; rw [hinb, decide_eq_true h0]; rfl)
          subst h0
          clear hc hin hI HO HMI HE hinb
          rw [Nat.add_zero] at hcell
          generalize zs.getD 0 0 = y at *
          go_wp2_with fail
          refine HI.out.mono ?_
          rintro _ _ ⟨rfl, rfl⟩
          go_wp2_with fail
          go_roundw
          case rel => exact ⟨0 + 1, by omega, by go_num, by first | rfl | trivial, HS.out⟩
          case measure => simp [intOf]; omega
        case neg =>
          have hcell2 := hc (k - 1) (by omega)
          have hk0 : (0 : Int) < k := by omega
          have ek : IntKind.i64.wrap ((k : Int) - 1) = ((k - 1 : Nat) : Int) := (IntWalk.i64_in _ (by omega)).trans (by omega)
          have i2 : (0 : Int) ≤ ((k - 1 : Nat) : Int) := by omega
          have i3 : ((k - 1 : Nat) : Int) < (zs.length : Int) := by omega
          have hok : okAt lo hi zs k = decide (zs.getD (k - 1) 0 < zs.getD k 0) := by unfold okAt; rw [hinb, decide_eq_false h0]; simp
          by_cases hup : zs.getD (k - 1) 0 < zs.getD k 0
          case pos =>
            have HS := Go.Lib.hid (show okTo lo hi zs (k + 1) = true by rw [HO.out, HE.out, Bool.true_and, hok]; exact decide_eq_true hup)
            have hng : ¬ zs.getD k 0 ≤ zs.getD (k - 1) 0 := by omega
            clear hc hin hI HO HMI HE hinb hok hup
            generalize zs.getD k 0 = y at *
            generalize zs.getD (k - 1) 0 = z at *
            go_wp2_with fail
            refine HI.out.mono ?_
            rintro _ _ ⟨rfl, rfl⟩
            go_wp2_with fail
            go_roundw
            case rel => exact ⟨k + 1, by omega, by go_num, by first | rfl | trivial, HS.out⟩
            case measure => simp [intOf]; omega
          case neg =>
            have HF := Go.Lib.hid (HMI.out (by rw [hok]; exact decide_eq_false hup))
            have hge : zs.getD k 0 ≤ zs.getD (k - 1) 0 := by omega
            rw [HF.out]
            clear hc hin hI HO HMI HE hinb hok hup HF
            generalize zs.getD k 0 = y at *
            generalize zs.getD (k - 1) 0 = z at *
            go_wp2_with fail
            refine HI.out.mono ?_
            rintro _ _ ⟨rfl, rfl⟩
            go_wp2_with fail
            go_ret
            exact ⟨rfl, rfl⟩
set_option maxRecDepth 100000 in
set_option maxHeartbeats 4000000 in
theorem implTeeth (A : Option Addr) (c : Nat) (zs : List Int) (most lo hi : Int) (w : World) (L : Ls zs A c w) :
    Calls Try.prog 95 #[.slice A zs.length c, .int .i64 most, .int .i64 lo, .int .i64 hi] w (Just (.bool (teethB lo hi most zs)) w) := by
  have HR := Go.Lib.hid (implRising A c zs lo hi w L)
  have hn := L.few
  clear L
  have HV := Go.Lib.hid (show teethB lo hi most zs = (okTo lo hi zs zs.length && (decide (1 ≤ (zs.length : Int)) && decide ((zs.length : Int) ≤ most))) from rfl)
  generalize okTo lo hi zs zs.length = r at *
  by_cases h1 : 1 ≤ (zs.length : Int)
  case neg =>
    rw [decide_eq_false h1, Bool.false_and, Bool.and_false] at HV
    rw [HV.out]
    go_enter Try.func95, Try.ntmps95
    go_wp2_with fail
    go_ret
    exact ⟨rfl, rfl⟩
  case pos =>
    rw [decide_eq_true h1, Bool.true_and] at HV
    by_cases h2 : (zs.length : Int) ≤ most
    case neg =>
      rw [decide_eq_false h2, Bool.and_false] at HV
      rw [HV.out]
      go_enter Try.func95, Try.ntmps95
      go_wp2_with fail
      go_ret
      exact ⟨rfl, rfl⟩
    case pos =>
      rw [decide_eq_true h2, Bool.and_true] at HV
      rw [HV.out]
      go_enter Try.func95, Try.ntmps95
      go_wp2_with fail
      refine HR.out.mono ?_
      rintro _ _ ⟨rfl, rfl⟩
      go_wp2_with fail
      go_ret
      exact ⟨rfl, rfl⟩
set_option maxRecDepth 100000 in
set_option maxHeartbeats 4000000 in
theorem implTrain (x : Trn) (A : Option Addr) (c : Nat) (B : Option Addr) (d : Nat) (w : World) (T : TrL x A c B d w) :
    Calls Try.prog 86 #[trainV x A c B d] w (IsV w (.bool (trainB x))) := by
  have HT := Go.Lib.hid T
  have HX := Go.Lib.hid (boxT_box x A c B d w)
  have HXB := Go.Lib.hid (boxT_below x A c B d w)
  clear T
  have H1 := Go.Lib.hid (fun w0 L0 => implTeeth A c x.f 3 20 60 w0 L0)
  have H2 := Go.Lib.hid (fun w0 L0 => implTeeth B d x.r 12 9 52 w0 L0)
  have H3 := Go.Lib.hid (fun w0 => implInR x.n 1000 2500 w0)
  have HV := Go.Lib.hid (show trainB x = ((teethB 20 60 3 x.f && teethB 9 52 12 x.r) && inB x.n 1000 2500) from rfl)
  generalize teethB 20 60 3 x.f = tf at *
  generalize teethB 9 52 12 x.r = tr at *
  generalize inB x.n 1000 2500 = tn at *
  unfold trainV
  go_enter Try.func86, Try.ntmps86
  go_upto_region 1 with fail
  refine wp_gen (R := fun W => Box W w.heap.size (trainC x A c B d) ∧ Below w.heap.size w W) ⟨HX.out, HXB.out⟩ ?_
  rintro W ⟨hx, hb⟩
  have HX1 := Go.Lib.hid hx
  have HB1 := Go.Lib.hid hb
  have HT1 := Go.Lib.hid (HT.out.below hb)
  clear hx hb HX HXB
  have hc0 : W.cell? ⟨w.heap.size, 0, none⟩ = some (.slice A x.f.length c) := HX1.out.at_ 0 _ rfl
  cases tf
  case false =>
    go_wp2_with fail
    refine (H1.out _ HT1.out.f).mono ?_
    rintro _ _ ⟨rfl, rfl⟩
    go_wp2_with fail
    go_ret
    exact ⟨by rw [HV.out]; rfl, HB1.out⟩
  case true =>
    go_wp2_with fail
    refine (H1.out _ HT1.out.f).mono ?_
    rintro _ _ ⟨rfl, rfl⟩
    have hc1 : W.cell? ⟨w.heap.size, 1, none⟩ = some (.slice B x.r.length d) := HX1.out.at_ 1 _ rfl
    clear hc0
    cases tr
    case false =>
      go_wp2_with fail
      refine (H2.out _ HT1.out.r).mono ?_
      rintro _ _ ⟨rfl, rfl⟩
      go_wp2_with fail
      go_ret
      exact ⟨by rw [HV.out]; rfl, HB1.out⟩
    case true =>
      go_wp2_with fail
      refine (H2.out _ HT1.out.r).mono ?_
      rintro _ _ ⟨rfl, rfl⟩
      have hc2 : W.cell? ⟨w.heap.size, 2, none⟩ = some (.int .i64 x.n) := HX1.out.at_ 2 _ rfl
      clear hc1
      go_wp2_with fail
      refine (H3.out _).mono ?_
      rintro _ _ ⟨rfl, rfl⟩
      go_wp2_with fail
      go_ret
      exact ⟨by rw [HV.out]; rfl, HB1.out⟩
set_option maxRecDepth 100000 in
set_option maxHeartbeats 4000000 in
theorem implPlace (n k : Int) (w : World) (h0 : -1000000 ≤ n) (h1 : n ≤ 1000000000) :
    Calls Try.prog 84 #[.int .i64 n, .int .i64 k] w (Just (.bool (inB k 0 (n - 1))) w) := by
  have HR := Go.Lib.hid (implInR k 0 (n - 1) w)
  have e1 : IntKind.i64.wrap (n - 1) = n - 1 := IntWalk.i64_in _ (by omega)
  clear h0 h1
  go_enter Try.func84, Try.ntmps84
  go_wp2_with fail
  refine HR.out.mono ?_
  rintro _ _ ⟨rfl, rfl⟩
  go_wp2_with fail
  go_ret
  exact ⟨rfl, rfl⟩
/-- A gear by value: two indices, two numbers of teeth. -/
def gV (a b c d : Int) : Value := .agg #[.int .i64 a, .int .i64 b, .int .i64 c, .int .i64 d]
def gC (a b c d : Int) : List Value := [.int .i64 a, .int .i64 b, .int .i64 c, .int .i64 d]
theorem gbox (a b c d : Int) (w : World) : Box (w.alloc (.cells #[.int .i64 a, .int .i64 b, .int .i64 c, .int .i64 d] 76)) w.heap.size (gC a b c d) := Box.new rfl rfl
theorem gbelow (a b c d : Int) (w : World) : Below w.heap.size w (w.alloc (.cells #[.int .i64 a, .int .i64 b, .int .i64 c, .int .i64 d] 76)) := (Below.refl _ _).alloc (Nat.le_refl _) _
set_option maxRecDepth 100000 in
set_option maxHeartbeats 4000000 in
theorem implIndices (a b c d : Int) (w : World) :
    Calls Try.prog 67 #[gV a b c d] w (fun e w' => ∃ q, e = .returned (.slice (some ⟨q, 0, none⟩) 2 2) ∧ Box w' q (ints [a, b]) ∧ w.heap.size ≤ q ∧ Below w.heap.size w w') := by
  have HX0 := Go.Lib.hid (gbox a b c d w)
  have HB0 := Go.Lib.hid (gbelow a b c d w)
  unfold gV
  go_enter Try.func67, Try.ntmps67
  go_upto_region 1 with fail
  refine wp_gen (R := fun W => Box W w.heap.size (gC a b c d) ∧ Below w.heap.size w W) ⟨HX0.out, HB0.out⟩ ?_
  rintro W ⟨hx, hb⟩
  have HX := Go.Lib.hid hx
  have HB := Go.Lib.hid hb
  clear hx hb HX0 HB0
  have hc0 : W.cell? ⟨w.heap.size, 0, none⟩ = some (.int .i64 a) := HX.out.at_ 0 _ rfl
  have hc1 : W.cell? ⟨w.heap.size, 1, none⟩ = some (.int .i64 b) := HX.out.at_ 1 _ rfl
  have hc2 : W.cell? ⟨w.heap.size, 2, none⟩ = some (.int .i64 c) := HX.out.at_ 2 _ rfl
  have hc3 : W.cell? ⟨w.heap.size, 3, none⟩ = some (.int .i64 d) := HX.out.at_ 3 _ rfl
  have HN := Go.Lib.hid (show Box (W.alloc (.cells #[.int .i64 a, .int .i64 b] 2)) W.heap.size (ints [a, b]) from Box.new rfl rfl)
  have HBN := Go.Lib.hid (HB.out.alloc HB.out.size (.cells #[.int .i64 a, .int .i64 b] 2))
  have HSZ := Go.Lib.hid HB.out.size
  go_wp2_with fail
  go_ret
  exact ⟨_, rfl, HN.out, HSZ.out, HBN.out⟩
set_option maxRecDepth 100000 in
set_option maxHeartbeats 4000000 in
theorem implOver (a b c d a2 b2 c2 d2 : Int) (w : World) (e1 : IntKind.i64.wrap (c * d2) = c * d2) (e2 : IntKind.i64.wrap (d * c2) = d * c2) :
    Calls Try.prog 103 #[gV a b c d, gV a2 b2 c2 d2] w (IsV w (.tuple #[.int .i64 (c * d2), .int .i64 (d * c2)])) := by
  have HX0 := Go.Lib.hid ((gbox a b c d w).below (gbelow a2 b2 c2 d2 (w.alloc (.cells #[.int .i64 a, .int .i64 b, .int .i64 c, .int .i64 d] 76))))
  have HY0 := Go.Lib.hid (gbox a2 b2 c2 d2 (w.alloc (.cells #[.int .i64 a, .int .i64 b, .int .i64 c, .int .i64 d] 76)))
  have HB0 := Go.Lib.hid (upB (gbelow a b c d w) (gbelow a2 b2 c2 d2 _))
  have hs0 : (w.alloc (.cells #[.int .i64 a, .int .i64 b, .int .i64 c, .int .i64 d] 76)).heap.size = w.heap.size + 1 := by simp
  rw [hs0] at HY0
  clear hs0
  unfold gV
  go_enter Try.func103, Try.ntmps103
  go_upto_region 1 with fail
  refine wp_gen (R := fun W => Box W w.heap.size (gC a b c d) ∧ Box W (w.heap.size + 1) (gC a2 b2 c2 d2) ∧ Below w.heap.size w W) ⟨HX0.out, HY0.out, HB0.out⟩ ?_
  rintro W ⟨hx, hy, hb⟩
  have HX := Go.Lib.hid hx
  have HY := Go.Lib.hid hy
  have HB := Go.Lib.hid hb
  clear hx hy hb HX0 HY0 HB0
  have hc0 : W.cell? ⟨w.heap.size, 0, none⟩ = some (.int .i64 a) := HX.out.at_ 0 _ rfl
  have hc1 : W.cell? ⟨w.heap.size, 1, none⟩ = some (.int .i64 b) := HX.out.at_ 1 _ rfl
  have hc2 : W.cell? ⟨w.heap.size, 2, none⟩ = some (.int .i64 c) := HX.out.at_ 2 _ rfl
  have hc3 : W.cell? ⟨w.heap.size, 3, none⟩ = some (.int .i64 d) := HX.out.at_ 3 _ rfl
  have hd0 : W.cell? ⟨w.heap.size + 1, 0, none⟩ = some (.int .i64 a2) := HY.out.at_ 0 _ rfl
  have hd1 : W.cell? ⟨w.heap.size + 1, 1, none⟩ = some (.int .i64 b2) := HY.out.at_ 1 _ rfl
  have hd2 : W.cell? ⟨w.heap.size + 1, 2, none⟩ = some (.int .i64 c2) := HY.out.at_ 2 _ rfl
  have hd3 : W.cell? ⟨w.heap.size + 1, 3, none⟩ = some (.int .i64 d2) := HY.out.at_ 3 _ rfl
  go_quiet (fail)
  go_wp2_with fail
  go_ret2
  exact ⟨rfl, below_drewN HB.out _⟩
set_option maxRecDepth 100000 in
set_option maxHeartbeats 4000000 in
theorem implBefore (a b c d a2 b2 c2 d2 : Int) (w : World) (e1 : IntKind.i64.wrap (c * d2) = c * d2) (e2 : IntKind.i64.wrap (d * c2) = d * c2) :
    Calls Try.prog 98 #[gV a b c d, gV a2 b2 c2 d2] w (IsV w (.bool (decide (c * d2 < d * c2) || (decide (c * d2 = d * c2) && decide (a < a2))))) := by
  have HO := Go.Lib.hid (fun w0 => implOver a b c d a2 b2 c2 d2 w0 e1 e2)
  clear e1 e2
  have HX0 := Go.Lib.hid ((gbox a b c d w).below (gbelow a2 b2 c2 d2 (w.alloc (.cells #[.int .i64 a, .int .i64 b, .int .i64 c, .int .i64 d] 76))))
  have HY0 := Go.Lib.hid (gbox a2 b2 c2 d2 (w.alloc (.cells #[.int .i64 a, .int .i64 b, .int .i64 c, .int .i64 d] 76)))
  have HB0 := Go.Lib.hid (upB (gbelow a b c d w) (gbelow a2 b2 c2 d2 _))
  have hs0 : (w.alloc (.cells #[.int .i64 a, .int .i64 b, .int .i64 c, .int .i64 d] 76)).heap.size = w.heap.size + 1 := by simp
  rw [hs0] at HY0
  clear hs0
  unfold gV
  go_enter Try.func98, Try.ntmps98
  go_upto_region 1 with fail
  refine wp_gen (R := fun W => Box W w.heap.size (gC a b c d) ∧ Box W (w.heap.size + 1) (gC a2 b2 c2 d2) ∧ Below w.heap.size w W) ⟨HX0.out, HY0.out, HB0.out⟩ ?_
  rintro W ⟨hx, hy, hb⟩
  have HX := Go.Lib.hid hx
  have HY := Go.Lib.hid hy
  have HB := Go.Lib.hid hb
  clear hx hy hb HX0 HY0 HB0
  have hc0 : W.cell? ⟨w.heap.size, 0, none⟩ = some (.int .i64 a) := HX.out.at_ 0 _ rfl
  have hc1 : W.cell? ⟨w.heap.size, 1, none⟩ = some (.int .i64 b) := HX.out.at_ 1 _ rfl
  have hc2 : W.cell? ⟨w.heap.size, 2, none⟩ = some (.int .i64 c) := HX.out.at_ 2 _ rfl
  have hc3 : W.cell? ⟨w.heap.size, 3, none⟩ = some (.int .i64 d) := HX.out.at_ 3 _ rfl
  have hd0 : W.cell? ⟨w.heap.size + 1, 0, none⟩ = some (.int .i64 a2) := HY.out.at_ 0 _ rfl
  have hd1 : W.cell? ⟨w.heap.size + 1, 1, none⟩ = some (.int .i64 b2) := HY.out.at_ 1 _ rfl
  have hd2 : W.cell? ⟨w.heap.size + 1, 2, none⟩ = some (.int .i64 c2) := HY.out.at_ 2 _ rfl
  have hd3 : W.cell? ⟨w.heap.size + 1, 3, none⟩ = some (.int .i64 d2) := HY.out.at_ 3 _ rfl
  unfold gV at HO
  go_wp2_with fail
  refine (HO.out _).mono ?_
  rintro _ w2 ⟨rfl, b2⟩
  have HX := Go.Lib.hid (HX.out.below b2)
  have HY := Go.Lib.hid (HY.out.below b2)
  have HB := Go.Lib.hid (upB HB.out b2)
  clear b2 hc0 hc1 hc2 hc3 hd0 hd1 hd2 hd3
  have hc0 : w2.cell? ⟨w.heap.size, 0, none⟩ = some (.int .i64 a) := HX.out.at_ 0 _ rfl
  have hd0 : w2.cell? ⟨w.heap.size + 1, 0, none⟩ = some (.int .i64 a2) := HY.out.at_ 0 _ rfl
  generalize c * d2 = n at *
  generalize d * c2 = m at *
  by_cases h1 : n < m
  case pos =>
    go_wp2_with fail
    go_ret
    exact ⟨by first | (rw [decide_eq_true h1]; rfl) | simp [h1], HB.out⟩
  case neg =>
    by_cases h2 : n = m
    case pos =>
      subst h2
      go_wp2_with fail
      go_ret
      exact ⟨by first | rfl | simp, HB.out⟩
    case neg =>
      go_wp2_with fail
      go_ret
      exact ⟨by first | (rw [decide_eq_false h1, decide_eq_false h2]; rfl) | (simp [h2]; done) | (simp [h2]; omega), HB.out⟩
end Go.Proofs.Ythedanpldebjcaa
