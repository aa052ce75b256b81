/- The program: the greatest stay, by halving. -/
import Derived.Test.YtilepehlmjohbaaChI2
import Derived.Test.YtilepehlmjohbaaPlainChainI
namespace Go.Proofs.Ytilepehlmjohbaa
open Go.RowKit
set_option linter.unusedSimpArgs false
set_option linter.unusedVariables false

/-- Three variables of the call: the chain's place, the teeth in front and behind. -/
structure Caps (w : World) (B c8 c4 c5 : Nat) (f r : Int) : Prop where
  b8 : Box w c8 [.pointer (some ⟨B + 1, 0, none⟩)]
  b4 : Box w c4 [.int .i64 f]
  b5 : Box w c5 [.int .i64 r]
  o8 : c8 < B ∨ B + 2 ≤ c8
  o4 : c4 < B ∨ B + 2 ≤ c4
  o5 : c5 < B ∨ B + 2 ≤ c5
theorem stay_legs {f r m : Int} (hm : 0 ≤ m ∧ m ≤ 3000) (hr : ringsB f r = true) : Legs (3000 + m) f r := by
  apply legs_iff.1
  rw [hr, Bool.and_true]
  unfold stayB
  exact inB_iff.2 (by omega)
theorem Caps.keep {w w1 : World} {B c8 c4 c5 : Nat} {f r : Int} (h : Caps w B c8 c4 c5 f r) (k : Keep B (B + 2) w w1) : Caps w1 B c8 c4 c5 f r :=
  ⟨h.b8.keep k h.o8, h.b4.keep k h.o4, h.b5.keep k h.o5, h.o8, h.o4, h.o5⟩
set_option maxRecDepth 100000 in
set_option maxHeartbeats 400000 in
theorem implStayClo (B n c8 c4 c5 : Nat) (l s f r m t : Int) (w : World) (C : Chn w (B + 1) B n l s) (K : Caps w B c8 c4 c5 f r) (e1 : IntKind.i64.wrap (3000 + m) = t) (hlg : Legs t f r) (hl : 40 ≤ l ∧ l ≤ 200) :
    Calls Try.prog 58 #[.int .i64 m, .pointer (some ⟨c8, 0, none⟩), .pointer (some ⟨c4, 0, none⟩), .pointer (some ⟨c5, 0, none⟩)] w (fun e w' => e = .returned (.bool (decide (1000 * l - needI t f r < 0))) ∧ Chn w' (B + 1) B 1 l t ∧ Keep B (B + 2) w w') := by
  have HM := Go.Lib.hid (implMoveTo (B + 1) B n B (B + 2) l s t w C ⟨Nat.le_succ _, Nat.lt_succ_self _⟩ ⟨Nat.le_refl _, Nat.lt_succ_of_lt (Nat.lt_succ_self _)⟩)
  have HS := Go.Lib.hid (fun w0 C0 => implSlack (B + 1) B 0 l t f r w0 C0 (by unfold maxLen; omega) hlg hl)
  have HK := Go.Lib.hid K
  have h8 : w.cell? ⟨c8, 0, none⟩ = some (.pointer (some ⟨B + 1, 0, none⟩)) := K.b8.at_ 0 _ rfl
  clear C K hl hlg
  generalize needI t f r = nd at *
  go_enter Try.func58, Try.ntmps58
  go_wp2_with fail
  refine (HM.out).mono ?_
  rintro _ w1 ⟨rfl, hC, hK⟩
  have HC1 := Go.Lib.hid hC
  have HK1 := Go.Lib.hid hK
  have HP1 := Go.Lib.hid (HK.out.keep hK)
  clear hC hK h8
  have h8 : w1.cell? ⟨c8, 0, none⟩ = some (.pointer (some ⟨B + 1, 0, none⟩)) := HP1.out.b8.at_ 0 _ rfl
  have h4 : w1.cell? ⟨c4, 0, none⟩ = some (.int .i64 f) := HP1.out.b4.at_ 0 _ rfl
  have h5 : w1.cell? ⟨c5, 0, none⟩ = some (.int .i64 r) := HP1.out.b5.at_ 0 _ rfl
  go_wp2_with fail
  refine (HS.out _ HC1.out).mono ?_
  rintro _ w2 ⟨rfl, hC, hK⟩
  have HC2 := Go.Lib.hid hC
  have HK2 := Go.Lib.hid (HK1.out.trans (hK.wide (Nat.le_refl _) (Nat.le_succ _)))
  clear hC hK h8 h4 h5
  go_wp2_with fail
  go_ret
  exact ⟨rfl, HC2.out, HK2.out⟩
theorem need_le {f r : Int} (hr : ringsB f r = true) {a b : Nat} (hab : a ≤ b) (hb : b ≤ 3000) : needI (3000 + (a : Int)) f r ≤ needI (3000 + (b : Int)) f r := by
  have hlg : Legs (3000 + (a : Int)) f r := stay_legs (by omega) hr
  have h := needI_mono hlg (b - a) (by omega)
  rwa [show 3000 + (a : Int) + ((b - a : Nat) : Int) = 3000 + (b : Int) by omega] at h
/-- What a search knows: below lo all suffice, from hi on none does. -/
structure Half (l f r : Int) (lo hi : Nat) : Prop where
  le : lo ≤ hi
  top : hi ≤ 3001
  yes : ∀ m : Nat, m < lo → needI (3000 + m) f r ≤ 1000 * l
  no : ∀ m : Nat, hi ≤ m → m ≤ 3000 → ¬ needI (3000 + m) f r ≤ 1000 * l
theorem Half.up {l f r : Int} {lo hi : Nat} (hr : ringsB f r = true) (h : Half l f r lo hi) (hlt : lo < hi) (hy : ¬ 1000 * l - needI (3000 + (((lo + hi) / 2 : Nat) : Int)) f r < 0) : Half l f r ((lo + hi) / 2 + 1) hi := by
  have ht := h.top
  refine ⟨by omega, ht, fun m hm => ?_, h.no⟩
  have := need_le hr (a := m) (b := (lo + hi) / 2) (by omega) (by omega)
  omega
theorem Half.down {l f r : Int} {lo hi : Nat} (hr : ringsB f r = true) (h : Half l f r lo hi) (hlt : lo < hi) (hy : 1000 * l - needI (3000 + (((lo + hi) / 2 : Nat) : Int)) f r < 0) : Half l f r lo ((lo + hi) / 2) := by
  have ht := h.top
  refine ⟨by omega, by omega, h.yes, fun m h1 h2 => ?_⟩
  have := need_le hr (a := (lo + hi) / 2) (b := m) h1 h2
  omega
set_option maxRecDepth 100000 in
set_option maxHeartbeats 4000000 in
theorem implSearch (B c8 c4 c5 : Nat) (l f r : Int) (w : World) (C : Chn w (B + 1) B 0 l 3000) (K : Caps w B c8 c4 c5 f r) (hr : ringsB f r = true) (hl : 40 ≤ l ∧ l ≤ 200) :
    Calls Try.prog 57 #[.int .i64 3001, .func (.func 58) #[] #[.pointer (some ⟨c8, 0, none⟩), .pointer (some ⟨c4, 0, none⟩), .pointer (some ⟨c5, 0, none⟩)]] w (fun e w' => ∃ k : Nat, e = .returned (.int .i64 k) ∧ Half l f r k k ∧ Keep B (B + 2) w w') := by
  have HC := Go.Lib.hid C
  have HK := Go.Lib.hid K
  have HR := Go.Lib.hid hr
  have HL := Go.Lib.hid hl
  have HCL := Go.Lib.hid (fun n s m w0 C0 K0 hm => implStayClo B n c8 c4 c5 l s f r m (3000 + m) w0 C0 K0 (IntWalk.i64_in _ (by omega)) (stay_legs hm hr) hl)
  have HH0 := Go.Lib.hid (show Half l f r 0 3001 from ⟨by omega, by omega, fun m h => absurd h (by omega), fun m h1 h2 => by omega⟩)
  clear C K hr hl
  go_enter Try.func57, Try.ntmps57
  go_wp2_with fail
  go_loopw [5, 6] (fun v u wr => ∃ (lo hi n : Nat) (s : Int), v = .int .i64 lo ∧ u = .int .i64 hi ∧ Half l f r lo hi ∧ Chn wr (B + 1) B n l s ∧ Keep B (B + 2) w wr) (fun v u _ => (intOf u).toNat - (intOf v).toNat)
  case atStart => exact ⟨0, 3001, 0, 3000, rfl, rfl, HH0.out, HC.out, Keep.refl _ _ _⟩
  case round =>
    obtain ⟨lo, hi, n, s, rfl, rfl, hh, hc, hk⟩ := hrel
    have HH := Go.Lib.hid hh
    have HC1 := Go.Lib.hid hc
    have HK1 := Go.Lib.hid hk
    have htop := hh.top
    have hle := hh.le
    clear hh hc hk HH0 HC
    by_cases hlt : lo < hi
    case neg =>
      obtain rfl : lo = hi := by omega
      go_wp2_with fail
      go_ret
      exact ⟨lo, rfl, HH.out, HK1.out⟩
    case pos =>
      have hlti : (lo : Int) < (hi : Int) := by omega
      have ed : (((lo + hi) / 2 : Nat) : Int) = ((lo : Int) + (hi : Int)) / 2 := by omega
      have HCA := Go.Lib.hid (HCL.out n s (((lo + hi) / 2 : Nat) : Int) wr HC1.out (HK.out.keep HK1.out) (by omega))
      have HU := Go.Lib.hid (fun h => Half.up HR.out HH.out hlt h)
      have HD := Go.Lib.hid (fun h => Half.down HR.out HH.out hlt h)
      have HMD := Go.Lib.hid (show ((((lo + hi) / 2 + 1 : Nat) : Int) = ((lo : Int) + (hi : Int)) / 2 + 1) ∧ lo ≤ (lo + hi) / 2 ∧ (lo + hi) / 2 < hi by omega)
      rw [ed] at HCA HU HD
      have HED := Go.Lib.hid ed
      clear ed
      generalize needI (3000 + ((lo : Int) + (hi : Int)) / 2) f r = nd at *
      go_upto_region 4 with fail
      by_cases hneg : 1000 * l - nd < 0
      case pos =>
        have HN := Go.Lib.hid (HD.out hneg)
        rw [decide_eq_true hneg] at HCA
        clear HU HD hneg
        go_wp2_with fail
        refine (HCA.out).mono ?_
        rintro _ w2 ⟨rfl, hC, hK⟩
        have HC2 := Go.Lib.hid hC
        have HK2 := Go.Lib.hid (HK1.out.trans hK)
        clear hC hK
        go_wp2_with fail
        go_roundw
        case rel => exact ⟨lo, (lo + hi) / 2, 1, _, rfl, by rw [HED.out], HN.out, HC2.out, HK2.out⟩
        case measure => simp [intOf]; have := HMD.out; omega
      case neg =>
        have HN := Go.Lib.hid (HU.out hneg)
        rw [decide_eq_false hneg] at HCA
        clear HU HD hneg
        go_wp2_with fail
        refine (HCA.out).mono ?_
        rintro _ w2 ⟨rfl, hC, hK⟩
        have HC2 := Go.Lib.hid hC
        have HK2 := Go.Lib.hid (HK1.out.trans hK)
        clear hC hK
        go_wp2_with fail
        go_roundw
        case rel => exact ⟨(lo + hi) / 2 + 1, hi, 1, _, by rw [HMD.out.1], rfl, HN.out, HC2.out, HK2.out⟩
        case measure => simp [intOf]; have := HMD.out; omega
set_option maxRecDepth 100000 in
set_option maxHeartbeats 4000000 in
theorem implStayFor (l f r : Int) (w : World) : Calls Try.prog 20 #[.int .i64 l, .int .i64 f, .int .i64 r] w (Gives2 (stayR l f r) w) := by
  have hmf : ∀ (fn : Fn) (first cap : Array Value) (w : World), (Instr.makeFunc fn first cap).run Try.prog w = .ok (.func fn first cap) w := fun _ _ _ _ => rfl
  have HA := Go.Lib.hid (fun w0 => implLinks l w0)
  have HB := Go.Lib.hid (fun w0 => implRings f r w0)
  have HX4 := Go.Lib.hid (show Box ((w.alloc (.cells #[.int .i64 f] 2)).alloc (.cells #[.int .i64 r] 2)) w.heap.size [.int .i64 f] from (Box.new rfl rfl).alloc _)
  have HX5 := Go.Lib.hid (show Box ((w.alloc (.cells #[.int .i64 f] 2)).alloc (.cells #[.int .i64 r] 2)) (w.heap.size + 1) [.int .i64 r] from Box.new (by simp) rfl)
  have HBW := Go.Lib.hid (show Below w.heap.size w ((w.alloc (.cells #[.int .i64 f] 2)).alloc (.cells #[.int .i64 r] 2)) from ((Below.refl _ _).alloc (Nat.le_refl _) _).alloc (by simp) _)
  have HSZ := Go.Lib.hid (show ((w.alloc (.cells #[.int .i64 f] 2)).alloc (.cells #[.int .i64 r] 2)).heap.size = w.heap.size + 2 by simp)
  by_cases ha : linksB l = true
  case neg =>
    have HV := Go.Lib.hid (show stayR l f r = (0, 2) by unfold stayR; rw [if_neg (by simp [ha])])
    rw [Bool.not_eq_true] at ha
    rw [ha] at HA
    clear ha
    go_enter Try.func20, Try.ntmps20
    go_wp2_with fail
    refine (HA.out _).mono ?_
    rintro _ _ ⟨rfl, rfl⟩
    go_wp2_with fail
    go_ret2
    exact Gives2.of HV.out HBW.out
  case pos =>
    by_cases hb : ringsB f r = true
    case neg =>
      have HV := Go.Lib.hid (show stayR l f r = (0, 2) by unfold stayR; rw [if_neg (by simp [hb])])
      rw [Bool.not_eq_true] at hb
      rw [ha] at HA
      rw [hb] at HB
      clear ha hb
      go_enter Try.func20, Try.ntmps20
      go_wp2_with fail
      refine (HA.out _).mono ?_
      rintro _ _ ⟨rfl, rfl⟩
      go_wp2_with fail
      refine (HB.out _).mono ?_
      rintro _ _ ⟨rfl, rfl⟩
      go_wp2_with fail
      go_ret2
      exact Gives2.of HV.out HBW.out
    case pos =>
      have hab : (linksB l && ringsB f r) = true := by rw [ha, hb]; rfl
      have HLB := Go.Lib.hid (linksB_bd ha)
      have HRB := Go.Lib.hid hb
      have HV := Go.Lib.hid (fun (k : Nat) (h : Half l f r k k) => stayR_found hab h.top h.yes h.no)
      have HCA := Go.Lib.hid (fun w0 => implChainAt l 3000 w0)
      rw [ha] at HA
      rw [hb] at HB
      clear ha hb hab
      go_enter Try.func20, Try.ntmps20
      go_wp2_with fail
      refine (HA.out _).mono ?_
      rintro _ _ ⟨rfl, rfl⟩
      go_wp2_with fail
      refine (HB.out _).mono ?_
      rintro _ _ ⟨rfl, rfl⟩
      go_upto_region 3 with fail
      refine wp_gen (R := fun W => Box W w.heap.size [.int .i64 f] ∧ Box W (w.heap.size + 1) [.int .i64 r] ∧ Below w.heap.size w W ∧ W.heap.size = w.heap.size + 2) ⟨HX4.out, HX5.out, HBW.out, HSZ.out⟩ ?_
      rintro W ⟨hx4, hx5, hbw, hsz⟩
      have HX4 := Go.Lib.hid hx4
      have HX5 := Go.Lib.hid hx5
      have HBW := Go.Lib.hid hbw
      have HSZ2 := Go.Lib.hid hsz
      clear hx4 hx5 hbw HSZ hsz
      go_wp2_with fail
      refine (HCA.out _).mono ?_
      rintro _ w2 ⟨rfl, hC, bA⟩
      have HN := Go.Lib.hid (show Chn (w2.alloc (.cells #[.pointer (some ⟨W.heap.size + 1, 0, none⟩)] 64)) (W.heap.size + 1) W.heap.size 0 l 3000 from hC.below ((Below.refl _ _).alloc (Nat.le_refl _) _))
      have hq : W.heap.size + 1 < w2.heap.size := hC.box.lt
      have HCP := Go.Lib.hid (show Caps (w2.alloc (.cells #[.pointer (some ⟨W.heap.size + 1, 0, none⟩)] 64)) W.heap.size w2.heap.size w.heap.size (w.heap.size + 1) f r from
        ⟨Box.new rfl rfl, (HX4.out.below bA).alloc _, (HX5.out.below bA).alloc _, by omega, by have := HSZ2.out; omega, by have := HSZ2.out; omega⟩)
      have HB2 := Go.Lib.hid (show Below w.heap.size w (w2.alloc (.cells #[.pointer (some ⟨W.heap.size + 1, 0, none⟩)] 64)) from (upB HBW.out bA).alloc (upB HBW.out bA).size _)
      clear hC bA HX4 HX5 HBW
      go_upto_region 4 with fail
      refine wp_gen (R := fun V => Chn V (W.heap.size + 1) W.heap.size 0 l 3000 ∧ Caps V W.heap.size w2.heap.size w.heap.size (w.heap.size + 1) f r ∧ Below w.heap.size w V) ⟨HN.out, HCP.out, HB2.out⟩ ?_
      rintro V ⟨hC, hcp, hb⟩
      have HS := Go.Lib.hid (implSearch W.heap.size w2.heap.size w.heap.size (w.heap.size + 1) l f r V hC hcp HRB.out HLB.out)
      have HBV := Go.Lib.hid hb
      clear hC hcp hb HN HCP HB2
      go_wp2_with fail
      refine (HS.out).mono ?_
      rintro _ w3 ⟨k, rfl, hh, hK⟩
      have HVK := Go.Lib.hid (HV.out k hh)
      have ht := hh.top
      have HB3 := Go.Lib.hid (HBV.out.trans (hK.below (by have := HSZ2.out; omega) HBV.out.size))
      clear hh hK HV
      by_cases h0 : k = 0
      case pos =>
        subst h0
        rw [if_pos rfl] at HVK
        go_wp2_with fail
        go_ret2
        exact Gives2.of HVK.out HB3.out
      case neg =>
        rw [if_neg h0] at HVK
        have e1 : IntKind.i64.wrap (3000 + (k : Int)) = 3000 + (k : Int) := IntWalk.i64_in _ (by omega)
        have e2 : IntKind.i64.wrap (3000 + (k : Int) - 1) = 3000 + (k : Int) - 1 := IntWalk.i64_in _ (by omega)
        have hk0 : ¬ (k : Int) = 0 := by omega
        go_wp2_with fail
        go_ret2
        exact Gives2.of HVK.out HB3.out
end Go.Proofs.Ytilepehlmjohbaa
