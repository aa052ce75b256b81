/- The model: trains, developments, ratios compared. -/
import Derived.Test.YthedanpldebjcaaTenB
import Derived.Test.YthedanpldebjcaaPlainGear
import Derived.Deep.QuietTactic
import Derived.BigQuiet
namespace Go.Proofs.Ythedanpldebjcaa
open Go.RowKit
set_option linter.unusedSimpArgs false
set_option linter.unusedVariables false

theorem inQ (n a b : Int) (w : World) (x : Nat) : Calls Try.prog 63 #[.int .i64 n, .int .i64 a, .int .i64 b] (w.drewN x) fun e w' => e = .returned (.bool (inB n a b)) ∧ ∃ k, w' = w.drewN k :=
  (inN2 n a b _).mono fun _ _ h => ⟨h.1, x, h.2.symm⟩
def trainV (x : Trn) (A : Option Addr) (c : Nat) (B : Option Addr) (d : Nat) : Value := .agg #[.slice A x.f.length c, .slice B x.r.length d, .int .i64 x.n]
def trainC (x : Trn) (A : Option Addr) (c : Nat) (B : Option Addr) (d : Nat) : List Value := [.slice A x.f.length c, .slice B x.r.length d, .int .i64 x.n]
/-- A train's lists lie somewhere. -/
structure TrL (x : Trn) (A : Option Addr) (c : Nat) (B : Option Addr) (d : Nat) (w : World) : Prop where
  f : Ls x.f A c w
  r : Ls x.r B d w
theorem TrL.below {x : Trn} {A B : Option Addr} {c d : Nat} {w w1 : World} (h : TrL x A c B d w) (b : Below w.heap.size w w1) : TrL x A c B d w1 := ⟨h.f.below b, h.r.below b⟩
/-- A train in a variable of its own. -/
def boxT (x : Trn) (A : Option Addr) (c : Nat) (B : Option Addr) (d : Nat) (w : World) : World := w.alloc (.cells #[.slice A x.f.length c, .slice B x.r.length d, .int .i64 x.n] 26)
theorem boxT_box (x : Trn) (A : Option Addr) (c : Nat) (B : Option Addr) (d : Nat) (w : World) : Box (boxT x A c B d w) w.heap.size (trainC x A c B d) := Box.new rfl rfl
theorem boxT_below (x : Trn) (A : Option Addr) (c : Nat) (B : Option Addr) (d : Nat) (w : World) : Below w.heap.size w (boxT x A c B d w) := (Below.refl _ _).alloc (Nat.le_refl _) _
theorem Gat.below {w wr w1 : World} {zs : List Int} {v : Value} (h : Gat w zs v wr) (b : Below wr.heap.size wr w1) : Gat w zs v w1 := by
  obtain ⟨A, cap, rfl, ho⟩ := h.form
  exact ⟨(ho.below b (Nat.le_refl _)).1, h.b.trans (b.mono h.b.size)⟩
set_option maxRecDepth 100000 in
set_option maxHeartbeats 8000000 in
theorem specTeeth (A : Option Addr) (c : Nat) (zs : List Int) (most lo hi : Int) (w : World) (L : Ls zs A c w) :
    Calls Try.prog 101 #[.slice A zs.length c, .int .i64 most, .int .i64 lo, .int .i64 hi] w (IsV w (.bool (teethB lo hi most zs))) := by
  have HL := Go.Lib.hid L
  have hn := L.few
  clear L
  go_enter Try.func101, Try.ntmps101
  go_wp2_with fail
  go_loopw [9] (fun i wr => ∃ k : Nat, k ≤ zs.length ∧ i = .int .i64 k ∧ Eqw w wr ∧ okTo lo hi zs k = true) (fun i _ => zs.length - (intOf i).toNat)
  case atStart => exact ⟨0, Nat.zero_le _, rfl, Eqw.refl _, rfl⟩
  case round =>
    obtain ⟨k, hk, rfl, hw, he⟩ := hrel
    have HE := Go.Lib.hid he
    have HW := Go.Lib.hid hw
    clear he
    by_cases hlt : k < zs.length
    case neg =>
      obtain rfl : k = zs.length := by omega
      have HV := Go.Lib.hid (show teethB lo hi most zs = (decide (1 ≤ (zs.length : Int)) && decide ((zs.length : Int) ≤ most)) by unfold teethB; rw [HE.out]; rfl)
      clear hw
      by_cases h1 : 1 ≤ (zs.length : Int)
      case neg =>
        rw [decide_eq_false h1] at HV
        have hd : decide (1 ≤ (zs.length : Int)) = false := decide_eq_false h1
        go_wp2_with fail
        go_ret
        exact ⟨by rw [HV.out]; rfl, HW.out.below⟩
      case pos =>
        rw [decide_eq_true h1, Bool.true_and] at HV
        go_wp2_with fail
        go_ret
        exact ⟨by rw [HV.out]; simp, HW.out.below⟩
    case pos =>
      obtain ⟨b, o, rfl, -, hc⟩ := (HL.out.eqw hw).at_ hlt
      have hcell := hc k hlt
      have hkl : (k : Int) < zs.length := by omega
      have HO := Go.Lib.hid (okTo_succ lo hi zs k)
      have HMI := Go.Lib.hid (fun (h : okAt lo hi zs k = false) => show teethB lo hi most zs = false by unfold teethB; rw [okTo_miss h hlt]; rfl)
      by_cases hin : lo ≤ zs.getD k 0 ∧ zs.getD k 0 ≤ hi
      case neg =>
        have HF := Go.Lib.hid (HMI.out (by unfold okAt; rw [show (decide (lo ≤ zs.getD k 0) && decide (zs.getD k 0 ≤ hi)) = false by rw [← Bool.not_eq_true]; simpa using hin]; rfl))
        have hI := fun x0 => inQ (zs.getD k 0) lo hi wr x0
        rw [show inB (zs.getD k 0) lo hi = false by rw [← Bool.not_eq_true, inB_iff]; exact hin] at hI
        have HI := Go.Lib.hid hI
        clear hc hin hw hI HO HMI HE
        generalize zs.getD k 0 = y at *
        go_upto_region 4 with fail
        go_quiet ((go_at_call 63; exact HI.out _))
        go_wp2_with fail
        go_ret
        exact ⟨by rw [HF.out]; first | rfl | simp, (HW.out.drewN _).below⟩
      case pos =>
        have hI := fun x0 => inQ (zs.getD k 0) lo hi wr x0
        rw [inB_iff.2 hin] at hI
        have HI := Go.Lib.hid hI
        have hinb : (decide (lo ≤ zs.getD k 0) && decide (zs.getD k 0 ≤ hi)) = true := by simpa using hin
        by_cases h0 : k = 0
        case pos =>
          have HS := Go.Lib.hid (show okTo lo hi zs (k + 1) = true by rw [HO.out, HE.out, Bool.true_and]; unfold okAt; rw [hinb, decide_eq_true h0]; rfl)
          subst h0
          clear hc hin hw hI HO HMI HE hinb
          rw [Nat.add_zero] at hcell
          generalize zs.getD 0 0 = y at *
          go_upto_region 4 with fail
          go_quiet ((go_at_call 63; exact HI.out _))
          go_wp2_with fail
          go_roundw
          case rel => exact ⟨0 + 1, by omega, by go_num, HW.out.drewN _, HS.out⟩
          case measure => simp [intOf]; omega
        case neg =>
          have hcell2 := hc (k - 1) (by omega)
          have hk0 : (0 : Int) < k := by omega
          have ek : IntKind.i64.wrap ((k : Int) - 1) = (k : Int) - 1 := IntWalk.i64_in _ (by omega)
          have i2 : (0 : Int) ≤ (k : Int) - 1 := by omega
          have i3 : (k : Int) - 1 < (zs.length : Int) := by omega
          have i4 : ((k : Int) - 1).toNat = k - 1 := by omega
          have hk2 : 0 < k := by omega
          have hok : okAt lo hi zs k = decide (zs.getD (k - 1) 0 < zs.getD k 0) := by unfold okAt; rw [hinb, decide_eq_false h0]; simp
          by_cases hup : zs.getD (k - 1) 0 < zs.getD k 0
          case pos =>
            have HS := Go.Lib.hid (show okTo lo hi zs (k + 1) = true by rw [HO.out, HE.out, Bool.true_and, hok]; exact decide_eq_true hup)
            have hng : decide (zs.getD k 0 ≤ zs.getD (k - 1) 0) = false := decide_eq_false (by omega)
            clear hc hin hw hI HO HMI HE hinb hok
            generalize zs.getD k 0 = y at *
            generalize zs.getD (k - 1) 0 = z at *
            go_upto_region 4 with fail
            go_quiet ((go_at_call 63; exact HI.out _))
            go_wp2_with fail
            go_roundw
            case rel => exact ⟨k + 1, by omega, by go_num, HW.out.drewN _, HS.out⟩
            case measure => simp [intOf]; omega
          case neg =>
            have HF := Go.Lib.hid (HMI.out (by rw [hok]; exact decide_eq_false hup))
            have hge : zs.getD k 0 ≤ zs.getD (k - 1) 0 := by omega
            clear hc hin hw hI HO HMI HE hinb hok
            generalize zs.getD k 0 = y at *
            generalize zs.getD (k - 1) 0 = z at *
            go_upto_region 4 with fail
            go_quiet ((go_at_call 63; exact HI.out _))
            go_wp2_with fail
            go_ret
            exact ⟨by rw [HF.out]; first | rfl | simp, (HW.out.drewN _).below⟩
end Go.Proofs.Ythedanpldebjcaa
