/- The model: the least plan. -/
import Derived.Test.YtpcaakmcjdginaaTruS5
namespace Go.Proofs.Ytpcaakmcjdginaa
open Go.RowKit
set_option linter.unusedSimpArgs false
set_option linter.unusedVariables false

set_option maxRecDepth 100000 in
set_option maxHeartbeats 4000000 in
theorem specOwnG (A : Option Addr) (c : Nat) (zs : List Int) (w : World) (lo : Nat) (h : Ow w lo w.heap.size 2 A zs.length c (ints zs)) (hn : zs.length ≤ 1048576) :
    Calls Try.prog 74 #[.slice A zs.length c] w fun e w' => ∃ v, e = .returned v ∧ Gat w zs v w' := by
  by_cases hp : 0 < zs.length
  case pos =>
    refine (specOwn A c zs w ⟨h.rd.here, h.le, hn⟩ hp).mono ?_
    rintro e w' ⟨g, cap, rfl, ho, hb⟩
    exact ⟨_, rfl, ho.1, hb⟩
  case neg =>
    have hz : zs = [] := List.length_eq_zero_iff.1 (by omega)
    subst hz
    obtain ⟨i0, hi, hz0, hz1, hz2⟩ := info_parts infoI64
    have hG := (Gat.start (Below.refl w.heap.size w))
    have hown := hG.row
    have HG := Go.Lib.hid hG
    have hform : (A = none ∧ c = 0) ∨ ∃ g, A = some ⟨g, 0, none⟩ := by
      rcases h.1.2 with ⟨e, _⟩ | ⟨g, cap, cur, e, _⟩
      · injection e with e1 _ e3; exact .inl ⟨e1, e3⟩
      · injection e with e1; exact .inr ⟨g, e1⟩
    clear h hp hn hG
    simp only [List.length_nil] at *
    go_enter Try.func74, Try.ntmps74
    go_wp2_with (at_builtin; refine wpList_append_fits_any _ rfl _ _ 24 rfl w.heap.size 2 i0 1 Try.underlying24 hi hz1 w.heap.size 0 0 [] rfl hown A 0 c [] rfl rfl (fun e => by rcases hform with ⟨_, h2⟩ | ⟨g, h2⟩; exact ⟨rfl, h2⟩; exact absurd (h2.symm.trans e) (by simp)) (fun ad _ j u hu => by simp at hu) (by simp) (Nat.le_refl _) ?_; intro w3 hown' hgrow; have HR := Go.Lib.hid (show Gat w [] (.slice (some ⟨w.heap.size, 0, none⟩) 0 0) w3 from ⟨hown', HG.out.b.trans ((Below.refl _ _).grown hgrow (by simp) (fun j e => by cases e; exact Nat.le_refl _))⟩); clear hown' hgrow hown)
    go_ret
    exact ⟨_, rfl, HR.out⟩
def Ints2 (bg : List Int) (q : Int) : Prop := ints (bg ++ [q]) = ints bg ++ [.int .i64 q]
theorem ints_snoc (bg : List Int) (q : Int) : Ints2 bg q := by unfold Ints2; simp [ints]
/-- What a call hands back: a list of its own from lo on. -/
def OwnR (zs : List Int) (lo : Nat) (w : World) (e : Ending) (w' : World) : Prop :=
  ∃ A cap, e = .returned (.slice A zs.length cap) ∧ Ow w' lo w'.heap.size 2 A zs.length cap (ints zs) ∧ Below w.heap.size w w'
set_option maxRecDepth 100000 in
set_option maxHeartbeats 8000000 in
theorem specFirst (A : Option Addr) (c : Nat) (zs : List Int) (B : Option Addr) (b : Nat) (s : List Int) (tol : Int) (n : Nat) (hnn : zs.length = n) (h4 : 4 ≤ n) (h10 : n ≤ 10) (hS : Eff s) (hX : Bd 500 zs) : ∀ (r : Nat) (eff : Nat) (bg : List Int) (D : Option Addr) (d lo : Nat) (w : World), Ls zs A c w → Ls s B b w → Ow w lo w.heap.size 2 D bg.length d (ints bg) → lo ≤ w.heap.size → bg.length + r = n → eff ≤ 4 → rngB (-100) 100 bg = true →
    Calls Try.prog 55 #[.slice A n c, .slice B s.length b, .int .i64 tol, .int .i64 eff, .slice D bg.length d] w (OwnR (firstR zs s tol r eff bg) lo w) := by
  intro r
  induction r with
  | zero =>
    intro eff bg D d lo w L L2 ho hlo hlen heff hr
    have hbl : bg.length = n := by omega
    have hAF := specAfter A c zs B b s D d bg w L L2 ⟨ho.rd.here, ho.le, by omega⟩ n hnn h4 h10 hS hr hbl 500 hX (by omega) (by omega)
    have hT := fun (E : Option Addr) (f : Nat) w0 (L0 : Ls (afterI zs s bg) E f w0) => specTrueB E f (afterI zs s bg) tol w0 L0 ((afterI_bd hX hS hr (hbl.trans hnn.symm) (by omega)).mono (by omega))
    have hal : (afterI zs s bg).length = n := (afterI_len zs s bg).trans hnn
    rw [hal] at hT
    have HAL := Go.Lib.hid hal
    have HAF := Go.Lib.hid hAF
    have HT := Go.Lib.hid hT
    have HO := Go.Lib.hid ho
    have HLO := Go.Lib.hid hlo
    have HBL := Go.Lib.hid hbl
    have HF := Go.Lib.hid (show firstR zs s tol 0 eff bg = if (eff : Int) = 0 then if trueB (afterI zs s bg) tol then bg else [] else [] from rfl)
    have hlq : ((bg.length : Int) == (n : Int)) = true := by simp [hbl]
    have hn2 : n ≤ bg.length ∧ bg.length ≤ n := by omega
    obtain ⟨hn3, hn4⟩ := hn2
    clear L L2 ho hlen hr hAF hT hal hnn hX hS hlo hbl
    generalize afterI zs s bg = us at *
    generalize firstR zs s tol 0 eff bg = fr at *
    by_cases he : eff = 0
    case neg =>
      have hF := HF.out
      rw [if_neg (by omega)] at hF
      have heb : ((eff : Int) == 0) = false := by simp; omega
      subst hF
      go_enter Try.func55, Try.ntmps55
      go_wp2_with fail
      go_ret
      exact ⟨none, 0, rfl, ow_nil _ _ _ _, Below.refl _ _⟩
    case pos =>
      have hF := HF.out
      rw [if_pos (by omega)] at hF
      subst he
      by_cases ht : trueB us tol = true
      case pos =>
        rw [if_pos ht] at hF
        rw [ht] at HT
        subst hF
        clear ht HF
        go_enter Try.func55, Try.ntmps55
        go_wp2_with fail
        refine HAF.out.mono ?_
        rintro _ w2 ⟨g, cap, rfl, htu⟩
        have HT2 := Go.Lib.hid (HT.out _ _ w2 ⟨by rw [HAL.out]; exact htu.ow.rd.here, by rw [HAL.out]; exact htu.ow.le, by rw [HAL.out]; omega⟩)
        have HB := Go.Lib.hid htu.b
        clear htu
        go_wp2_with fail
        refine (HT2.out).mono ?_
        rintro _ _ ⟨rfl, rfl⟩
        go_wp2_with fail
        go_ret
        exact ⟨D, d, rfl, (HO.out.below HB.out (Nat.le_refl _)).raise HB.out.size, HB.out⟩
      case neg =>
        rw [if_neg ht] at hF
        rw [Bool.not_eq_true] at ht
        rw [ht] at HT
        subst hF
        clear ht HF
        go_enter Try.func55, Try.ntmps55
        go_wp2_with fail
        refine HAF.out.mono ?_
        rintro _ w2 ⟨g, cap, rfl, htu⟩
        have HT2 := Go.Lib.hid (HT.out _ _ w2 ⟨by rw [HAL.out]; exact htu.ow.rd.here, by rw [HAL.out]; exact htu.ow.le, by rw [HAL.out]; omega⟩)
        have HB := Go.Lib.hid htu.b
        clear htu
        go_wp2_with fail
        refine (HT2.out).mono ?_
        rintro _ _ ⟨rfl, rfl⟩
        go_wp2_with fail
        go_ret
        exact ⟨none, 0, rfl, ow_nil _ _ _ _, HB.out⟩
  | succ r ih =>
    intro eff bg D d lo w L L2 ho hlo hlen heff hr
    have HIH := Go.Lib.hid ih
    have HL := Go.Lib.hid L
    have HS := Go.Lib.hid L2
    have HO := Go.Lib.hid ho
    have HLO := Go.Lib.hid hlo
    have HLEN := Go.Lib.hid hlen
    have HR := Go.Lib.hid hr
    have HF := Go.Lib.hid (show firstR zs s tol (r + 1) eff bg = scanI (fun q => firstR zs s tol r ((eff : Int) - max q (-q)) (bg ++ [q])) (eff - (0 : Nat)) (2 * eff + 1 - 0) by
      show scanI _ _ _ = scanI _ _ _
      congr 1)
    have hlq : ((bg.length : Int) == (n : Int)) = false := by simp; omega
    have hbl10 : bg.length ≤ 10 := by omega
    obtain ⟨i0, hi, hz0, hz1, hz2⟩ := info_parts infoI64
    clear L L2 ho hlo hlen hr ih hnn hX hS
    go_enter Try.func55, Try.ntmps55
    go_wp2_with fail
    go_loopw [11] (fun u wr => ∃ k : Nat, k ≤ 2 * eff + 1 ∧ u = .int .i64 ((eff : Int) - k) ∧ firstR zs s tol (r + 1) eff bg = scanI (fun q => firstR zs s tol r ((eff : Int) - max q (-q)) (bg ++ [q])) ((eff : Int) - k) (2 * eff + 1 - k) ∧ Below w.heap.size w wr) (fun u _ => (intOf u + eff + 1).toNat)
    case atStart => exact ⟨0, Nat.zero_le _, by simp, HF.out, Below.refl _ _⟩
    case round =>
      obtain ⟨k, hk, rfl, hsc, hb⟩ := hrel
      have HSC := Go.Lib.hid hsc
      have HB := Go.Lib.hid hb
      clear hsc hb HF
      by_cases hlt : k < 2 * eff + 1
      case neg =>
        have HV := Go.Lib.hid (show firstR zs s tol (r + 1) eff bg = [] by rw [HSC.out, show 2 * eff + 1 - k = 0 by omega]; rfl)
        have hc : ¬ -(eff : Int) ≤ (eff : Int) - k := by omega
        clear HSC
        generalize firstR zs s tol (r + 1) eff bg = fr at *
        have hV := HV.out
        subst hV
        go_wp2_with fail
        go_ret
        exact ⟨none, 0, rfl, ow_nil _ _ _ _, HB.out⟩
      case pos =>
        have hc : -(eff : Int) ≤ (eff : Int) - k := by omega
        have hq4 : (eff : Int) - k ≤ 4 := by omega
        have hq5 : -4 ≤ (eff : Int) - k := by omega
        have HST := Go.Lib.hid (show firstR zs s tol (r + 1) eff bg = if 0 < (firstR zs s tol r ((eff : Int) - max ((eff : Int) - k) (-((eff : Int) - k))) (bg ++ [(eff : Int) - k])).length then firstR zs s tol r ((eff : Int) - max ((eff : Int) - k) (-((eff : Int) - k))) (bg ++ [(eff : Int) - k]) else scanI (fun q => firstR zs s tol r ((eff : Int) - max q (-q)) (bg ++ [q])) ((eff : Int) - k - 1) (2 * eff + 1 - (k + 1)) by
          rw [HSC.out, show 2 * eff + 1 - k = (2 * eff + 1 - (k + 1)) + 1 by omega]; rfl)
        have hn1 : (eff : Int) - (k : Int) - 1 = (eff : Int) - ((k + 1 : Nat) : Int) := by omega
        rw [hn1] at HST
        have HN1 := Go.Lib.hid hn1
        have HMS := Go.Lib.hid (show ((eff : Int) - ((k + 1 : Nat) : Int) + eff + 1).toNat < ((eff : Int) - (k : Int) + eff + 1).toNat by omega)
        obtain ⟨e2, he2⟩ := Int.eq_ofNat_of_zero_le (show 0 ≤ (eff : Int) - max ((eff : Int) - k) (-((eff : Int) - k)) by omega)
        rw [he2] at HST
        have he24 : e2 ≤ 4 := by omega
        clear hn1 HSC
        generalize hq : (eff : Int) - (k : Int) = q at *
        have HA := Go.Lib.hid (fun w0 => specAbs q w0 (by omega) (by omega))
        have ew : IntKind.i64.wrap ((eff : Int) - max q (-q)) = (e2 : Int) := by rw [he2]; exact IntWalk.i64_in _ (by omega)
        have HOW := Go.Lib.hid (specOwnG D d bg wr lo ((HO.out.below HB.out (Nat.le_refl _)).raise HB.out.size) (by omega))
        have HRQ := Go.Lib.hid (show rngB (-100) 100 (bg ++ [q]) = true by unfold rngB at *; rw [List.all_append, HR.out]; simp; omega)
        have HLQ := Go.Lib.hid (show (bg ++ [q]).length = bg.length + 1 by simp)
        have HI2 := Go.Lib.hid (fun E f w0 L0 L1 h0 => HIH.out e2 (bg ++ [q]) E f wr.heap.size w0 L0 L1 h0)
        rw [HLQ.out] at HI2
        have HII := Go.Lib.hid (show Ints2 bg q from ints_snoc bg q)
        generalize hfr : firstR zs s tol r (e2 : Int) (bg ++ [q]) = fr at *
        generalize firstR zs s tol (r + 1) eff bg = gr at *
        clear he2 HIH hfr
        go_wp2_with fail
        refine (HA.out _).mono ?_
        rintro _ _ ⟨rfl, rfl⟩
        go_wp2_with fail
        refine HOW.out.mono ?_
        rintro _ w2 ⟨v, rfl, hg⟩
        have HG := Go.Lib.hid hg
        have hrow := hg.row
        have hbs := hg.b.size
        clear hg HOW
        go_wp2_with (at_builtin; refine wpList_append_own_at _ rfl _ _ 24 rfl wr.heap.size 2 i0 (.int .i64 0) 1 8 Try.underlying24 hi hz0 hz1 hz2 rfl (by decide) _ _ _ rfl (hrow.alloc _) ⟨w2.heap.size, 0, none⟩ 1 1 [.int .i64 q] rfl rfl (cell_one_new _ _ _) (by simp [Value.oneCell']) (by unfold maxLen; omega) (by omega) (by simp; omega) ?_; intro v' w3 hown' hgrow hnil hat; clear hnil hat; have HGN := Go.Lib.hid (HG.out.step (z := q) hown' hgrow); obtain ⟨E, f, rfl, hoE⟩ := row_ow hown'; have HE := Go.Lib.hid hoE; clear hown' hgrow hrow hoE)
        have HB3 := Go.Lib.hid (HB.out.trans (HGN.out.b.mono HB.out.size))
        refine (HI2.out E f _ (HL.out.below HB3.out) (HS.out.below HB3.out) (by rw [(HII.out : ints (bg ++ [q]) = _)]; exact HE.out) (HGN.out.b.size) (by have := HLEN.out; omega) he24 HRQ.out).mono ?_
        rintro _ w4 ⟨E4, f4, rfl, ho4, b4⟩
        have HB4 := Go.Lib.hid (HB3.out.trans (b4.mono HB3.out.size))
        have HO4 := Go.Lib.hid ho4
        clear b4 ho4
        by_cases hfl : 0 < fr.length
        case pos =>
          have HV := Go.Lib.hid (show gr = fr by rw [HST.out, if_pos hfl])
          have hfl2 : (0 : Int) < fr.length := by omega
          go_wp2_with fail
          go_ret
          exact ⟨E4, f4, by rw [HV.out]; rfl, by rw [HV.out]; exact HO4.out.lower (Nat.le_trans HLO.out HB.out.size), HB4.out⟩
        case neg =>
          have HV := Go.Lib.hid (show gr = scanI (fun q => firstR zs s tol r ((eff : Int) - max q (-q)) (bg ++ [q])) ((eff : Int) - ((k + 1 : Nat) : Int)) (2 * eff + 1 - (k + 1)) by rw [HST.out, if_neg hfl])
          have hfl2 : fr.length = 0 := by omega
          have HFL := Go.Lib.hid hfl2
          have hfl3 : ¬ (0 : Int) < fr.length := by omega
          have HQN := Go.Lib.hid (show q - 1 = (eff : Int) - ((k + 1 : Nat) : Int) by omega)
          clear hfl2
          go_wp2_with fail
          go_roundw
          case rel => exact ⟨k + 1, by omega, by rw [HQN.out], HV.out, HB4.out⟩
          case measure =>
            have := HMS.out
            have := HQN.out
            simp only [intOf]; omega
end Go.Proofs.Ytpcaakmcjdginaa
