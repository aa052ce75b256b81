/- The program: the ring is turned. -/
import Derived.Test.YtpcaakmcjdginabTenI4
namespace Go.Proofs.Ytpcaakmcjdginab
open Go.RowKit
set_option linter.unusedSimpArgs false
set_option linter.unusedVariables false

/-- Behind a turn: an answer, the ring turned, nothing else. -/
def Turned (w : World) (g n : Nat) (zs : List Int) (e : Ending) (w' : World) : Prop := (∃ v, e = .returned v) ∧ Rng w' g n zs ∧ Keep g (g + 1) w w'
theorem keepAdd {w wr : World} {g : Nat} (h : Keep g (g + 1) w wr) (k : Nat) (v : Value) : Keep g (g + 1) w (wr.setCell ⟨g, k, none⟩ v) := h.setCell (p := ⟨g, k, none⟩) (Nat.le_refl _) (Nat.lt_succ_self _) v
theorem step0 (n : Nat) (zs : List Int) (p : Nat) (q : Int) (s : List Int) : turnTo n zs p q s 1 = addAt zs p (q * s.getD 0 0) := rfl
theorem stepS (n : Nat) (zs : List Int) (p : Nat) (q : Int) (s : List Int) (k : Nat) : turnTo n zs p q s (k + 1 + 1) = addAt (addAt (turnTo n zs p q s (k + 1)) (prevP n (backP n p k)) (q * s.getD (k + 1) 0)) (nextP n (foreP n p k)) (q * s.getD (k + 1) 0) := by
  rw [turnTo, stepD, if_neg (by omega)]
  rfl
set_option maxRecDepth 100000 in
set_option maxHeartbeats 4000000 in
theorem implTurn (g n p : Nat) (zs : List Int) (B : Option Addr) (b : Nat) (s : List Int) (q X : Int) (w : World) (R : Rng w g n zs) (S : Rd w 0 g B s.length (ints s)) (hc : s.length ≤ b) (hp : p < n) (h4 : 4 ≤ n) (h48 : n ≤ 48) (hS : Stiff s) (q0 : -100 ≤ q) (q1 : q ≤ 100) (hX0 : 0 ≤ X) (hX : X ≤ 100000000) (hB : Bd X zs) :
    Calls Try.prog 47 #[.pointer (some ⟨g, p * 3, none⟩), .slice B s.length b, .int .i64 q] w (Turned w g n (turn1 n zs p q s)) := by
  have hl := hS.lo
  have h44 := hS.hi
  have HS := Go.Lib.hid S
  have HBX := Go.Lib.hid R.box
  have HPN := Go.Lib.hid hp
  have HSR := Go.Lib.hid hS.rng
  have HBD := Go.Lib.hid (fun (d : Nat) (hd : d ≤ s.length) => (hB.turnTo (n := n) (p := p) q0 q1 hS.rng d hd).mono (show X + 40000 * d ≤ X + 160000 by omega))
  have hv := R.val hp
  have hfr := R.fr (p * 3)
  obtain ⟨b0, o0, rfl, -, hb0, hcs⟩ := S.at_ hl
  have hs0 : w.cell? ⟨b0, o0, none⟩ = some (.int .i64 (s.getD 0 0)) := hcs 0 _ (ints_at s 0 hl)
  have hy := rngB_at hS.rng (k := 0) hl
  have hbp := hB p
  have HR0 := Go.Lib.hid R
  have HY0 : ∃ y0, s.getD 0 0 = y0 := ⟨_, rfl⟩
  obtain ⟨y0, HY0⟩ := HY0
  have HY0 := Go.Lib.hid HY0
  have HRA := Go.Lib.hid ((R.drewN 1).add hp (q * s.getD 0 0))
  have HKA := Go.Lib.hid (keepAdd ((Keep.refl g (g + 1) w).drewN 1) (p * 3) (.int .i64 (zs.getD p 0 + q * s.getD 0 0)))
  have HT1 := Go.Lib.hid (step0 n zs p q s)
  rw [HY0.out] at hs0 hy HRA HKA
  clear S R hS hcs hB
  obtain ⟨x, hx⟩ : ∃ x, zs.getD p 0 = x := ⟨_, rfl⟩
  rw [hx] at hv hbp HRA HKA
  clear hx
  obtain ⟨y1, y2⟩ := hy
  obtain ⟨v0, v1⟩ := mul_small q0 q1 y1 y2
  obtain ⟨x0, x1⟩ := hbp
  have em0 : IntKind.i64.wrap (q * y0) = q * y0 := IntWalk.i64_in _ (by omega)
  have ev0 : IntKind.i64.wrap (x + q * y0) = x + q * y0 := IntWalk.i64_in _ (by omega)
  have hl0 : (0 : Int) < s.length := by omega
  have hl1 : (1 : Int) ≤ s.length := by omega
  have hlc : (s.length : Int) ≤ b := by omega
  have hne : ¬ s = [] := by rintro rfl; simp at hl
  have hl2 : 0 < s.length := hl
  go_enter Try.func47, Try.ntmps47
  go_upto_region 0 with fail
  go_still_tail 12, (by kernel_rfl)
  change wpList _ _ _ _ _ (w.drewN 1)
  have hv2 : (w.drewN 1).cell? ⟨g, p * 3, none⟩ = some (.int .i64 x) := hv
  have hfr2 : (w.drewN 1).frozen? ⟨g, p * 3, none⟩ = false := hfr
  clear hv hfr hs0
  generalize w.drewN 1 = wd at hv2 hfr2 HRA HKA ⊢
  go_upto_region 1 with fail
  refine wp_gen (R := fun W2 => Rng W2 g n (addAt zs p (q * y0)) ∧ Keep g (g + 1) w W2) ⟨HRA.out, HKA.out⟩ ?_
  rintro W1 ⟨hR1, hK1⟩
  have HR1 := Go.Lib.hid hR1
  have HK1 := Go.Lib.hid hK1
  clear hR1 hK1 HRA HKA hv2 hfr2 hl2
  by_cases hb1 : b = 1
  case pos =>
    have hl3 : s.length = 1 := by omega
    have HV := Go.Lib.hid (show turn1 n zs p q s = addAt zs p (q * y0) by unfold turn1; rw [hl3, HT1.out, HY0.out])
    clear hl3
    subst hb1
    go_wp2_with fail
    go_loopw [6, 7, 27] (fun a f i wr => i = .int .i64 0 ∧ Rng wr g n (addAt zs p (q * y0)) ∧ Keep g (g + 1) w wr) (fun _ _ i _ => 0)
    case atStart => exact ⟨rfl, HR1.out, HK1.out⟩
    case round =>
      obtain ⟨rfl, hr, hk⟩ := hrel
      have HF := Go.Lib.hid (And.intro hr hk)
      clear hr hk
      go_wp2_with fail
      go_end0
      exact ⟨⟨_, rfl⟩, by rw [HV.out]; exact HF.out.1, HF.out.2⟩
  case neg =>
    obtain ⟨m, hm⟩ : ∃ m, s.length - 1 = m := ⟨_, rfl⟩
    have HM := Go.Lib.hid (show s.length = m + 1 by omega)
    go_wp2_with fail
    go_loopw [6, 7, 27] (fun a f i wr => ∃ k : Nat, k ≤ m ∧ i = .int .i64 k ∧ a = .pointer (some ⟨g, backP n p k * 3, none⟩) ∧ f = .pointer (some ⟨g, foreP n p k * 3, none⟩) ∧ Rng wr g n (turnTo n zs p q s (k + 1)) ∧ Keep g (g + 1) w wr) (fun _ _ i _ => m - (intOf i).toNat)
    case atStart => exact ⟨0, Nat.zero_le _, rfl, rfl, rfl, by rw [step0, HY0.out]; exact HR1.out, HK1.out⟩
    case round =>
      obtain ⟨k, hk, rfl, rfl, rfl, hr, hkp⟩ := hrel
      have HRK := Go.Lib.hid hr
      have HKK := Go.Lib.hid hkp
      by_cases hlt : k < m
      case neg =>
        obtain rfl : k = m := by omega
        clear hr hkp
        go_wp2_with fail
        go_end0
        exact ⟨⟨_, rfl⟩, by unfold turn1; rw [HM.out]; exact HRK.out, HKK.out⟩
      case pos =>
        obtain ⟨b1, o1, e, -, hb1, hcs⟩ := (HS.out.keep hkp (Nat.le_of_lt HBX.out.lt) (.inl (Nat.le_refl _))).at_ (k := k + 1) (by have := HM.out; omega)
        cases e
        have hcell2 : wr.cell? ⟨b0, o0 + 1 + k, none⟩ = some (.int .i64 (s.getD (k + 1) 0)) := by rw [show o0 + 1 + k = o0 + (k + 1) by omega]; exact hcs (k + 1) _ (ints_at s (k + 1) (by have := HM.out; omega))
        have hbl := backP_lt HPN.out k
        have hfl := foreP_lt HPN.out k
        have hpv := hr.prev hbl
        have hnx := hr.next hfl
        have hx := rngB_at HSR.out (k := k + 1) (by have := HM.out; omega)
        have hbd := HBD.out (k + 1) (by have := HM.out; omega)
        have HST := Go.Lib.hid (stepS n zs p q s k)
        have hb' := prevP_lt (n := n) (i := backP n p k) (by omega)
        have hf' := nextP_lt (n := n) (i := foreP n p k) (by omega)
        have HBK := Go.Lib.hid (show backP n p (k + 1) = prevP n (backP n p k) from rfl)
        have HFK := Go.Lib.hid (show foreP n p (k + 1) = nextP n (foreP n p k) from rfl)
        clear hcs hr hkp
        generalize s.getD (k + 1) 0 = y at *
        generalize turnTo n zs p q s (k + 1) = us at *
        generalize prevP n (backP n p k) = u at *
        generalize nextP n (foreP n p k) = f at *
        obtain ⟨y1, y2⟩ := hx
        obtain ⟨v0, v1⟩ := mul_small q0 q1 y1 y2
        have em : IntKind.i64.wrap (q * y) = q * y := IntWalk.i64_in _ (by omega)
        have hu := hbd u
        have HB2 := Go.Lib.hid (hbd.add (k := u) (C := 20000) v0 v1)
        clear hbd
        go_wp2_with fail
        go_quiet (fail)
        obtain ⟨W, hW⟩ : ∃ W, wr.drewN nq = W := ⟨_, rfl⟩
        have hRW : Rng W g n us := hW ▸ HRK.out.drewN nq
        have HKW := Go.Lib.hid (show Keep g (g + 1) w W from hW ▸ HKK.out.drewN nq)
        have hs2 : W.cell? ⟨b0, o0 + 1 + k, none⟩ = some (.int .i64 y) := hW ▸ hcell2
        try rw [hW]
        clear hW hcell2 hpv hnx HRK HKK
        have hcu := hRW.val hb'
        have hfu := hRW.fr (u * 3)
        have HRA := Go.Lib.hid (hRW.add hb' (q * y))
        have HKA := Go.Lib.hid (keepAdd HKW.out (u * 3) (.int .i64 (us.getD u 0 + q * y)))
        obtain ⟨x, hx⟩ : ∃ x, us.getD u 0 = x := ⟨_, rfl⟩
        rw [hx] at hcu HRA HKA hu
        clear hx hRW
        obtain ⟨hu0, hu1⟩ := hu
        have ev : IntKind.i64.wrap (x + q * y) = x + q * y := IntWalk.i64_in _ (by omega)
        go_upto_region 7 with fail
        refine wp_gen (R := fun W2 => Rng W2 g n (addAt us u (q * y)) ∧ Keep g (g + 1) w W2) ⟨HRA.out, HKA.out⟩ ?_
        rintro W2 ⟨hR2, hK2⟩
        have HK2 := Go.Lib.hid hK2
        clear hK2 HRA HKA hcu hfu hs2 HKW
        have hb2 := HB2.out f
        generalize addAt us u (q * y) = us2 at *
        have hcf := hR2.val hf'
        have hff := hR2.fr (f * 3)
        have HRB := Go.Lib.hid (hR2.add hf' (q * y))
        have HKB := Go.Lib.hid (keepAdd HK2.out (f * 3) (.int .i64 (us2.getD f 0 + q * y)))
        obtain ⟨x2, hx2⟩ : ∃ x, us2.getD f 0 = x := ⟨_, rfl⟩
        rw [hx2] at hcf HRB HKB hb2
        clear hx2 hR2
        obtain ⟨hb20, hb21⟩ := hb2
        have ev2 : IntKind.i64.wrap (x2 + q * y) = x2 + q * y := IntWalk.i64_in _ (by omega)
        go_wp2_with fail
        go_roundw
        case rel => exact ⟨k + 1, by omega, by go_num, by rw [HBK.out], by rw [HFK.out], by rw [HST.out]; exact HRB.out, HKB.out⟩
        case measure => simp [intOf]; omega
end Go.Proofs.Ytpcaakmcjdginab
