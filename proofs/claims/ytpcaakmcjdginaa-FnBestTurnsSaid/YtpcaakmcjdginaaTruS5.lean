/- The model: truing by turns. -/
import Derived.Test.YtpcaakmcjdginaaTruS4
namespace Go.Proofs.Ytpcaakmcjdginaa
open Go.RowKit
set_option linter.unusedSimpArgs false
set_option linter.unusedVariables false

theorem Tur.below {w wr w2 : World} {n g cap : Nat} {xs : List Int} (h : Tur w n g cap xs wr) (hb : Below wr.heap.size wr w2) : Tur w n g cap xs w2 :=
  ⟨(h.ow.below hb (Nat.le_refl _)).raise hb.size, h.b.trans (hb.mono h.b.size)⟩
/-- The list that is left to true: it lies beside block g. -/
structure Beside (g n : Nat) (zs : List Int) (D : Option Addr) (d : Nat) (W : World) : Prop where
  len : zs.length = n
  le : n ≤ d
  rd : ∃ lo hi, Rd W lo hi D n (ints zs) ∧ hi ≤ W.heap.size ∧ (hi ≤ g ∨ g < lo)
theorem Beside.ls {g n : Nat} {zs : List Int} {D : Option Addr} {d : Nat} {W : World} (h : Beside g n zs D d W) (hn : n ≤ 1048576) : Ls zs D d W := by
  obtain ⟨lo, hi, hr, -, -⟩ := h.rd
  have := h.len
  subst this
  exact ⟨hr.here, h.le, hn⟩
theorem Beside.below {g n : Nat} {zs : List Int} {D : Option Addr} {d : Nat} {W W2 : World} (h : Beside g n zs D d W) (b : Below W.heap.size W W2) : Beside g n zs D d W2 := by
  obtain ⟨lo, hi, hr, h1, h2⟩ := h.rd
  exact ⟨h.len, h.le, lo, hi, hr.below b h1, Nat.le_trans h1 b.size, h2⟩
theorem Beside.set {g n k : Nat} {zs : List Int} {D : Option Addr} {d : Nat} {W : World} (h : Beside g n zs D d W) (v : Value) : Beside g n zs D d (W.setCell ⟨g, k, none⟩ v) := by
  obtain ⟨lo, hi, hr, h1, h2⟩ := h.rd
  have hk : Keep g (g + 1) W (W.setCell ⟨g, k, none⟩ v) := (Keep.refl _ _ W).setCell (p := ⟨g, k, none⟩) (Nat.le_refl _) (Nat.lt_succ_self _) v
  exact ⟨h.len, h.le, lo, hi, hr.keep hk h1 (by omega), Nat.le_trans h1 hk.size, h2⟩
set_option maxRecDepth 100000 in
set_option maxHeartbeats 8000000 in
theorem specBy (A : Option Addr) (c : Nat) (zs : List Int) (B : Option Addr) (b : Nat) (s : List Int) (m : Int) (w : World) (L : Ls zs A c w) (L2 : Ls s B b w) (n : Nat) (hnn : zs.length = n) :
    Calls Try.prog 34 #[.slice A n c, .slice B s.length b, .int .i64 m] w (GivesLN (byR zs s m) w) := by
  have HC := Go.Lib.hid (specCode8 A c zs B b s 0 w L L2)
  have HI := Go.Lib.hid (inN2 m 0 40 w)
  have HL := Go.Lib.hid L
  have HS := Go.Lib.hid L2
  rw [hnn] at HC
  clear L L2
  by_cases h1 : (devB zs && effB s) = true
  case neg =>
    have HV := Go.Lib.hid (show byR zs s m = ([], 1) by unfold byR; rw [if_neg h1])
    rw [show code8 zs s 0 = 1 by unfold code8; rw [if_neg h1]] at HC
    clear h1 hnn
    go_enter Try.func34, Try.ntmps34
    go_wp2_with fail
    refine (HC.out).mono ?_
    rintro _ _ ⟨rfl, rfl⟩
    go_wp2_with fail
    go_ret2
    exact GivesLN.nil HV.out (Below.refl _ _)
  case pos =>
  rw [show code8 zs s 0 = 0 by unfold code8; rw [if_pos h1]; rfl] at HC
  by_cases h2 : (decide (0 ≤ m) && decide (m ≤ 40)) = true
  case neg =>
    have HV := Go.Lib.hid (show byR zs s m = ([], 2) by unfold byR; rw [if_pos h1, if_neg h2])
    rw [Bool.not_eq_true] at h2
    rw [show inB m 0 40 = false from h2] at HI
    clear h1 hnn h2
    go_enter Try.func34, Try.ntmps34
    go_wp2_with fail
    refine (HC.out).mono ?_
    rintro _ _ ⟨rfl, rfl⟩
    go_wp2_with fail
    refine (HI.out).mono ?_
    rintro _ _ ⟨rfl, rfl⟩
    go_wp2_with fail
    go_ret2
    exact GivesLN.nil HV.out (Below.refl _ _)
  case pos =>
  have HV := Go.Lib.hid (show byR zs s m = (trueTo s m.toNat zs (List.replicate n 0), 0) by unfold byR; rw [if_pos h1, if_pos h2, hnn])
  rw [show inB m 0 40 = true from h2] at HI
  have hm : 0 ≤ m ∧ m ≤ 40 := by simpa using h2
  rw [Bool.and_eq_true] at h1
  have hD := devB_iff.1 h1.1
  have HE := Go.Lib.hid (effB_iff.1 h1.2)
  have h4 : 4 ≤ n := hnn ▸ hD.lo
  have h10 : n ≤ 10 := hnn ▸ hD.hi
  have HBD := Go.Lib.hid hD.bd
  have HNN := Go.Lib.hid hnn
  obtain ⟨k0, rfl⟩ := Int.eq_ofNat_of_zero_le hm.1
  rw [Int.toNat_natCast] at HV
  obtain ⟨-, hm40⟩ := hm
  have hk40 : k0 ≤ 40 := by omega
  obtain ⟨i0, hi, hz0, hz1, hz2⟩ := info_parts infoI64
  clear h1 h2 hD hnn
  go_enter Try.func34, Try.ntmps34
  go_wp2_with fail
  refine (HC.out).mono ?_
  rintro _ _ ⟨rfl, rfl⟩
  go_wp2_with fail
  refine (HI.out).mono ?_
  rintro _ _ ⟨rfl, rfl⟩
  go_wp2_with (at_make; refine wpList_make_full _ rfl _ _ 24 rfl w.heap.size 2 i0 (.int .i64 0) 1 Try.underlying24 hi hz0 hz1 .i64 .i64 _ _ n rfl rfl rfl rfl (by rw [hz2]; omega) (by unfold maxLen; omega) (Nat.le_refl _) ?_; intro w1 hown hg; have HO := Go.Lib.hid (made_zero hown); have HG := Go.Lib.hid ((Below.refl w.heap.size w).grown hg (Nat.le_refl _) (by simp)); clear hown hg)
  obtain ⟨g, hg⟩ : ∃ g, w.heap.size = g := ⟨_, rfl⟩
  have HT0 := Go.Lib.hid (show Tur w n g n (List.replicate n 0) w1 from ⟨by rw [← hg]; exact HO.out, HG.out⟩)
  have HB0 := Go.Lib.hid (show Beside g n zs A c w1 from by
    have L1 := HL.out.below HG.out
    refine ⟨HNN.out, by have := HL.out.le; have := HNN.out; omega, 0, w.heap.size, ?_, HG.out.size, .inl (by omega)⟩
    have := HL.out.rd.below HG.out (Nat.le_refl _)
    rwa [HNN.out] at this)
  have HZ0 := Go.Lib.hid (show Bd ((k0 - k0 : Nat) : Int) (List.replicate n 0) from fun j => by
    have : (List.replicate n (0 : Int)).getD j 0 = 0 := by simp [List.getD, List.getElem?_replicate]; split <;> rfl
    rw [this]; omega)
  rw [hg]
  have HGG := Go.Lib.hid hg
  clear hg HO HG hz0 hz1 hz2 hi
  go_loopw [0, 2] (fun l u wr => ∃ (ys out : List Int) (D : Option Addr) (d k : Nat), l = .slice D n d ∧ u = .int .i64 k ∧ k ≤ k0 ∧ Beside g n ys D d wr ∧ Tur w n g n out wr ∧ Bd (500 + 120000 * (k0 - k : Nat)) ys ∧ Bd ((k0 - k : Nat) : Int) out ∧ trueTo s k0 zs (List.replicate n 0) = trueTo s k ys out) (fun _ u _ => (intOf u).toNat)
  case atStart => exact ⟨zs, List.replicate n 0, A, c, k0, rfl, rfl, Nat.le_refl _, HB0.out, HT0.out, HBD.out.mono (by omega), HZ0.out, rfl⟩
  case round =>
    obtain ⟨ys, out, D, d, k, rfl, rfl, hk, hbs, htu, hbd, hbo, hV⟩ := hrel
    clear HT0 HB0 HBD
    have HBS := Go.Lib.hid hbs
    have HTU := Go.Lib.hid htu
    have HBD := Go.Lib.hid hbd
    have HVV := Go.Lib.hid hV
    have HBO := Go.Lib.hid hbo
    clear hbs htu hbd hV hbo HZ0
    have fin : ∀ us, trueTo s k0 zs (List.replicate n 0) = us → us = out → GivesLN (byR zs s k0) w (.returned (.tuple #[.slice (some ⟨g, 0, none⟩) n n, .int .i64 0])) wr := fun us e1 e2 => by
      subst e2
      exact GivesLN.own (HV.out.trans (by rw [e1])) HTU.out.len HTU.out.ow HTU.out.b
    have HFIN := Go.Lib.hid fin
    clear fin
    cases k with
    | zero =>
      go_wp2_with fail
      go_ret2
      exact HFIN.out _ HVV.out rfl
    | succ k =>
      have hBX : Bd 9000000 ys := HBD.out.mono (by omega)
      have HBE := Go.Lib.hid (specBest D d ys B b s wr (HBS.out.ls (by omega)) (HS.out.below HTU.out.b) n HBS.out.len h4 h10 HE.out 9000000 hBX (by omega) (by omega))
      have hok : (bestI ys s).Ok (ys.length : Nat) := bestTo_bd ys s ys.length
      rw [HBS.out.len] at hok
      have HST := Go.Lib.hid (show trueTo s (k + 1) ys out = if (bestI ys s).p < 0 then out else trueTo s k (afterI ys s (oneT ys.length (bestI ys s).p.toNat (bestI ys s).q)) (addAt out (bestI ys s).p.toNat (bestI ys s).q) from rfl)
      rw [HBS.out.len] at HST
      generalize bestI ys s = bb at *
      obtain ⟨p, q, sq⟩ := bb
      dsimp only [Best.Ok] at hok HST HBE
      have hkp : (0 : Int) < ((k + 1 : Nat) : Int) := by omega
      by_cases hp : p < 0
      case pos =>
        rw [if_pos hp] at HST
        clear hok hBX
        go_wp2_with fail
        refine HBE.out.mono ?_
        rintro _ w2 ⟨rfl, b2⟩
        have HT2 := Go.Lib.hid (HTU.out.below b2)
        clear b2
        go_wp2_with fail
        go_ret2
        exact GivesLN.own (HV.out.trans (by rw [HVV.out, HST.out])) HT2.out.len HT2.out.ow HT2.out.b
      case neg =>
        rw [if_neg hp] at HST
        obtain ⟨j, rfl⟩ := Int.eq_ofNat_of_zero_le (show 0 ≤ p by omega)
        rw [Int.toNat_natCast] at HST
        have hjn : j < n := by omega
        have hq : q = 1 ∨ q = -1 := by omega
        have hqa : -1 ≤ q := by omega
        have hqb : q ≤ 1 := by omega
        have hq0 : -100 ≤ q := by omega
        have hq1 : q ≤ 100 := by omega
        have hjl : (j : Int) < n := by omega
        have hj0 : (0 : Int) ≤ j := by omega
        have hOR := oneT_rng2 hjn hq0 hq1
        have hol := oneT_len n j q
        have HAF := Go.Lib.hid (fun C e w0 L0 L1 L2 => specAfter D d ys B b s C e (oneT n j q) w0 L0 L1 L2 n HBS.out.len h4 h10 HE.out hOR hol 9000000 hBX (by omega) (by omega))
        rw [hol] at HAF
        have HBN := Go.Lib.hid (show Bd (500 + 120000 * (k0 - k : Nat)) (afterI ys s (oneT n j q)) from (afterI_bd HBD.out HE.out hOR (hol.trans HBS.out.len.symm) (by have := HBS.out.len; omega)).mono (by omega))
        have HAL := Go.Lib.hid ((afterI_len ys s (oneT n j q)).trans HBS.out.len)
        have HOL := Go.Lib.hid hol
        have HO1 := Go.Lib.hid (fun w0 => specOne n j q w0 hjn (by omega))
        clear hOR hol hok hp hq hBX
        generalize oneT n j q = os at *
        generalize afterI ys s os = us at *
        go_wp2_with fail
        refine HBE.out.mono ?_
        rintro _ w2 ⟨rfl, b2⟩
        have HT2 := Go.Lib.hid (HTU.out.below b2)
        have HBS2 := Go.Lib.hid (HBS.out.below b2)
        clear b2
        have hcx := HT2.out.cell hjn
        have fx := HT2.out.ow.free j
        have HT3 := Go.Lib.hid (HT2.out.add (by omega) j q)
        have hxb := HBO.out j
        have HBO2 := Go.Lib.hid (show Bd ((k0 - k : Nat) : Int) (addAt out j q) from (HBO.out.add (k := j) (C := 1) (by omega) (by omega)).mono (by omega))
        have HBS3 := Go.Lib.hid (HBS2.out.set (k := j) (.int .i64 (out.getD j 0 + q)))
        obtain ⟨x, hx⟩ : ∃ x, out.getD j 0 = x := ⟨_, rfl⟩
        rw [hx] at hcx HT3 hxb HBS3
        clear hx
        obtain ⟨xb0, xb1⟩ := hxb
        have ev : IntKind.i64.wrap (x + q) = x + q := IntWalk.i64_in _ (by omega)
        have hpn : ¬ (j : Int) < 0 := by omega
        go_upto_region 12 with fail
        refine wp_gen (R := fun W => Tur w n g n (addAt out j q) W ∧ Beside g n ys D d W) ⟨HT3.out, HBS3.out⟩ ?_
        rintro W ⟨hT, hBs⟩
        have HT4 := Go.Lib.hid hT
        have HB4 := Go.Lib.hid hBs
        clear hT hBs HT3 HBS3 hcx fx HT2 HBS2
        generalize addAt out j q = out2 at *
        go_wp2_with fail
        refine (HO1.out _).mono ?_
        rintro _ w3 ⟨g3, rfl, ho, b3⟩
        have HT5 := Go.Lib.hid (HT4.out.below b3)
        have HB5 := Go.Lib.hid (HB4.out.below b3)
        have HOS := Go.Lib.hid (show Ls os (some ⟨g3, 0, none⟩) n w3 from ⟨by rw [HOL.out]; exact ho.rd.here, by rw [HOL.out]; exact Nat.le_refl _, by rw [HOL.out]; omega⟩)
        clear ho b3 HT4 HB4
        go_wp2_with fail
        refine (HAF.out _ _ _ (HB5.out.ls (by omega)) (HS.out.below HT5.out.b) HOS.out).mono ?_
        rintro _ w4 ⟨g4, cap4, rfl, ht⟩
        have HT6 := Go.Lib.hid (HT5.out.below ht.b)
        have HB6 := Go.Lib.hid (show Beside g n us (some ⟨g4, 0, none⟩) cap4 w4 from ⟨HAL.out, ht.ow.le, w3.heap.size, w4.heap.size, ht.ow.rd, Nat.le_refl _, .inr (HT5.out.lo (by omega)).2⟩)
        clear ht
        go_wp2_with fail
        go_roundw
        case rel => exact ⟨us, out2, _, cap4, k, rfl, by go_num, by omega, HB6.out, HT6.out, HBN.out, HBO2.out, by rw [HVV.out, HST.out]⟩
        case measure => first | (simp [intOf]; done) | (simp [intOf]; omega)
end Go.Proofs.Ytpcaakmcjdginaa
