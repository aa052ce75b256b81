/- The program: a copy of a list; a nipple is turned. -/
import Derived.Test.YtpcaakmcjdginaaTruI1
import Derived.Test.YtpcaakmcjdginaaTur
import Derived.StillTailTactics
import Derived.LaidEqlPtr
namespace Go.Proofs.Ytpcaakmcjdginaa
open Go.RowKit
set_option linter.unusedSimpArgs false
set_option linter.unusedVariables false

set_option maxRecDepth 100000 in
set_option maxHeartbeats 4000000 in
theorem implClone (A : Option Addr) (c : Nat) (zs : List Int) (w : World) (L : Ls zs A c w) (hp : 0 < zs.length) :
    Calls Try.prog 58 #[.slice A zs.length c] w fun e w' => ∃ g cap, e = .returned (.slice (some ⟨g, 0, none⟩) zs.length cap) ∧ Tur w zs.length g cap zs w' := by
  have hn := L.few
  obtain ⟨b, o, rfl, hlt, hcs⟩ := L.at_ hp
  have hc : ∀ j u, (ints zs)[j]? = some u → w.cell? ⟨b, o + j, none⟩ = some u := fun j u hu => by
    have hj : j < zs.length := by have := (List.getElem?_eq_some_iff.1 hu).1; rwa [ints_len] at this
    rw [hcs j hj, ← hu, ints_at zs j hj]
  have hnews := news_of (w := w.alloc (.cells #[] 2)) (b := b) (o := o) (zs := zs) (fun j u hu => (World.cell?_alloc_lt _ _ _ hlt).trans (hc j u hu))
  have hG := (Gat.start (Below.refl w.heap.size w))
  have hown := hG.row
  have HB := Go.Lib.hid hG.b
  obtain ⟨i0, hi, hz0, hz1, hz2⟩ := info_parts infoI64
  have hlen : (ints zs).length = zs.length * 1 := by rw [ints_len]; omega
  have HP := Go.Lib.hid hp
  have q22 : ∀ (w : World) (a : Option Addr) (n c n' c' : Nat), (binOp .eql 24 (.slice a n c) (.slice none n' c')).run Try.prog w = .ok (.bool a.isNone) w := fun w a n c n' c' => Lib.run_eql_slice_nil w _ _ a n c n' c' Try.underlying24
  clear hc hG hp hcs L
  go_enter Try.func58, Try.ntmps58
  go_wp2_with (at_builtin; refine wpList_append_own_at _ rfl _ _ 24 rfl w.heap.size 2 i0 (.int .i64 0) 1 8 Try.underlying24 hi hz0 hz1 hz2 rfl (by decide) _ 0 [] rfl hown ⟨b, o, none⟩ zs.length c (ints zs) rfl hlen hnews (ints_one zs) (by unfold maxLen; omega) (by omega) (by simp) ?_; intro v' w3 hown' hgrow hnil hat; clear hnil hat)
  rw [Nat.zero_add, List.nil_append] at hown'
  obtain ⟨A', cap', rfl, ho⟩ := row_ow hown'
  obtain ⟨g, rfl, -⟩ := ho.form HP.out
  have HO := Go.Lib.hid ho
  have HB3 := Go.Lib.hid (HB.out.trans ((Below.refl _ _).grown hgrow (by simp) (fun j e => by cases e; exact Nat.le_refl _)))
  clear hown' ho hgrow hown hnews
  go_wp2_with fail
  go_ret
  exact ⟨g, cap', rfl, HO.out, HB3.out⟩
theorem back_tmod {n p d : Nat} (hp : p < n) (hd : d < n) : ((p : Int) + n - d).tmod (n : Int) = ((backP n p d : Nat) : Int) := by
  rw [Int.tmod_eq_emod_of_nonneg (by omega), ← backP_mod hp d, show (p : Int) + n - d = (p - d) + n by omega, Int.add_emod_right]
theorem fore_tmod {n p d : Nat} (hp : p < n) : ((p : Int) + d).tmod (n : Int) = ((foreP n p d : Nat) : Int) := by
  rw [Int.tmod_eq_emod_of_nonneg (by omega), foreP_mod hp d]
theorem Ow.add {w : World} {lo hi n g cap : Nat} {xs : List Int} (h : Ow w lo hi 2 (some ⟨g, 0, none⟩) n cap (ints xs)) (k : Nat) (v : Int) : Ow (w.setCell ⟨g, k, none⟩ (.int .i64 (xs.getD k 0 + v))) lo hi 2 (some ⟨g, 0, none⟩) n cap (ints (addAt xs k v)) := by
  have h1 := h.set_ (k := k) (.int .i64 (xs.getD k 0 + v))
  rw [ints_set] at h1
  exact h1
theorem Ow.num {w : World} {lo hi n g cap : Nat} {xs : List Int} (h : Ow w lo hi 2 (some ⟨g, 0, none⟩) n cap (ints xs)) {k : Nat} (hk : k < n) : w.cell? ⟨g, k, none⟩ = some (.int .i64 (xs.getD k 0)) := by
  have hl := h.len
  rw [ints_len] at hl
  exact (h.cell hk).trans (ints_at xs k (by omega))
theorem keepAt {a w : World} {g : Nat} (h : Keep g (g + 1) a w) (k : Nat) (v : Value) : Keep g (g + 1) a (w.setCell ⟨g, k, none⟩ v) := h.setCell (p := ⟨g, k, none⟩) (Nat.le_refl _) (Nat.lt_succ_self _) v
/-- A list has been turned in place. -/
structure Devd (w : World) (lo hi n g cap : Nat) (xs : List Int) (w' : World) : Prop where
  ow : Ow w' lo hi 2 (some ⟨g, 0, none⟩) n cap (ints xs)
  kp : Keep g (g + 1) w w'
theorem Devd.add {w w' : World} {lo hi n g cap : Nat} {xs : List Int} (h : Devd w lo hi n g cap xs w') (k : Nat) (v : Int) : Devd w lo hi n g cap (addAt xs k v) (w'.setCell ⟨g, k, none⟩ (.int .i64 (xs.getD k 0 + v))) := ⟨h.ow.add k v, keepAt h.kp k _⟩
theorem Devd.drewN {w w' : World} {lo hi n g cap : Nat} {xs : List Int} (h : Devd w lo hi n g cap xs w') (m : Nat) : Devd w lo hi n g cap xs (w'.drewN m) := ⟨h.ow.drewN m, h.kp.drewN m⟩
set_option maxRecDepth 100000 in
set_option maxHeartbeats 8000000 in
theorem implDeviate (g n cap : Nat) (zs : List Int) (B : Option Addr) (b : Nat) (s : List Int) (p : Nat) (q : Int) (w : World) (lo hi : Nat) (O : Ow w lo hi 2 (some ⟨g, 0, none⟩) n cap (ints zs)) (S : Rd w 0 g B s.length (ints s)) (sc : s.length ≤ b) (hp : p < n) (h4 : 4 ≤ n) (h10 : n ≤ 10) (hS : Eff s) (r0 : -100 ≤ q) (r1 : q ≤ 100) (X : Int) (hX : Bd X zs) (hX0 : 0 ≤ X) (hX1 : X ≤ 100000000) :
    Calls Try.prog 59 #[.slice (some ⟨g, 0, none⟩) n cap, .slice B s.length b, .int .i64 p, .int .i64 q] w fun e w' => (∃ v, e = .returned v) ∧ Devd w lo hi n g cap (turn1 n zs p (sgQ p q) s) w' := by
  have hl := hS.lo
  have h3 := hS.hi
  obtain ⟨g', e, hlo, hhi, hgl⟩ := O.form (by omega)
  cases e
  have HGL := Go.Lib.hid hgl
  have HS := Go.Lib.hid S
  have HPN := Go.Lib.hid hp
  have HSR := Go.Lib.hid hS.rng
  obtain ⟨q0, q1⟩ := sgQ_bd (k := p) (q := q) (b := 100) r0 r1
  have HBD := Go.Lib.hid (fun (d : Nat) (hd : d ≤ s.length) => (bdTurnTo2 (n := n) (p := p) hX q0 q1 hS.rng d hd).mono (show X + 4000 * d ≤ X + 12000 by omega))
  have hle := O.le
  have hv := O.num hp
  have hfr := O.free p
  obtain ⟨b0, o0, rfl, -, hb0, hcs⟩ := S.at_ hl
  have hs0 : w.cell? ⟨b0, o0, none⟩ = some (.int .i64 (s.getD 0 0)) := hcs 0 _ (ints_at s 0 hl)
  have hy := rngB_at hS.rng (k := 0) hl
  have hbp := hX p
  have HSG := Go.Lib.hid (show turn1 n zs p (sgQ p q) s = turnTo n zs p (sgQ p q) s s.length from rfl)
  obtain ⟨t, ht⟩ : ∃ t, sgQ p q = t := ⟨_, rfl⟩
  have HQ := Go.Lib.hid ht
  rw [ht] at q0 q1 HBD HSG ⊢
  rw [HSG.out]
  clear ht HSG
  have HRA := Go.Lib.hid (((show Devd w lo hi n g cap zs w from ⟨O, Keep.refl _ _ _⟩).drewN 1).add p (t * s.getD 0 0))
  have HT1 := Go.Lib.hid (show turnTo n zs p t s 1 = addAt zs p (t * s.getD 0 0) from rfl)
  obtain ⟨y0, hy0⟩ : ∃ y0, s.getD 0 0 = y0 := ⟨_, rfl⟩
  rw [hy0] at hs0 hy HRA HT1
  obtain ⟨x, hx⟩ : ∃ x, zs.getD p 0 = x := ⟨_, rfl⟩
  rw [hx] at hv hbp HRA
  clear S O hS hcs hX hy0 hx
  obtain ⟨y1, y2⟩ := hy
  obtain ⟨v0, v1⟩ := mul_small2 q0 q1 y1 y2
  obtain ⟨x0, x1⟩ := hbp
  have hl0 : (0 : Int) < s.length := by omega
  have hpn : (p : Int) < n := by omega
  have hl2 : 0 < s.length := hl
  have hl1 : (1 : Int) ≤ s.length := by omega
  have hne : ¬ s = [] := by rintro rfl; simp at hl
  by_cases hpar : p % 2 = 0
  case pos =>
    have htq : -q = t := by rw [← HQ.out]; unfold sgQ; rw [if_pos hpar]
    have htm : (p : Int).tmod 2 = 0 := by rw [Int.tmod_eq_emod_of_nonneg (by omega)]; omega
    have ewn : IntKind.i64.wrap (-q) = t := by rw [htq]; exact IntWalk.i64_in _ (by omega)
    clear hpar HQ
    have em0 : IntKind.i64.wrap (t * y0) = t * y0 := IntWalk.i64_in _ (by omega)
    have ev0 : IntKind.i64.wrap (x + t * y0) = x + t * y0 := IntWalk.i64_in _ (by omega)
    go_enter Try.func59, Try.ntmps59
    go_upto_region 3 with fail
    go_still_tail 11, (by kernel_rfl)
    change wpList _ _ _ _ _ (w.drewN 1)
    have hv2 : (w.drewN 1).cell? ⟨g, p, none⟩ = some (.int .i64 x) := hv
    have hfr2 : (w.drewN 1).frozen? ⟨g, p, none⟩ = false := hfr
    clear hv hfr hs0
    generalize w.drewN 1 = wd at hv2 hfr2 HRA ⊢
    go_upto_region 4 with fail
    refine wp_gen (R := fun W2 => Devd w lo hi n g cap (addAt zs p (t * y0)) W2) HRA.out ?_
    rintro W1 hR1
    have HR1 := Go.Lib.hid hR1
    clear hR1 HRA hv2 hfr2
    go_wp2_with fail
    go_loopw [9] (fun u wr => ∃ d : Nat, 1 ≤ d ∧ d ≤ s.length ∧ u = .int .i64 d ∧ Devd w lo hi n g cap (turnTo n zs p t s d) wr) (fun u _ => s.length - (intOf u).toNat)
    case atStart => exact ⟨1, Nat.le_refl _, hl, rfl, by rw [HT1.out]; exact HR1.out⟩
    case round =>
      obtain ⟨d, hd1, hd, rfl, hr⟩ := hrel
      have HRK := Go.Lib.hid hr
      by_cases hlt : d < s.length
      case neg =>
        obtain rfl : d = s.length := by omega
        clear hr
        go_wp2_with fail
        go_end0
        exact ⟨⟨_, rfl⟩, HRK.out⟩
      case pos =>
        obtain ⟨b1, o1, e, -, hb1, hcs⟩ := (HS.out.keep hr.kp (Nat.le_of_lt HGL.out) (.inl (Nat.le_refl _))).at_ (k := d) hlt
        cases e
        have hcell : wr.cell? ⟨b0, o0 + d, none⟩ = some (.int .i64 (s.getD d 0)) := hcs d _ (ints_at s d hlt)
        have hx := rngB_at HSR.out (k := d) hlt
        have hbd := HBD.out d (by omega)
        have HSTP := Go.Lib.hid (show turnTo n zs p t s (d + 1) = stepD n (turnTo n zs p t s d) p t s d from rfl)
        unfold stepD at HSTP
        rw [if_neg (by omega)] at HSTP
        have hb' := backP_lt HPN.out d
        have hf' := foreP_lt HPN.out d
        have ht1 := back_tmod (n := n) (d := d) HPN.out (by omega)
        have ht2 := fore_tmod (n := n) (d := d) HPN.out
        have hdl : (d : Int) < s.length := by omega
        have ew1 : IntKind.i64.wrap ((p : Int) + n) = (p : Int) + n := IntWalk.i64_in _ (by omega)
        have ew2 : IntKind.i64.wrap ((p : Int) + n - d) = (p : Int) + n - d := IntWalk.i64_in _ (by omega)
        have ew3 : IntKind.i64.wrap ((p : Int) + d) = (p : Int) + d := IntWalk.i64_in _ (by omega)
        clear hcs hr
        generalize s.getD d 0 = y at *
        generalize turnTo n zs p t s d = us at *
        generalize backP n p d = u at *
        generalize foreP n p d = f at *
        obtain ⟨y1, y2⟩ := hx
        obtain ⟨v0, v1⟩ := mul_small2 q0 q1 y1 y2
        have em : IntKind.i64.wrap (t * y) = t * y := IntWalk.i64_in _ (by omega)
        obtain ⟨hu0, hu1⟩ := hbd u
        have HB2 := Go.Lib.hid (hbd.add (k := u) (C := 2000) v0 v1)
        have HRA := Go.Lib.hid ((HRK.out.drewN 1).add u (t * y))
        have hcu := HRK.out.ow.num hb'
        have hfu := HRK.out.ow.free u
        have hul : (u : Int) < n := by omega
        have hfl : (f : Int) < n := by omega
        have hn0 : ¬ (n : Int) = 0 := by omega
        have hnz : ¬ n = 0 := by omega
        have hnp : (0 : Int) < n := by omega
        have hup : (0 : Int) ≤ u := by omega
        have hfp : (0 : Int) ≤ f := by omega
        have ew4 : IntKind.i64.wrap (u : Int) = u := IntWalk.i64_in _ (by omega)
        have ew5 : IntKind.i64.wrap (f : Int) = f := IntWalk.i64_in _ (by omega)
        have HSN := Go.Lib.hid (show b0 < g from hb1)
        clear hbd
        obtain ⟨x2, hx2⟩ : ∃ x, us.getD u 0 = x := ⟨_, rfl⟩
        rw [hx2] at hcu HRA hu0 hu1
        clear hx2
        have ev : IntKind.i64.wrap (x2 + t * y) = x2 + t * y := IntWalk.i64_in _ (by omega)
        go_upto_region 7 with fail
        go_still_tail 18, (by kernel_rfl)
        change wpList _ _ _ _ _ (wr.drewN 1)
        have hcu2 : (wr.drewN 1).cell? ⟨g, u, none⟩ = some (.int .i64 x2) := hcu
        have hfu2 : (wr.drewN 1).frozen? ⟨g, u, none⟩ = false := hfu
        have hcell2 : (wr.drewN 1).cell? ⟨b0, o0 + d, none⟩ = some (.int .i64 y) := hcell
        have HC2 := Go.Lib.hid hcell2
        clear hcu hfu hcell HRK
        generalize wr.drewN 1 = wd2 at hcu2 hfu2 hcell2 HRA HC2 ⊢
        go_upto_region 8 with fail
        refine wp_gen (R := fun W2 => Devd w lo hi n g cap (addAt us u (t * y)) W2 ∧ W2.cell? ⟨b0, o0 + d, none⟩ = some (.int .i64 y)) ⟨HRA.out, (cell_far (show b0 ≠ g by have := HSN.out; omega)).trans HC2.out⟩ ?_
        rintro W2 ⟨hR2, hc2⟩
        clear HRA hcu2 hfu2 hcell2 HC2
        obtain ⟨hb20, hb21⟩ := HB2.out f
        generalize addAt us u (t * y) = us2 at *
        have HRB := Go.Lib.hid ((hR2.drewN 1).add f (t * y))
        have hcf := hR2.ow.num hf'
        have hff := hR2.ow.free f
        clear hR2
        obtain ⟨x3, hx3⟩ : ∃ x, us2.getD f 0 = x := ⟨_, rfl⟩
        rw [hx3] at hcf HRB hb20 hb21
        clear hx3
        have ev2 : IntKind.i64.wrap (x3 + t * y) = x3 + t * y := IntWalk.i64_in _ (by omega)
        go_still_tail 16, (by kernel_rfl)
        change wpList _ _ _ _ _ (W2.drewN 1)
        have hcf2 : (W2.drewN 1).cell? ⟨g, f, none⟩ = some (.int .i64 x3) := hcf
        have hff2 : (W2.drewN 1).frozen? ⟨g, f, none⟩ = false := hff
        clear hcf hff hc2
        generalize W2.drewN 1 = wd3 at hcf2 hff2 HRB ⊢
        go_wp2_with fail
        go_roundw
        case rel => exact ⟨d + 1, by omega, by omega, by go_num, by rw [HSTP.out]; exact HRB.out⟩
        case measure => simp [intOf]; omega
  case neg =>
    have htq : t = q := by rw [← HQ.out]; unfold sgQ; rw [if_neg hpar]
    have htm : (p : Int).tmod 2 = 1 := by rw [Int.tmod_eq_emod_of_nonneg (by omega)]; omega
    subst htq
    clear hpar HQ
    have em0 : IntKind.i64.wrap (t * y0) = t * y0 := IntWalk.i64_in _ (by omega)
    have ev0 : IntKind.i64.wrap (x + t * y0) = x + t * y0 := IntWalk.i64_in _ (by omega)
    go_enter Try.func59, Try.ntmps59
    go_upto_region 3 with fail
    go_still_tail 11, (by kernel_rfl)
    change wpList _ _ _ _ _ (w.drewN 1)
    have hv2 : (w.drewN 1).cell? ⟨g, p, none⟩ = some (.int .i64 x) := hv
    have hfr2 : (w.drewN 1).frozen? ⟨g, p, none⟩ = false := hfr
    clear hv hfr hs0
    generalize w.drewN 1 = wd at hv2 hfr2 HRA ⊢
    go_upto_region 4 with fail
    refine wp_gen (R := fun W2 => Devd w lo hi n g cap (addAt zs p (t * y0)) W2) HRA.out ?_
    rintro W1 hR1
    have HR1 := Go.Lib.hid hR1
    clear hR1 HRA hv2 hfr2
    go_wp2_with fail
    go_loopw [9] (fun u wr => ∃ d : Nat, 1 ≤ d ∧ d ≤ s.length ∧ u = .int .i64 d ∧ Devd w lo hi n g cap (turnTo n zs p t s d) wr) (fun u _ => s.length - (intOf u).toNat)
    case atStart => exact ⟨1, Nat.le_refl _, hl, rfl, by rw [HT1.out]; exact HR1.out⟩
    case round =>
      obtain ⟨d, hd1, hd, rfl, hr⟩ := hrel
      have HRK := Go.Lib.hid hr
      by_cases hlt : d < s.length
      case neg =>
        obtain rfl : d = s.length := by omega
        clear hr
        go_wp2_with fail
        go_end0
        exact ⟨⟨_, rfl⟩, HRK.out⟩
      case pos =>
        obtain ⟨b1, o1, e, -, hb1, hcs⟩ := (HS.out.keep hr.kp (Nat.le_of_lt HGL.out) (.inl (Nat.le_refl _))).at_ (k := d) hlt
        cases e
        have hcell : wr.cell? ⟨b0, o0 + d, none⟩ = some (.int .i64 (s.getD d 0)) := hcs d _ (ints_at s d hlt)
        have hx := rngB_at HSR.out (k := d) hlt
        have hbd := HBD.out d (by omega)
        have HSTP := Go.Lib.hid (show turnTo n zs p t s (d + 1) = stepD n (turnTo n zs p t s d) p t s d from rfl)
        unfold stepD at HSTP
        rw [if_neg (by omega)] at HSTP
        have hb' := backP_lt HPN.out d
        have hf' := foreP_lt HPN.out d
        have ht1 := back_tmod (n := n) (d := d) HPN.out (by omega)
        have ht2 := fore_tmod (n := n) (d := d) HPN.out
        have hdl : (d : Int) < s.length := by omega
        have ew1 : IntKind.i64.wrap ((p : Int) + n) = (p : Int) + n := IntWalk.i64_in _ (by omega)
        have ew2 : IntKind.i64.wrap ((p : Int) + n - d) = (p : Int) + n - d := IntWalk.i64_in _ (by omega)
        have ew3 : IntKind.i64.wrap ((p : Int) + d) = (p : Int) + d := IntWalk.i64_in _ (by omega)
        clear hcs hr
        generalize s.getD d 0 = y at *
        generalize turnTo n zs p t s d = us at *
        generalize backP n p d = u at *
        generalize foreP n p d = f at *
        obtain ⟨y1, y2⟩ := hx
        obtain ⟨v0, v1⟩ := mul_small2 q0 q1 y1 y2
        have em : IntKind.i64.wrap (t * y) = t * y := IntWalk.i64_in _ (by omega)
        obtain ⟨hu0, hu1⟩ := hbd u
        have HB2 := Go.Lib.hid (hbd.add (k := u) (C := 2000) v0 v1)
        have HRA := Go.Lib.hid ((HRK.out.drewN 1).add u (t * y))
        have hcu := HRK.out.ow.num hb'
        have hfu := HRK.out.ow.free u
        have hul : (u : Int) < n := by omega
        have hfl : (f : Int) < n := by omega
        have hn0 : ¬ (n : Int) = 0 := by omega
        have hnz : ¬ n = 0 := by omega
        have hnp : (0 : Int) < n := by omega
        have hup : (0 : Int) ≤ u := by omega
        have hfp : (0 : Int) ≤ f := by omega
        have ew4 : IntKind.i64.wrap (u : Int) = u := IntWalk.i64_in _ (by omega)
        have ew5 : IntKind.i64.wrap (f : Int) = f := IntWalk.i64_in _ (by omega)
        have HSN := Go.Lib.hid (show b0 < g from hb1)
        clear hbd
        obtain ⟨x2, hx2⟩ : ∃ x, us.getD u 0 = x := ⟨_, rfl⟩
        rw [hx2] at hcu HRA hu0 hu1
        clear hx2
        have ev : IntKind.i64.wrap (x2 + t * y) = x2 + t * y := IntWalk.i64_in _ (by omega)
        go_upto_region 7 with fail
        go_still_tail 18, (by kernel_rfl)
        change wpList _ _ _ _ _ (wr.drewN 1)
        have hcu2 : (wr.drewN 1).cell? ⟨g, u, none⟩ = some (.int .i64 x2) := hcu
        have hfu2 : (wr.drewN 1).frozen? ⟨g, u, none⟩ = false := hfu
        have hcell2 : (wr.drewN 1).cell? ⟨b0, o0 + d, none⟩ = some (.int .i64 y) := hcell
        have HC2 := Go.Lib.hid hcell2
        clear hcu hfu hcell HRK
        generalize wr.drewN 1 = wd2 at hcu2 hfu2 hcell2 HRA HC2 ⊢
        go_upto_region 8 with fail
        refine wp_gen (R := fun W2 => Devd w lo hi n g cap (addAt us u (t * y)) W2 ∧ W2.cell? ⟨b0, o0 + d, none⟩ = some (.int .i64 y)) ⟨HRA.out, (cell_far (show b0 ≠ g by have := HSN.out; omega)).trans HC2.out⟩ ?_
        rintro W2 ⟨hR2, hc2⟩
        clear HRA hcu2 hfu2 hcell2 HC2
        obtain ⟨hb20, hb21⟩ := HB2.out f
        generalize addAt us u (t * y) = us2 at *
        have HRB := Go.Lib.hid ((hR2.drewN 1).add f (t * y))
        have hcf := hR2.ow.num hf'
        have hff := hR2.ow.free f
        clear hR2
        obtain ⟨x3, hx3⟩ : ∃ x, us2.getD f 0 = x := ⟨_, rfl⟩
        rw [hx3] at hcf HRB hb20 hb21
        clear hx3
        have ev2 : IntKind.i64.wrap (x3 + t * y) = x3 + t * y := IntWalk.i64_in _ (by omega)
        go_still_tail 16, (by kernel_rfl)
        change wpList _ _ _ _ _ (W2.drewN 1)
        have hcf2 : (W2.drewN 1).cell? ⟨g, f, none⟩ = some (.int .i64 x3) := hcf
        have hff2 : (W2.drewN 1).frozen? ⟨g, f, none⟩ = false := hff
        clear hcf hff hc2
        generalize W2.drewN 1 = wd3 at hcf2 hff2 HRB ⊢
        go_wp2_with fail
        go_roundw
        case rel => exact ⟨d + 1, by omega, by omega, by go_num, by rw [HSTP.out]; exact HRB.out⟩
        case measure => simp [intOf]; omega
end Go.Proofs.Ytpcaakmcjdginaa
