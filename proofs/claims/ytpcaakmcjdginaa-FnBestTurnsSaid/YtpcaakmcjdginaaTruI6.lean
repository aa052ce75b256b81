/- The program: the search for the least plan. -/
import Derived.Test.YtpcaakmcjdginaaTruI4
import Derived.Test.YtpcaakmcjdginaaTwo
import Derived.WalkLawsBesides
namespace Go.Proofs.Ytpcaakmcjdginaa
open Go.RowKit
set_option linter.unusedSimpArgs false
set_option linter.unusedVariables false

/-- A search: its struct, the deviations that are left, the plan so far; the effect lies below. -/
structure Sch (base g a ca p cp n : Nat) (B : Option Addr) (b : Nat) (s : List Int) (tol : Int) (us ts : List Int) (w : World) : Prop where
  hd : Box w g [.slice (some ⟨a, 0, none⟩) n ca, .slice B s.length b, .int .i64 tol, .slice (some ⟨p, 0, none⟩) n cp]
  la : Ow w a (a + 1) 2 (some ⟨a, 0, none⟩) n ca (ints us)
  lp : Ow w p (p + 1) 2 (some ⟨p, 0, none⟩) n cp (ints ts)
  sr : Rd w 0 base B s.length (ints s)
  ap : a ≠ p
  ag : a ≠ g
  pg : p ≠ g
  a0 : base ≤ a
  p0 : base ≤ p
  g0 : base ≤ g
  au : a < w.heap.size
  pu : p < w.heap.size
section
variable {base g a ca p cp n b : Nat} {B : Option Addr} {s us ts xs : List Int} {tol : Int} {w w' : World}
theorem Sch.size (h : Sch base g a ca p cp n B b s tol us ts w) : base ≤ w.heap.size := Nat.le_trans h.a0 (Nat.le_of_lt h.au)
theorem Sch.lenp (h : Sch base g a ca p cp n B b s tol us ts w) : ts.length = n := by have := h.lp.len; rwa [ints_len] at this
theorem Sch.lena (h : Sch base g a ca p cp n B b s tol us ts w) : us.length = n := by have := h.la.len; rwa [ints_len] at this
theorem Sch.ls (h : Sch base g a ca p cp n B b s tol us ts w) (hf : n ≤ 1048576) : Ls us (some ⟨a, 0, none⟩) ca w := by
  have hl := h.lena
  subst hl
  exact ⟨h.la.rd.here, h.la.le, hf⟩
theorem Sch.drewN (h : Sch base g a ca p cp n B b s tol us ts w) (m : Nat) : Sch base g a ca p cp n B b s tol us ts (w.drewN m) :=
  ⟨h.hd.drewN m, h.la, h.lp, h.sr, h.ap, h.ag, h.pg, h.a0, h.p0, h.g0, h.au, h.pu⟩
theorem Sch.add (h : Sch base g a ca p cp n B b s tol us ts w) (k : Nat) (v : Int) : Sch base g a ca p cp n B b s tol us (addAt ts k v) (w.setCell ⟨p, k, none⟩ (.int .i64 (ts.getD k 0 + v))) := by
  have hk := keepAt (Keep.refl p (p + 1) w) k (.int .i64 (ts.getD k 0 + v))
  have h1 := h.ap
  have h2 := h.pg
  have h3 := h.p0
  have h4 := h.size
  exact ⟨h.hd.keep hk (by omega), h.la.keep hk (Nat.succ_le_of_lt h.au) (by omega), h.lp.add k v, h.sr.keep hk h4 (by omega), h.ap, h.ag, h.pg, h.a0, h.p0, h.g0, Nat.lt_of_lt_of_le h.au hk.size, Nat.lt_of_lt_of_le h.pu hk.size⟩
theorem Sch.dev (h : Sch base g a ca p cp n B b s tol us ts w) (d : Devd w a (a + 1) n a ca xs w') : Sch base g a ca p cp n B b s tol xs ts w' := by
  have h1 := h.ap
  have h2 := h.ag
  have h3 := h.a0
  have h4 := h.size
  exact ⟨h.hd.keep d.kp (by omega), d.ow, h.lp.keep d.kp (Nat.succ_le_of_lt h.pu) (by omega), h.sr.keep d.kp h4 (by omega), h.ap, h.ag, h.pg, h.a0, h.p0, h.g0, Nat.lt_of_lt_of_le h.au d.kp.size, Nat.lt_of_lt_of_le h.pu d.kp.size⟩
theorem Sch.near (h : Sch base g a ca p cp n B b s tol us ts w) : Rd w 0 a B s.length (ints s) := h.sr.mono (Nat.le_refl _) h.a0
end
set_option maxRecDepth 100000 in
set_option maxHeartbeats 8000000 in
theorem implTurnS (base g a ca p cp n : Nat) (B : Option Addr) (b : Nat) (s : List Int) (tol : Int) (us ts : List Int) (w : World) (H : Sch base g a ca p cp n B b s tol us ts w) (sc : s.length ≤ b) (i : Nat) (q : Int) (hi : i < n) (h4 : 4 ≤ n) (h10 : n ≤ 10) (hS : Eff s) (r0 : -100 ≤ q) (r1 : q ≤ 100) (X : Int) (hX : Bd X us) (hX0 : 0 ≤ X) (hX1 : X ≤ 100000000) (hT : Bd 1000 ts) :
    Calls Try.prog 81 #[.pointer (some ⟨g, 0, none⟩), .int .i64 i, .int .i64 q] w fun e w' => (∃ v, e = .returned v) ∧ Sch base g a ca p cp n B b s tol (turn1 n us i (sgQ i q) s) (addAt ts i q) w' ∧ Below base w w' := by
  have hc3 : w.cell? ⟨g, 3, none⟩ = some (.slice (some ⟨p, 0, none⟩) n cp) := H.hd.at_ 3 _ rfl
  have hcx := H.lp.num hi
  have fx := H.lp.free i
  have hxb := hT i
  have HA := Go.Lib.hid (H.add i q)
  have HB0 := Go.Lib.hid (show Below base w (w.setCell ⟨p, i, none⟩ (.int .i64 (ts.getD i 0 + q))) from (Below.refl _ _).setCell (p := ⟨p, i, none⟩) H.p0 _)
  have hpu := H.lp.le
  obtain ⟨x, hx⟩ : ∃ x, ts.getD i 0 = x := ⟨_, rfl⟩
  rw [hx] at hcx hxb HA HB0
  obtain ⟨x0, x1⟩ := hxb
  have ev : IntKind.i64.wrap (x + q) = x + q := IntWalk.i64_in _ (by omega)
  have hil : (i : Int) < n := by omega
  have hi0 : ¬ (i : Int) < 0 := by omega
  have HDV := Go.Lib.hid (fun w0 O S => implDeviate a n ca us B b s i q w0 a (a + 1) O S sc hi h4 h10 hS r0 r1 X hX hX0 hX1)
  clear H hx hT hX hS
  go_enter Try.func81, Try.ntmps81
  go_upto_region 1 with fail
  refine wp_gen (R := fun W => Sch base g a ca p cp n B b s tol us (addAt ts i q) W ∧ Below base w W) ⟨HA.out, HB0.out⟩ ?_
  rintro W ⟨hs, hb⟩
  have HS2 := Go.Lib.hid (hs.drewN 1)
  have HB2 := Go.Lib.hid (below_drewN hb 1)
  have hc0 : W.cell? ⟨g, 0, none⟩ = some (.slice (some ⟨a, 0, none⟩) n ca) := hs.hd.at_ 0 _ rfl
  have hc1 : W.cell? ⟨g, 1, none⟩ = some (.slice B s.length b) := hs.hd.at_ 1 _ rfl
  have HD2 := Go.Lib.hid (HDV.out (W.drewN 1) HS2.out.la HS2.out.near)
  clear hs hb HA HB0 hc3 hcx fx HDV
  go_still_tail 10, (by kernel_rfl)
  change wpList _ _ _ _ _ (W.drewN 1)
  clear hc0 hc1
  generalize W.drewN 1 = W1 at *
  go_wp2_with fail
  refine HD2.out.mono ?_
  rintro _ w3 ⟨⟨v, rfl⟩, hdv⟩
  have HF := Go.Lib.hid (HS2.out.dev hdv)
  have HB3 := Go.Lib.hid (HB2.out.trans (hdv.kp.below HS2.out.a0 HS2.out.size))
  clear hdv HD2
  go_wp2_with fail
  go_end0
  exact ⟨⟨_, rfl⟩, HF.out, HB3.out⟩
/-- What a search for the plans of an effort comes to: nothing, and all as it was; or a panic with the plan. -/
def Spent (base g a ca p cp n : Nat) (B : Option Addr) (b : Nat) (s : List Int) (tol : Int) (us ts fr : List Int) (w : World) (e : Ending) (w' : World) : Prop :=
  Below base w w' ∧ ((fr.length = 0 ∧ (∃ v, e = .returned v) ∧ Sch base g a ca p cp n B b s tol us ts w') ∨
    (fr.length = n ∧ e = .panicked [{ v := .iface 77 (.slice (some ⟨p, 0, none⟩) n cp), recovered := false }] ∧ Ow w' p (p + 1) 2 (some ⟨p, 0, none⟩) n cp (ints fr)))
theorem bd_small {zs : List Int} (h : rngB (-100) 100 zs = true) : Bd 1000 zs := fun k => by
  by_cases hk : k < zs.length
  · have := rngB_at h hk; omega
  · rw [List.getD_eq_getElem?_getD, List.getElem?_eq_none (by omega)]; simp
theorem after_turn {zs s : List Int} {n r : Nat} {bg : List Int} {q : Int} (hn : zs.length = n) (hl : bg.length + (r + 1) = n) : turn1 n (afterI zs s (padI bg (r + 1))) bg.length (sgQ bg.length q) s = afterI zs s (padI (bg ++ [q]) r) := by
  subst hn
  rw [← pad_add, after_add (by rw [padI_len]; exact hl) (by omega)]
theorem after_untu {zs s : List Int} {n r : Nat} {bg : List Int} {q : Int} (hn : zs.length = n) (hl : bg.length + (r + 1) = n) : turn1 n (afterI zs s (padI (bg ++ [q]) r)) bg.length (sgQ bg.length (-q)) s = afterI zs s (padI bg (r + 1)) := by
  subst hn
  rw [← pad_back bg q r, after_add (by rw [padI_len]; simp; omega) (by omega)]
set_option maxRecDepth 100000 in
set_option maxHeartbeats 8000000 in
theorem spendZero (base g a ca p cp n : Nat) (B : Option Addr) (b : Nat) (s : List Int) (tol : Int) (us ts fr : List Int) (w : World) (i : Nat) (H : Sch base g a ca p cp n B b s tol us ts w) (h10 : n ≤ 10) (h4 : 4 ≤ n) (t0 : 0 ≤ tol) (t1 : tol ≤ 500) (hF : fr = if trueB us tol then ts else []) :
    Calls Try.prog 73 #[.pointer (some ⟨g, 0, none⟩), .int .i64 i, .int .i64 (0 : Nat)] w (Spent base g a ca p cp n B b s tol us ts fr w) := by
  have hc0 : w.cell? ⟨g, 0, none⟩ = some (.slice (some ⟨a, 0, none⟩) n ca) := H.hd.at_ 0 _ rfl
  have hc2 : w.cell? ⟨g, 2, none⟩ = some (.int .i64 tol) := H.hd.at_ 2 _ rfl
  have HS1 := Go.Lib.hid (H.drewN 1)
  have hc3 : (w.drewN 1).cell? ⟨g, 3, none⟩ = some (.slice (some ⟨p, 0, none⟩) n cp) := HS1.out.hd.at_ 3 _ rfl
  have HW := Go.Lib.hid (implWithin (some ⟨a, 0, none⟩) ca us tol (w.drewN 1) (HS1.out.ls (by omega)) (by omega) (by omega))
  rw [H.lena, ← trueB_within] at HW
  have HB := Go.Lib.hid (show Below base w (w.drewN 1) from below_drewN (Below.refl _ _) 1)
  have HTL := Go.Lib.hid H.lenp
  clear H
  generalize trueB us tol = tb at *
  cases tb
  case true =>
    rw [if_pos rfl] at hF
    subst hF
    go_enter Try.func73, Try.ntmps73
    go_upto_region 1 with fail
    go_still_tail 8, (by kernel_rfl)
    change wpList _ _ _ _ _ (w.drewN 1)
    clear hc0 hc2
    generalize w.drewN 1 = w1 at *
    go_wp2_with fail
    refine HW.out.mono ?_
    rintro _ _ ⟨rfl, rfl⟩
    go_wp2_with fail
    exact ⟨rfl, HB.out, .inr ⟨HTL.out, rfl, HS1.out.lp⟩⟩
  case false =>
    rw [if_neg (by simp)] at hF
    subst hF
    go_enter Try.func73, Try.ntmps73
    go_upto_region 1 with fail
    go_still_tail 8, (by kernel_rfl)
    change wpList _ _ _ _ _ (w.drewN 1)
    clear hc0 hc2
    generalize w.drewN 1 = w1 at *
    go_wp2_with fail
    refine HW.out.mono ?_
    rintro _ _ ⟨rfl, rfl⟩
    go_wp2_with fail
    refine bodyPost_ret (results_none rfl _ _ _) rfl ?_
    exact ⟨HB.out, .inl ⟨rfl, ⟨_, rfl⟩, HS1.out⟩⟩
set_option maxRecDepth 100000 in
set_option maxHeartbeats 8000000 in
theorem implSpend (base g a ca p cp n : Nat) (B : Option Addr) (b : Nat) (s : List Int) (tol : Int) (zs : List Int) (hnn : zs.length = n) (sc : s.length ≤ b) (h4 : 4 ≤ n) (h10 : n ≤ 10) (hS : Eff s) (hX : Bd 500 zs) (t0 : 0 ≤ tol) (t1 : tol ≤ 500) : ∀ (r eff : Nat) (bg : List Int) (w : World), Sch base g a ca p cp n B b s tol (afterI zs s (padI bg r)) (padI bg r) w → bg.length + r = n → eff ≤ 4 → rngB (-100) 100 bg = true →
    Calls Try.prog 73 #[.pointer (some ⟨g, 0, none⟩), .int .i64 bg.length, .int .i64 eff] w (Spent base g a ca p cp n B b s tol (afterI zs s (padI bg r)) (padI bg r) (firstR zs s tol r eff bg) w) := by
  intro r
  induction r with
  | zero =>
    intro eff bg w H hlen heff hr
    by_cases he : eff = 0
    case pos =>
      subst he
      exact spendZero base g a ca p cp n B b s tol _ _ _ w bg.length H h10 h4 t0 t1 (first_zero 0 bg)
    case neg =>
      have hF : firstR zs s tol 0 eff bg = [] := by
        unfold firstR
        rw [if_neg (by omega)]
      have HS := Go.Lib.hid H
      have hc3 : w.cell? ⟨g, 3, none⟩ = some (.slice (some ⟨p, 0, none⟩) n cp) := H.hd.at_ 3 _ rfl
      have heb : ((eff : Int) == 0) = false := by simp; omega
      have hlq : ((bg.length : Int) == (n : Int)) = true := by simp; omega
      have hz : ¬ (eff : Int) = 0 := by omega
      have hle : (bg.length : Int) = (n : Int) := by omega
      rw [hF]
      clear H hF hX hS hr hlen
      generalize afterI zs s (padI bg 0) = us at *
      generalize padI bg 0 = ts at *
      go_enter Try.func73, Try.ntmps73
      go_wp2_with fail
      refine bodyPost_ret (results_none rfl _ _ _) rfl ?_
      exact ⟨Below.refl _ _, .inl ⟨rfl, ⟨_, rfl⟩, HS.out⟩⟩
  | succ r ih =>
    intro eff bg w H hlen heff hr
    by_cases he : eff = 0
    case pos =>
      subst he
      exact spendZero base g a ca p cp n B b s tol _ _ _ w bg.length H h10 h4 t0 t1 (first_zero (r + 1) bg)
    case neg =>
      have HIH := Go.Lib.hid ih
      have HS0 := Go.Lib.hid H
      have HLEN := Go.Lib.hid hlen
      have HR := Go.Lib.hid hr
      have HF := Go.Lib.hid (show firstR zs s tol (r + 1) eff bg = scanI (fun q => firstR zs s tol r ((eff : Int) - max q (-q)) (bg ++ [q])) (eff - (0 : Nat)) (2 * eff + 1 - 0) by
        show scanI _ _ _ = scanI _ _ _
        congr 1)
      have HTN := Go.Lib.hid (fun ts us w0 (Hs : Sch base g a ca p cp n B b s tol us ts w0) q (r0 : -100 ≤ q) (r1 : q ≤ 100) (hu : Bd 120500 us) (hT : Bd 1000 ts) => implTurnS base g a ca p cp n B b s tol us ts w0 Hs sc bg.length q (by omega) h4 h10 hS r0 r1 120500 hu (by omega) (by omega) hT)
      have HBD := Go.Lib.hid (fun (ts : List Int) (h1 : rngB (-100) 100 ts = true) (h2 : ts.length = n) => (afterI_bd hX hS h1 (h2.trans hnn.symm) (by omega)).mono (show (500 : Int) + 120000 ≤ 120500 by omega))
      have HAT := Go.Lib.hid (fun q => after_turn (s := s) (q := q) hnn hlen)
      have HAU := Go.Lib.hid (fun q => after_untu (s := s) (q := q) hnn hlen)
      have hc3 : w.cell? ⟨g, 3, none⟩ = some (.slice (some ⟨p, 0, none⟩) n cp) := H.hd.at_ 3 _ rfl
      have heb : ((eff : Int) == 0) = false := by simp; omega
      have hlq : ((bg.length : Int) == (n : Int)) = false := by simp; omega
      have hz : ¬ (eff : Int) = 0 := by omega
      have hle : ¬ (bg.length : Int) = (n : Int) := by omega
      have hbl10 : bg.length ≤ 10 := by omega
      clear H hlen hr ih hnn hX hS
      go_enter Try.func73, Try.ntmps73
      go_wp2_with fail
      clear hc3
      go_loopw [6] (fun u wr => ∃ k : Nat, k ≤ 2 * eff + 1 ∧ u = .int .i64 ((eff : Int) - k) ∧ firstR zs s tol (r + 1) eff bg = scanI (fun q => firstR zs s tol r ((eff : Int) - max q (-q)) (bg ++ [q])) ((eff : Int) - k) (2 * eff + 1 - k) ∧ Sch base g a ca p cp n B b s tol (afterI zs s (padI bg (r + 1))) (padI bg (r + 1)) wr ∧ Below base w wr) (fun u _ => (intOf u + eff + 1).toNat)
      case atStart => exact ⟨0, Nat.zero_le _, by simp, HF.out, HS0.out, Below.refl _ _⟩
      case round =>
        obtain ⟨k, hk, rfl, hsc, hsch, hb⟩ := hrel
        have HSC := Go.Lib.hid hsc
        have HSK := Go.Lib.hid hsch
        have HB := Go.Lib.hid hb
        clear hsc hb HF HS0 hsch
        by_cases hlt : k < 2 * eff + 1
        case neg =>
          have HV := Go.Lib.hid (show firstR zs s tol (r + 1) eff bg = [] by rw [HSC.out, show 2 * eff + 1 - k = 0 by omega]; rfl)
          have hc : ¬ -(eff : Int) ≤ (eff : Int) - k := by omega
          clear HSC
          generalize firstR zs s tol (r + 1) eff bg = fr at *
          have hV := HV.out
          subst hV
          go_wp2_with fail
          go_end0
          exact ⟨HB.out, .inl ⟨rfl, ⟨_, rfl⟩, HSK.out⟩⟩
        case pos =>
          have hc : -(eff : Int) ≤ (eff : Int) - k := by omega
          have hq4 : (eff : Int) - k ≤ 4 := by omega
          have hq5 : -4 ≤ (eff : Int) - k := by omega
          have HST := Go.Lib.hid (show firstR zs s tol (r + 1) eff bg = if 0 < (firstR zs s tol r ((eff : Int) - max ((eff : Int) - k) (-((eff : Int) - k))) (bg ++ [(eff : Int) - k])).length then firstR zs s tol r ((eff : Int) - max ((eff : Int) - k) (-((eff : Int) - k))) (bg ++ [(eff : Int) - k]) else scanI (fun q => firstR zs s tol r ((eff : Int) - max q (-q)) (bg ++ [q])) ((eff : Int) - k - 1) (2 * eff + 1 - (k + 1)) by
            rw [HSC.out, show 2 * eff + 1 - k = (2 * eff + 1 - (k + 1)) + 1 by omega]; rfl)
          have hn1 : (eff : Int) - (k : Int) - 1 = (eff : Int) - ((k + 1 : Nat) : Int) := by omega
          rw [hn1] at HST
          have HN1 := Go.Lib.hid hn1
          have HMS := Go.Lib.hid (show ((eff : Int) - ((k + 1 : Nat) : Int) + eff + 1).toNat < ((eff : Int) - (k : Int) + eff + 1).toNat by omega)
          obtain ⟨e2, he2⟩ := Int.eq_ofNat_of_zero_le (show 0 ≤ (eff : Int) - max ((eff : Int) - k) (-((eff : Int) - k)) by omega)
          rw [he2] at HST
          have he24 : e2 ≤ 4 := by omega
          clear hn1 HSC
          generalize hq : (eff : Int) - (k : Int) = q at *
          have HA := Go.Lib.hid (fun w0 => implAbs q w0 (by omega) (by omega))
          have ew : IntKind.i64.wrap ((eff : Int) - max q (-q)) = (e2 : Int) := by rw [he2]; exact IntWalk.i64_in _ (by omega)
          have HRQ := Go.Lib.hid (show rngB (-100) 100 (bg ++ [q]) = true by unfold rngB at *; rw [List.all_append, HR.out]; simp; omega)
          have HLQ := Go.Lib.hid (show (bg ++ [q]).length = bg.length + 1 by simp)
          have hu1 := HBD.out (padI bg (r + 1)) (padI_rng HR.out) (by rw [padI_len]; exact HLEN.out)
          have hu2 := HBD.out (padI (bg ++ [q]) r) (padI_rng HRQ.out) (by rw [padI_len, HLQ.out]; have := HLEN.out; omega)
          have HT1 := Go.Lib.hid (HTN.out _ _ wr HSK.out q (by omega) (by omega) hu1 (bd_small (padI_rng HR.out)))
          have HT2 := Go.Lib.hid (fun w0 Hs => HTN.out (padI (bg ++ [q]) r) (afterI zs s (padI (bg ++ [q]) r)) w0 Hs (-q) (by omega) (by omega) hu2 (bd_small (padI_rng HRQ.out)))
          rw [HAT.out, pad_add] at HT1
          rw [HAU.out, pad_back] at HT2
          have HI2 := Go.Lib.hid (fun w0 Hs => HIH.out e2 (bg ++ [q]) w0 Hs (by rw [HLQ.out]; have := HLEN.out; omega) he24 HRQ.out)
          rw [HLQ.out] at HI2
          have ew1 : IntKind.i64.wrap ((bg.length : Int) + 1) = ((bg.length + 1 : Nat) : Int) := by rw [show ((bg.length + 1 : Nat) : Int) = (bg.length : Int) + 1 by omega]; exact IntWalk.i64_in _ (by omega)
          have ew2 : IntKind.i64.wrap (-q) = -q := IntWalk.i64_in _ (by omega)
          have HN4 := Go.Lib.hid (show n ≠ 0 by omega)
          generalize hfr : firstR zs s tol r (e2 : Int) (bg ++ [q]) = fr at *
          generalize firstR zs s tol (r + 1) eff bg = gr at *
          generalize afterI zs s (padI (bg ++ [q]) r) = us1 at *
          generalize padI (bg ++ [q]) r = ts1 at *
          generalize afterI zs s (padI bg (r + 1)) = us0 at *
          generalize padI bg (r + 1) = ts0 at *
          clear he2 HIH hfr hu1 hu2 HTN HBD HAT HAU
          go_wp2_with fail
          refine HT1.out.mono ?_
          rintro _ w2 ⟨⟨v, rfl⟩, hs2, b2⟩
          have HS2 := Go.Lib.hid hs2
          have HB2 := Go.Lib.hid (HB.out.trans b2)
          clear hs2 b2 HT1
          go_wp2_with fail
          refine (HA.out _).mono ?_
          rintro _ _ ⟨rfl, rfl⟩
          go_wp2_with fail
          refine (HI2.out _ HS2.out).mono ?_
          rintro _ w3 ⟨b3, ⟨hf0, ⟨v3, rfl⟩, hs3⟩ | ⟨hfn, rfl, ho3⟩⟩
          · have HS3 := Go.Lib.hid hs3
            have HB3 := Go.Lib.hid (HB2.out.trans b3)
            have HV := Go.Lib.hid (show gr = scanI (fun q => firstR zs s tol r ((eff : Int) - max q (-q)) (bg ++ [q])) ((eff : Int) - ((k + 1 : Nat) : Int)) (2 * eff + 1 - (k + 1)) by rw [HST.out, if_neg (by omega)])
            have HQN := Go.Lib.hid (show q - 1 = (eff : Int) - ((k + 1 : Nat) : Int) by omega)
            clear hs3 b3 hf0
            go_wp2_with fail
            refine (HT2.out _ HS3.out).mono ?_
            rintro _ w4 ⟨⟨v4, rfl⟩, hs4, b4⟩
            have HS4 := Go.Lib.hid hs4
            have HB4 := Go.Lib.hid (HB3.out.trans b4)
            clear hs4 b4
            go_wp2_with fail
            go_roundw
            case rel => exact ⟨k + 1, by omega, by rw [HQN.out], HV.out, HS4.out, HB4.out⟩
            case measure =>
              have := HMS.out
              have := HQN.out
              simp only [intOf]; omega
          · have HO3 := Go.Lib.hid ho3
            have HB3 := Go.Lib.hid (HB2.out.trans b3)
            have HV := Go.Lib.hid (show gr = fr by rw [HST.out, if_pos (by have := HN4.out; omega)])
            have HFN := Go.Lib.hid hfn
            clear ho3 b3 hfn
            go_wp2_with fail
            exact ⟨rfl, HB3.out, .inr ⟨by rw [HV.out]; exact HFN.out, rfl, by rw [HV.out]; exact HO3.out⟩⟩
end Go.Proofs.Ytpcaakmcjdginaa
