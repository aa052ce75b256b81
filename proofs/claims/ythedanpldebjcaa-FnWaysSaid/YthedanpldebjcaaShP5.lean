/- The program of chapter 11: the search in breadth over a map of gears that are seen. -/
import Derived.Test.YthedanpldebjcaaShP2
import Derived.Test.YthedanpldebjcaaShP3
import Derived.Test.YthedanpldebjcaaShClone
import Derived.Test.YthedanpldebjcaaPlainSeen
import Derived.Deep.DeepCutAuto
namespace Go.Proofs.Ythedanpldebjcaa
open Go.RowKit
set_option linter.unusedSimpArgs false
set_option linter.unusedVariables false

theorem keepM {w w' : World} {m : Nat} (k : w.grownBy w' (some m)) : Keep m (m + 1) w w' := ⟨k.os, k.tape, k.output, k.size, fun i hi ho => k.block i hi (by simp; omega)⟩
theorem below_dd {B : Nat} {a b : World} (h : Below B a b) : Below B a.drew b.drew := ⟨h.os, h.tape, h.output, h.size, h.block⟩
theorem keep_app {wX wr w3 : World} {m : Nat} {ob : Option Nat} {oj : Obj} (h : Keep m (m + 1) wX wr) (k : (wr.alloc oj).grownBy w3 ob) (ho : ∀ g, ob = some g → wX.heap.size ≤ g) : Keep m (m + 1) wX w3 := by
  have h1 : Keep m (m + 1) wX (wr.alloc oj) := h.trans (Keep.of_below ((Below.refl wr.heap.size wr).alloc (Nat.le_refl _) oj) (Nat.le_refl _) m (m + 1))
  exact ⟨k.os.trans h1.os, k.tape.trans h1.tape, k.output.trans h1.output, Nat.le_trans h1.size k.size, fun i hi hor => (k.block i (Nat.lt_of_lt_of_le hi h1.size) (fun e => by have := ho i e.symm; omega)).trans (h1.block i hi hor)⟩
theorem Keep.then_ {wX wr w1 : World} {m : Nat} (h : Keep m (m + 1) wX wr) (b : Below wr.heap.size wr w1) : Keep m (m + 1) wX w1 := h.trans (Keep.of_below b (Nat.le_refl _) m (m + 1))
theorem row_heap {w : World} {base sz n g : Nat} {t : TypeId} {v : Value} {xs : List Value} (h : w.ownsRow base t sz v n xs) (hg : v.ownBlock = some g) : base ≤ g ∧ ∃ cur, w.heap[g]? = some (.cells cur t (0, 0)) := by
  rcases h.2 with ⟨rfl, _⟩ | ⟨g2, cap, cur, rfl, hb, hh, _⟩
  · simp [Value.ownBlock] at hg
  · obtain rfl : g2 = g := by simpa [Value.ownBlock] using hg
    exact ⟨hb, cur, hh⟩
theorem row_below {w w1 : World} {base sz n : Nat} {t : TypeId} {v : Value} {xs : List Value} (h : w.ownsRow base t sz v n xs) (b : Below w.heap.size w w1) : w1.ownsRow base t sz v n xs :=
  h.kept (grownB_ b (Nat.le_refl _)) (by cases hv : v.ownBlock <;> simp)
theorem row_map {w w1 : World} {base sz n m : Nat} {t : TypeId} {v : Value} {xs : List Value} (h : w.ownsRow base t sz v n xs) (k : w.grownBy w1 (some m)) (hm : ∀ cur, w.heap[m]? ≠ some (.cells cur t (0, 0))) : w1.ownsRow base t sz v n xs := by
  refine h.kept k ?_
  cases hv : v.ownBlock with
  | none => exact .inl rfl
  | some g =>
    refine .inr fun e => ?_
    obtain ⟨-, cur, hc⟩ := row_heap h hv
    obtain rfl : g = m := by simpa using e
    exact hm cur hc
theorem row_form {x : Trn} {w : World} {base : Nat} {v : Value} {gs : List Gr} (h : w.ownsRow base 76 4 v gs.length (cellsG x gs)) (h0 : 0 < gs.length) : ∃ g cap, v = .slice (some ⟨g, 0, none⟩) gs.length cap ∧ Box w g (cellsG x gs) ∧ base ≤ g := by
  rcases h.2 with ⟨rfl, e⟩ | ⟨g, cap, cur, rfl, hb, _, _⟩
  · omega
  · exact ⟨g, cap, rfl, Box.of_own h, hb⟩
theorem row_one {x : Trn} {w : World} {a b c d : Value} {g : Gr} (h : cellsG x [g] = [a, b, c, d]) : (w.alloc (.cells #[a, b, c, d] 76)).ownsRow w.heap.size 76 4 (.slice (some ⟨w.heap.size, 0, none⟩) 1 1) 1 (cellsG x [g]) := by
  rw [h]
  exact ⟨rfl, .inr ⟨w.heap.size, 1, #[a, b, c, d], rfl, Nat.le_refl _, heap_alloc_new w _, Nat.le_refl _, by unfold maxLen; omega, rfl, rfl⟩⟩
theorem Seen.appended {x : Trn} {key : Gr → Lit} {base mb n m : Nat} {L X : List Gr} {ws : List (List Int)} {D : DataW Value} {w w3 : World} {oj : Obj} {v : Value} {bs : Nat} {cs : List Value} (h : Seen x key base mb n L X ws D w)
    (hr : w.ownsRow bs 76 4 v m cs) (k : (w.alloc oj).grownBy w3 v.ownBlock) : Seen x key base mb n L X ws D w3 := by
  have hr2 := row_below hr ((Below.refl w.heap.size w).alloc (Nat.le_refl _) oj)
  refine (h.alloc oj).kept k (fun e => ?_) (fun g e cur hc => ?_)
  · obtain ⟨-, cur, hc⟩ := row_heap hr2 e.symm
    exact (h.alloc oj).not_cells _ cur hc
  · obtain ⟨-, cur2, hc2⟩ := row_heap hr2 e
    rw [hc2] at hc
    simp at hc
theorem Seen.look_at {x : Trn} {key : Gr → Lit} {base mb n : Nat} {L X : List Gr} {ws : List (List Int)} {D : DataW Value} {w : World} (h : Seen x key base mb n L X ws D w) {k : Value} {kl : Lit} {v : Value} (hk : keyOf Try.prog 76 k = some kl) (hv : D.atKey kl (.held (.slice none 0 0)) = .held v) :
    (Instr.lookup 81 (.map (some mb)) k false).run Try.prog w = .ok v w := by
  obtain ⟨u, ps, hrun, hu⟩ := h.own.lookup keyedG Try.underlying81 (zeroRowG w) (show heldE (.slice none 0 0) = some (.held (.slice none 0 0), []) from rfl) hk
  rw [hv] at hu
  have e : u = v := by
    unfold heldE at hu
    exact (show u = v ∧ ps = [] by simpa using hu).1
  rw [hrun, e]
theorem gearAtV_none {x : Trn} {f r : Int} (ht : trainB x = true) (h : gearB x f r = false) : gearAtV x f r = gV 0 0 0 0 := by
  unfold gearAtV
  rw [if_pos ht, h]
  rfl
theorem key_any {x : Trn} {key : Gr → Lit} (K : Keys x key) (ht : trainB x = true) (p : Pl) : ∃ kl, keyOf Try.prog 76 (gearAtV x p.1 p.2) = some kl ∧ (gearB x p.1 p.2 = true → ∃ g : Gr, p = plG g ∧ GOk x g ∧ gearAtV x p.1 p.2 = gearV x g ∧ kl = key g) := by
  cases h : gearB x p.1 p.2
  · rw [gearAtV_none ht h]
    obtain ⟨kl, hk⟩ := quad_key (a := 0) (b := 0) (c := 0) (d := 0) (WalkArith.wf_i64 (by omega)) (WalkArith.wf_i64 (by omega)) (WalkArith.wf_i64 (by omega)) (WalkArith.wf_i64 (by omega))
    exact ⟨kl, hk, fun h => absurd h (by decide)⟩
  · obtain ⟨g, h1, h2, h3⟩ := mv_gear ht h
    refine ⟨key g, by rw [h3]; exact gk_of K h2, fun _ => ⟨g, h1, h2, h3, rfl⟩⟩
theorem news_box {w : World} {q : Nat} {v : Value} (h : Box w q [v]) : ∀ j u, [v][j]? = some u → w.cell? ((⟨q, 0, none⟩ : Addr).add j) = some u := fun j u hu => by
  rw [Addr.add_mid, Nat.zero_add]
  exact h.at_ j u hu
theorem below_grow {B : Nat} {w w1 : World} {ob : Option Nat} (k : w.grownBy w1 ob) (hB : B ≤ w.heap.size) (ho : ∀ g, ob = some g → B ≤ g) : Below B w w1 :=
  ⟨k.os, k.tape, k.output, k.size, fun i hi => k.block i (by omega) (fun e => by have := ho i e.symm; omega)⟩
theorem rw_app {w : World} {base : Nat} {wi : List Int} {z : Int} {v : Value} (h : w.ownsRow base 2 1 v (wi.length + 1) (ints wi ++ [.int .i64 z])) : Rw w base (wi ++ [z]) v := by
  obtain ⟨A, cap, rfl, ho⟩ := row_ow h
  refine ⟨⟨A, cap, by rw [List.length_append]; rfl, ?_⟩, fun e => by simp at e⟩
  rw [List.length_append]
  have e : ints (wi ++ [z]) = ints wi ++ [.int .i64 z] := by simp [ints]
  rw [e]
  exact ho
theorem Keep.cellAt {lo hi : Nat} {w w1 : World} (k : Keep lo hi w w1) {p : Addr} (hb : p.block < w.heap.size) (ho : p.block < lo ∨ hi ≤ p.block) (hs : p.spot = none) : w1.cell? p = w.cell? p := by
  obtain ⟨b, off, s⟩ := p
  cases hs
  exact World.cell?_of_block (k.block b hb ho)
/-- A call's answer: a map of the gears that a search in breadth has seen, each with its way. -/
def GivesW (x : Trn) (lm : Int) (s0 : Gr) (w : World) (e : Ending) (w' : World) : Prop := ∃ (mb n : Nat) (key : Gr → Lit) (L : List Gr) (D : DataW Value), e = .returned (.map (some mb)) ∧ Keys x key ∧ Seen x key w.heap.size mb n L [] (bfEnd x lm (plG s0)).ways D w' ∧ L.map plG = (bfEnd x lm (plG s0)).seen ∧ Below w.heap.size w w'
set_option maxRecDepth 100000 in
set_option maxHeartbeats 32000000 in
theorem implWays (x : Trn) (A : Option Addr) (c : Nat) (B : Option Addr) (d : Nat) (lm : Int) (s0 : Gr) (w : World) (T : TrL x A c B d w) (hT : Train x) (ht : trainB x = true) (hl : 0 ≤ lm ∧ lm ≤ 4) (hg : GOk x s0) (hcr : crossB x lm (plG s0) = false) :
    Calls Try.prog 56 #[shV x A c B d lm, gearV x s0] w (GivesW x lm s0 w) := by
  obtain ⟨key, hkey⟩ := keys_ex hT
  have HKY := Go.Lib.hid hkey
  obtain ⟨i0, hi, hz0, hz1, hz2⟩ := info_parts infoI64
  obtain ⟨j0, ji, jz0, jz1, jz2⟩ := info_parts infoGear
  have HT := Go.Lib.hid T
  have HTR := Go.Lib.hid hT
  have HTB := Go.Lib.hid ht
  have hok0 : okG x lm (plG s0) = true := okG_of (gearB_of hg) hcr
  have HOK0 := Go.Lib.hid hok0
  have HGE := Go.Lib.hid (fun w1 T1 => implGearsOf x A c B d lm true w1 T1 hT hl)
  rw [show (ordI x).filter (keepG x lm true) = crossI x lm from rfl] at HGE
  have HCN := Go.Lib.hid (fun k hk => cross_next (x := x) (lm := lm) hcr (k := k) hk)
  have HCS := Go.Lib.hid (fun k hk => cross_strike (x := x) (lm := lm) (k := k) hk)
  have HOLD := Go.Lib.hid (fun b L hs i m g hp h => step_old (x := x) (lm := lm) (b := b) (L := L) hs (i := i) (m := m) (g := g) hp h)
  have HNEW := Go.Lib.hid (fun b L hs i m g hg hp h1 h2 => step_new (x := x) (lm := lm) (b := b) (L := L) hs (i := i) (m := m) (g := g) hg hp h1 h2)
  have hn36 : (ordI x).length ≤ 36 := ordI_few hT
  have HX36 := Go.Lib.hid (Nat.le_trans (cross_few x lm) hn36)
  have HK0 := Go.Lib.hid (show keyOf Try.prog 76 (gV s0.1 s0.2 (fI x s0.1) (rI x s0.2)) = some (key s0) from gk_of hkey hg)
  have HCE := Go.Lib.hid (show cellsG x [s0] = [.int .i64 s0.1, .int .i64 s0.2, .int .i64 (fI x s0.1), .int .i64 (rI x s0.2)] from rfl)
  have HG0 := Go.Lib.hid hg
  have HE := Go.Lib.hid (fun k h1 h2 => bfEnd_is (x := x) (lm := lm) (a := plG s0) (k := k) h1 h2)
  unfold gearV
  clear hT ht hcr hg hkey
  generalize crossI x lm = X at *
  generalize fI x s0.1 = tf at *
  generalize rI x s0.2 = tr at *
  have HX := Go.Lib.hid ((boxS_box x A c B d lm w).alloc (.cells #[.int .i64 s0.1, .int .i64 s0.2, .int .i64 tf, .int .i64 tr] 76))
  have HG := Go.Lib.hid (show Box ((boxS x A c B d lm w).alloc (.cells #[.int .i64 s0.1, .int .i64 s0.2, .int .i64 tf, .int .i64 tr] 76)) (w.heap.size + 1) (gC s0.1 s0.2 tf tr) from Box.new (by simp [boxS]) rfl)
  have HXB := Go.Lib.hid ((boxS_below x A c B d lm w).alloc (boxS_below x A c B d lm w).size (.cells #[.int .i64 s0.1, .int .i64 s0.2, .int .i64 tf, .int .i64 tr] 76))
  clear T
  have hmm := @run_makeMap Try.prog
  unfold shV at *
  unfold gV at HK0 ⊢
  go_enter Try.func56, Try.ntmps56
  go_upto_region 1 with fail
  refine wp_gen (R := fun W => Box W w.heap.size (shC x A c B d lm) ∧ Box W (w.heap.size + 1) (gC s0.1 s0.2 tf tr) ∧ Below w.heap.size w W) ⟨HX.out, HG.out, HXB.out⟩ ?_
  rintro W ⟨hx, hg, hb⟩
  have HSM := Seen.made x key W w.heap.size
  obtain ⟨w1, hupd, hown1, hgrow1⟩ := HSM.own.update keyedG Try.underlying81 (by unfold maxLen; omega) HK0.out (show heldE (.slice none 0 0) = some (.held (.slice none 0 0), []) from rfl)
  obtain ⟨D1, hs1⟩ : ∃ D1, Seen x key w.heap.size W.heap.size 1 [s0] [] [[]] D1 w1 := ⟨_, HSM.put HKY.out HG0.out rfl rfl (Rw.none_ _ _) hown1 hgrow1⟩
  have HS1 := Go.Lib.hid hs1
  have hk1 := keepM hgrow1
  have hW0 := hx.lt
  have hW1 := hg.lt
  have HX2 := Go.Lib.hid ((hx.alloc (.map #[] 0)).keep hk1 (.inl hW0))
  have HG2 := Go.Lib.hid ((hg.alloc (.map #[] 0)).keep hk1 (.inl hW1))
  have HB2 := Go.Lib.hid ((hb.alloc hb.size (.map #[] 0)).trans (hk1.below hb.size (by have := hb.size; simp; omega)))
  have HWM := Go.Lib.hid (show w.heap.size + 1 < W.heap.size from hW1)
  obtain ⟨g0, g1, g2, g3⟩ := cells4 (hg.alloc (.map #[] 0))
  clear hx hg hb hs1 hk1 HSM hown1 hgrow1 HX HG HXB
  go_upto_region 2 with fail
  clear hupd hmm g0 g1 g2 g3 hW0 hW1
  generalize W.heap.size = mb at *
  have hc0 : w1.cell? ⟨w.heap.size, 0, none⟩ = some (.slice A x.f.length c) := HX2.out.at_ 0 _ rfl
  have hc1 : w1.cell? ⟨w.heap.size, 1, none⟩ = some (.slice B x.r.length d) := HX2.out.at_ 1 _ rfl
  have hc2 : w1.cell? ⟨w.heap.size, 2, none⟩ = some (.int .i64 x.n) := HX2.out.at_ 2 _ rfl
  have hc3 : w1.cell? ⟨w.heap.size, 3, none⟩ = some (.int .i64 lm) := HX2.out.at_ 3 _ rfl
  go_wp2_with fail
  refine (HGE.out _ (HT.out.below HB2.out)).mono ?_
  rintro _ w2 ⟨gx, cap, rfl, hgs, hge, b2⟩
  have HGS := Go.Lib.hid hgs
  have HGM := Go.Lib.hid (Nat.lt_of_lt_of_le HS1.out.lt hge)
  have HS2 := Go.Lib.hid (HS1.out.below b2)
  have HX3 := Go.Lib.hid (HX2.out.below b2)
  have HG3 := Go.Lib.hid (HG2.out.below b2)
  have HB3 := Go.Lib.hid (upB HB2.out b2)
  clear hgs hge b2 hc0 hc1 hc2 hc3 HS1 HX2 HG2 HB2 HGE
  go_wp2_with fail
  go_loopw [25] (fun u wr => ∃ (k : Nat) (D : DataW Value), k ≤ X.length ∧ u = .int .i64 k ∧ Seen x key w.heap.size mb (1 + k) [s0] (X.take k) [[]] D wr ∧ Keep mb (mb + 1) w2 wr) (fun u _ => X.length - (intOf u).toNat)
  case atStart => exact ⟨0, D1, Nat.zero_le _, rfl, HS2.out, Keep.refl _ _ _⟩
  case round =>
    obtain ⟨k, D, hk, rfl, hse, hkp⟩ := hrel
    have HSE := Go.Lib.hid hse
    have HKP := Go.Lib.hid hkp
    have hx36 := HX36.out
    clear hse hkp HS2
    by_cases hlt : k < X.length
    case pos =>
      have hkl : (k : Int) < X.length := by omega
      obtain ⟨hok, hc1, hc2, hts⟩ := HCN.out k hlt
      have HTS := Go.Lib.hid hts
      have HOKP := Go.Lib.hid hok
      have HC1 := Go.Lib.hid hc1
      have HC2 := Go.Lib.hid hc2
      obtain ⟨p0, p1, p2, p3⟩ := (HGS.out.keep HKP.out (by have := HGM.out; omega)).at_ hlt
      have HKPK := Go.Lib.hid (show keyOf Try.prog 76 (gV (X.getD k (0, 0)).1 (X.getD k (0, 0)).2 (fI x (X.getD k (0, 0)).1) (rI x (X.getD k (0, 0)).2)) = some (key (X.getD k (0, 0))) from gk_of HKY.out hok)
      clear hok hc1 hc2 hts
      generalize X.getD k (0, 0) = p at *
      generalize fI x p.1 = pf at *
      generalize rI x p.2 = pr at *
      have HSA := Go.Lib.hid (HSE.out.alloc (.cells #[.int .i64 (p.1 : Nat), .int .i64 (p.2 : Nat), .int .i64 pf, .int .i64 pr] 76))
      have HKA := Go.Lib.hid (HKP.out.then_ ((Below.refl wr.heap.size wr).alloc (Nat.le_refl _) (.cells #[.int .i64 (p.1 : Nat), .int .i64 (p.2 : Nat), .int .i64 pf, .int .i64 pr] 76)))
      have HVB := Go.Lib.hid (gbox p.1 p.2 pf pr wr)
      go_upto_region 6 with fail
      refine wp_gen (R := fun V => Box V wr.heap.size (gC p.1 p.2 pf pr) ∧ Seen x key w.heap.size mb (1 + k) [s0] (X.take k) [[]] D V ∧ Keep mb (mb + 1) w2 V) ⟨HVB.out, HSA.out, HKA.out⟩ ?_
      rintro V ⟨hv, hs, hkp⟩
      obtain ⟨g0, g1, g2, g3⟩ := cells4 hv
      obtain ⟨w5, hupd, hown5, hgrow5⟩ := hs.own.update keyedG Try.underlying81 (by unfold maxLen; have := HX36.out; omega) HKPK.out (show heldE (.slice none 0 0) = some (.held (.slice none 0 0), []) from rfl)
      have HS5 := Go.Lib.hid (hs.cross HKY.out HOKP.out HC1.out HC2.out hown5 hgrow5)
      have HK5 := Go.Lib.hid (hkp.trans (keepM hgrow5))
      unfold gV at hupd
      clear hv hs hkp hown5 hgrow5 p0 p1 p2 p3 HSA HKA HVB HSE HKP
      generalize wr.heap.size = tq at *
      go_wp2_with fail
      go_roundw
      case rel => exact ⟨k + 1, _, by omega, by go_num, by rw [HTS.out]; exact HS5.out, HK5.out⟩
      case measure => simp [intOf]; omega
    case neg =>
      obtain rfl : k = X.length := by omega
      obtain ⟨wX, rfl⟩ : ∃ y : World, y = wr := ⟨_, rfl⟩
      rw [List.take_length] at HSE
      have hkl : ¬ ((X.length : Nat) : Int) < X.length := by omega
      have HXX := Go.Lib.hid (HX3.out.keep HKP.out (by have := HWM.out; omega))
      obtain ⟨g0, g1, g2, g3⟩ := cells4 (HG3.out.keep HKP.out (by have := HWM.out; omega))
      have HSX := Go.Lib.hid (HSE.out.alloc (.cells #[.int .i64 s0.1, .int .i64 s0.2, .int .i64 tf, .int .i64 tr] 76))
      have HKX := Go.Lib.hid ((Keep.refl mb (mb + 1) wX).then_ ((Below.refl wX.heap.size wX).alloc (Nat.le_refl _) (.cells #[.int .i64 s0.1, .int .i64 s0.2, .int .i64 tf, .int .i64 tr] 76)))
      have HRX := Go.Lib.hid (row_one (x := x) (w := wX) HCE.out)
      have HBX := Go.Lib.hid (HB3.out.trans (HKP.out.below (by have := HWM.out; omega) HB3.out.size))
      have HMB := Go.Lib.hid HSE.out.lt
      have HKPX := Go.Lib.hid HKP.out
      clear HSE HKP
      have HTX := Go.Lib.hid (HT.out.below HBX.out)
      go_wp2_with fail
      go_loopw [9, 10] (fun v u wy => ∃ (i : Nat) (L : List Gr) (D : DataW Value), u = .int .i64 i ∧ i ≤ L.length ∧ L.map plG = (bfTo x lm (plG s0) i).seen ∧ Seen x key w.heap.size mb (L.length + X.length) L X (bfTo x lm (plG s0) i).ways D wy ∧ wy.ownsRow wX.heap.size 76 4 v L.length (cellsG x L) ∧ Keep mb (mb + 1) wX wy) (fun _ u _ => 36 - (intOf u).toNat)
      case atStart => exact ⟨0, [s0], D, rfl, Nat.zero_le _, rfl, HSX.out, HRX.out, HKX.out⟩
      case round =>
        obtain ⟨i, L, D, rfl, hiL, hsn, hse, hro, hkp⟩ := hrel
        obtain ⟨wy, rfl⟩ : ∃ y : World, y = wr := ⟨_, rfl⟩
        have HSN := Go.Lib.hid hsn
        have HSE := Go.Lib.hid hse
        have HRO := Go.Lib.hid hro
        have HKP := Go.Lib.hid hkp
        have hbo := bfTo_ok HOK0.out i
        have hll : L.length = (bfTo x lm (plG s0) i).seen.length := by rw [← hsn, List.length_map]
        have h36 : L.length ≤ 36 := by
          have := bf_few HTR.out hbo
          omega
        have HBO := Go.Lib.hid hbo
        have hpos : 0 < L.length := by have := hbo.pos; omega
        obtain ⟨gw, capw, rfl, -, -⟩ := row_form hro hpos
        clear hsn hse hro hkp HSX HRX HKX
        by_cases hlt : i < L.length
        case neg =>
          obtain rfl : i = L.length := by omega
          have HBE := Go.Lib.hid (HE.out L.length (by omega) (by have := bf_few HTR.out HBO.out; omega))
          have hnl : ¬ ((L.length : Nat) : Int) < L.length := by omega
          have HLOK := Go.Lib.hid (fun (p : Pl) (hp : p ∈ L.map plG) => HBO.out.ok p (by rw [← HSN.out]; exact hp))
          have HSY := Go.Lib.hid (show Seen x key w.heap.size mb (L.length + X.length) L (X.drop 0) (bfTo x lm (plG s0) L.length).ways D wy from HSE.out)
          have HBY := Go.Lib.hid (HBX.out.trans (HKP.out.below (by have := HWM.out; omega) HBX.out.size))
          have HKW := Go.Lib.hid (HKPX.out.trans HKP.out)
          clear hll hbo HRO HSE
          generalize hwsq : (bfTo x lm (plG s0) L.length).ways = ws at *
          have HWSQ := Go.Lib.hid hwsq
          clear hwsq
          go_wp2_with fail
          go_loopw [83] (fun u wz => ∃ (k : Nat) (D : DataW Value), k ≤ X.length ∧ u = .int .i64 k ∧ Seen x key w.heap.size mb (L.length + X.length) L (X.drop k) ws D wz ∧ Keep mb (mb + 1) wy wz) (fun u _ => X.length - (intOf u).toNat)
          case atStart => exact ⟨0, D, Nat.zero_le _, rfl, HSY.out, Keep.refl _ _ _⟩
          case round =>
            obtain ⟨k, D, hk, rfl, hse, hkp⟩ := hrel
            obtain ⟨wz, rfl⟩ : ∃ y : World, y = wr := ⟨_, rfl⟩
            have HSZ := Go.Lib.hid hse
            have HKZ := Go.Lib.hid hkp
            clear hse hkp HSY
            by_cases hlt : k < X.length
            case neg =>
              obtain rfl : k = X.length := by omega
              rw [List.drop_length] at HSZ
              have hkl : ¬ ((X.length : Nat) : Int) < X.length := by omega
              have HBZ := Go.Lib.hid (HBY.out.trans (HKZ.out.below (by have := HWM.out; omega) HBY.out.size))
              go_wp2_with fail
              go_ret
              exact ⟨mb, _, key, L, D, rfl, HKY.out, by rw [HBE.out, HWSQ.out]; exact HSZ.out, by rw [HBE.out]; exact HSN.out, HBZ.out⟩
            case pos =>
              have hkl : (k : Int) < X.length := by omega
              obtain ⟨hdr, hnc, hok, hcx⟩ := HCS.out k hlt
              rw [hdr] at HSZ
              have HNC := Go.Lib.hid hnc
              have HOKP := Go.Lib.hid hok
              have HLC := Go.Lib.hid (seen_not_cross (x := x) (lm := lm) HLOK.out hcx)
              obtain ⟨p0, p1, p2, p3⟩ := (HGS.out.keep (HKW.out.trans HKZ.out) (by have := HGM.out; omega)).at_ hlt
              have HKPK := Go.Lib.hid (show keyOf Try.prog 76 (gV (X.getD k (0, 0)).1 (X.getD k (0, 0)).2 (fI x (X.getD k (0, 0)).1) (rI x (X.getD k (0, 0)).2)) = some (key (X.getD k (0, 0))) from gk_of HKY.out hok)
              clear hdr hnc hok hcx
              generalize X.getD k (0, 0) = p at *
              generalize fI x p.1 = pf at *
              generalize rI x p.2 = pr at *
              have HSA := Go.Lib.hid (HSZ.out.alloc (.cells #[.int .i64 (p.1 : Nat), .int .i64 (p.2 : Nat), .int .i64 pf, .int .i64 pr] 76))
              have HKA := Go.Lib.hid (HKZ.out.then_ ((Below.refl wz.heap.size wz).alloc (Nat.le_refl _) (.cells #[.int .i64 (p.1 : Nat), .int .i64 (p.2 : Nat), .int .i64 pf, .int .i64 pr] 76)))
              have HVB := Go.Lib.hid (gbox p.1 p.2 pf pr wz)
              go_upto_region 24 with fail
              refine wp_gen (R := fun V => Box V wz.heap.size (gC p.1 p.2 pf pr) ∧ Seen x key w.heap.size mb (L.length + X.length) L (p :: X.drop (k + 1)) ws D V ∧ Keep mb (mb + 1) wy V) ⟨HVB.out, HSA.out, HKA.out⟩ ?_
              rintro V ⟨hv, hs, hkp⟩
              obtain ⟨g0, g1, g2, g3⟩ := cells4 hv
              have HSV := Go.Lib.hid hs
              have HKV := Go.Lib.hid hkp
              have hown := hs.own
              have hkey := HKPK.out
              unfold gV at hkey
              clear hv hs hkp p0 p1 p2 p3 HSA HKA HVB HSZ HKZ
              generalize wz.heap.size = tq at *
              go_wp2_with (at_delete; refine wpList_delete_own _ rfl _ _ 81 76 rfl 24 keyedG Try.underlying81 heldE mb _ D rfl hown _ _ rfl hkey ?_; intro w5 hown5 hturn5)
              have HS5 := Go.Lib.hid (HSV.out.strike HKY.out HOKP.out HLC.out HNC.out hown5 hturn5.grown)
              have HK5 := Go.Lib.hid (HKV.out.trans (keepM hturn5.grown))
              clear hown5 hturn5 hown hkey
              go_wp2_with fail
              go_roundw
              case rel => exact ⟨k + 1, _, by omega, by go_num, HS5.out, HK5.out⟩
              case measure => simp [intOf]; omega
        case pos =>
          have hil : (i : Int) < L.length := by omega
          have HNX := Go.Lib.hid (bfTo_next (x := x) (lm := lm) (a := plG s0) (k := i) (by omega))
          have HWF := Go.Lib.hid (way_few HOK0.out i i (by omega))
          have HMS := Go.Lib.hid (fun j (hj : j ≤ 4) => bfMs_ok HBO.out (show i < (bfTo x lm (plG s0) i).seen.length by omega) j hj)
          have HS0 := Go.Lib.hid (show L.map plG = (bfMs x lm (bfTo x lm (plG s0) i) i 0).seen from HSN.out)
          have HE0 := Go.Lib.hid (show Seen x key w.heap.size mb (L.length + X.length) L X (bfMs x lm (bfTo x lm (plG s0) i) i 0).ways D wy from HSE.out)
          clear hll hbo HSE HSN
          generalize bfTo x lm (plG s0) i = b at *
          go_wp2_with fail
          go_loopw [9, 40] (fun v u wy => ∃ (j : Nat) (L : List Gr) (D : DataW Value), u = .int .i64 j ∧ j ≤ 4 ∧ i < L.length ∧ L.map plG = (bfMs x lm b i j).seen ∧ Seen x key w.heap.size mb (L.length + X.length) L X (bfMs x lm b i j).ways D wy ∧ wy.ownsRow wX.heap.size 76 4 v L.length (cellsG x L) ∧ Keep mb (mb + 1) wX wy) (fun _ u _ => 4 - (intOf u).toNat)
          case atStart => exact ⟨0, L, D, rfl, by omega, hlt, HS0.out, HE0.out, HRO.out, HKP.out⟩
          case round =>
            obtain ⟨j, L, D, rfl, hj4, hiL, hsn, hse, hro, hkp⟩ := hrel
            obtain ⟨wy, rfl⟩ : ∃ y : World, y = wr := ⟨_, rfl⟩
            have HSN := Go.Lib.hid hsn
            have HSE := Go.Lib.hid hse
            have HRO := Go.Lib.hid hro
            have HKP := Go.Lib.hid hkp
            clear hsn hse hro hkp HS0 HE0
            by_cases hlj : j < 4
            case neg =>
              obtain rfl : j = 4 := by omega
              go_wp2_with fail
              go_roundw
              case rel => exact ⟨i + 1, L, D, by go_num, by omega, by rw [HNX.out]; exact HSN.out, by rw [HNX.out]; exact HSE.out, HRO.out, HKP.out⟩
              case measure => simp [intOf]; omega
            case pos =>
              obtain ⟨hbo, -, -, hwi4⟩ := HMS.out j (by omega)
              have HWI := Go.Lib.hid (show ((bfMs x lm b i j).w i).length ≤ 36 by rw [hwi4]; have := HWF.out; omega)
              have HBJ := Go.Lib.hid hbo
              have HBN2 := Go.Lib.hid (show bfMs x lm b i (j + 1) = bfM x lm (bfMs x lm b i j) i (j : Nat) from rfl)
              have hll : L.length = (bfMs x lm b i j).seen.length := by rw [← HSN.out, List.length_map]
              have HL36 := Go.Lib.hid (show L.length ≤ 36 by have := bf_few HTR.out hbo; omega)
              have HSP := Go.Lib.hid (seen_at HSN.out hiL)
              clear hbo hll hwi4
              generalize bfMs x lm b i j = b' at *
              obtain ⟨gq, capq, rfl, hbx, hgq⟩ := row_form HRO.out (by omega)
              have HGB := Go.Lib.hid hbx
              have HGQ := Go.Lib.hid hgq
              have HGI := Go.Lib.hid (HSE.out.ok (L.getD i (0, 0)) (by rw [List.getD_eq_getElem?_getD, List.getElem?_eq_getElem hiL]; exact List.getElem_mem hiL))
              have HMEM := Go.Lib.hid (show L.getD i (0, 0) ∈ L by rw [List.getD_eq_getElem?_getD, List.getElem?_eq_getElem hiL]; exact List.getElem_mem hiL)
              have hij : (i : Int) < L.length := by omega
              have hl36 := HL36.out
              have HATI := Go.Lib.hid (HSE.out.at_ i hiL)
              obtain ⟨q0, q1, q2, q3⟩ := gbox_at hbx hiL
              have HKI := Go.Lib.hid (show keyOf Try.prog 76 (gV (L.getD i (0, 0)).1 (L.getD i (0, 0)).2 (fI x (L.getD i (0, 0)).1) (rI x (L.getD i (0, 0)).2)) = some (key (L.getD i (0, 0))) from gk_of HKY.out HGI.out)
              clear hbx hgq
              generalize hgi : L.getD i (0, 0) = gi at *
              have hsm := gearB_small HTR.out (gearB_of HGI.out)
              have HSH := Go.Lib.hid (fun w0 T0 => implShiftG x A c B d lm gi.1 gi.2 (fI x gi.1) (rI x gi.2) (j : Nat) w0 T0 HTB.out hsm.1 hsm.2 (by omega))
              rw [show (((gi.1 : Nat) : Int), ((gi.2 : Nat) : Int)) = plG gi from rfl] at HSH
              obtain ⟨kl, hkl, hnx⟩ := key_any HKY.out HTB.out (mvG (plG gi) (j : Nat))
              obtain ⟨na, nb, nc, nd, hnv⟩ := gearAtV_form x (mvG (plG gi) (j : Nat)).1 (mvG (plG gi) (j : Nat)).2
              rw [hnv] at HSH hkl hnx
              have HKN0 := Go.Lib.hid hkl
              have HNXT := Go.Lib.hid hnx
              have HNO := Go.Lib.hid (fun h => step_none (x := x) (lm := lm) (b := b') (i := i) (m := (j : Nat)) h)
              rw [HSP.out] at HNO
              have HOL2 := Go.Lib.hid (fun g hp h => HOLD.out b' L HSN.out i (j : Nat) g hp h)
              have HNE2 := Go.Lib.hid (fun g hg hp h1 h2 => HNEW.out b' L HSN.out i (j : Nat) g hg hp h1 h2)
              rw [HSP.out] at HOL2 HNE2
              clear hkl hnx hnv hgi hsm
              generalize mvG (plG gi) (j : Nat) = pm at *
              generalize gearB x pm.1 pm.2 = bg at *
              generalize fI x gi.1 = gf at *
              generalize rI x gi.2 = gr at *
              have HXY := Go.Lib.hid (HXX.out.keep HKP.out (by have := HWM.out; omega))
              have HBY := Go.Lib.hid (HBX.out.trans (HKP.out.below (by have := HWM.out; omega) HBX.out.size))
              have hc0 : wy.cell? ⟨w.heap.size, 0, none⟩ = some (.slice A x.f.length c) := HXY.out.at_ 0 _ rfl
              have hc1 : wy.cell? ⟨w.heap.size, 1, none⟩ = some (.slice B x.r.length d) := HXY.out.at_ 1 _ rfl
              have hc2 : wy.cell? ⟨w.heap.size, 2, none⟩ = some (.int .i64 x.n) := HXY.out.at_ 2 _ rfl
              have hc3 : wy.cell? ⟨w.heap.size, 3, none⟩ = some (.int .i64 lm) := HXY.out.at_ 3 _ rfl
              have hgqc : L.length ≤ 36 := hl36
              unfold gV at HSH
              go_upto_region 15 with fail
              go_cut [12, 13] (fun s12 s13 wx => ∃ nq : Nat, s12 = .pointer (some ⟨nq, 0, none⟩) ∧ s13 = .bool bg ∧ Box wx nq (gC na nb nc nd) ∧ wy.heap.size ≤ nq ∧ Below wy.heap.size wy wx)
              case first =>
                refine wp_region_held_drew (S := fun w' => w'.cell? ⟨w.heap.size, 0, none⟩ = some (.slice A x.f.length c) ∧ w'.cell? ⟨w.heap.size, 1, none⟩ = some (.slice B x.r.length d) ∧ w'.cell? ⟨w.heap.size, 2, none⟩ = some (.int .i64 x.n) ∧ w'.cell? ⟨w.heap.size, 3, none⟩ = some (.int .i64 lm) ∧ w'.cell? ⟨gq, i * 4, none⟩ = some (.int .i64 (gi.1 : Nat)) ∧ w'.cell? ⟨gq, i * 4 + 1, none⟩ = some (.int .i64 (gi.2 : Nat)) ∧ w'.cell? ⟨gq, i * 4 + 2, none⟩ = some (.int .i64 gf) ∧ w'.cell? ⟨gq, i * 4 + 3, none⟩ = some (.int .i64 gr)) (by kernel_rfl) (by exact ⟨hc0, hc1, hc2, hc3, q0, q1, q2, q3⟩) (fun hHeld => ?_)
                refine wpAnyH_take (i := 0) (v := ?vm1) rfl (by kernel_rfl) (by kernel_rfl) (by kernel_rfl) (fun _ _ _ h => h) (Or.inl ⟨by rfl, ?hym1⟩) (by assumption) ?restm1
                case hym1 => (intro w hSw; (try dsimp only at hSw); go_simp; try with_reducible rfl)
                try simp only [List.getElem_toArray, List.getElem_cons_succ, List.getElem_cons_zero, Act.put, List.setIfInBounds_toArray, List.set_cons_zero, List.set_cons_succ]
                refine wpAnyH_take (i := 1) (v := ?vm2) rfl (by kernel_rfl) (by kernel_rfl) (by kernel_rfl) (fun _ _ _ h => h) (Or.inl ⟨by rfl, ?hym2⟩) (by assumption) ?restm2
                case hym2 => (intro w hSw; (try dsimp only at hSw); go_simp; try with_reducible rfl)
                try simp only [List.getElem_toArray, List.getElem_cons_succ, List.getElem_cons_zero, Act.put, List.setIfInBounds_toArray, List.set_cons_zero, List.set_cons_succ]
                refine wpAnyH_take (i := 2) (v := ?vm3) rfl (by kernel_rfl) (by kernel_rfl) (by kernel_rfl) (fun _ _ _ h => h) (Or.inl ⟨by rfl, ?hym3⟩) (by assumption) ?restm3
                case hym3 => (intro w hSw; (try dsimp only at hSw); go_simp; try with_reducible rfl)
                try simp only [List.getElem_toArray, List.getElem_cons_succ, List.getElem_cons_zero, Act.put, List.setIfInBounds_toArray, List.set_cons_zero, List.set_cons_succ]
                refine wpAnyH_take (i := 3) (v := ?vm4) rfl (by kernel_rfl) (by kernel_rfl) (by kernel_rfl) (fun _ _ _ h => h) (Or.inl ⟨by rfl, ?hym4⟩) (by assumption) ?restm4
                case hym4 => (intro w hSw; (try dsimp only at hSw); go_simp; try with_reducible rfl)
                try simp only [List.getElem_toArray, List.getElem_cons_succ, List.getElem_cons_zero, Act.put, List.setIfInBounds_toArray, List.set_cons_zero, List.set_cons_succ]
                refine wpAnyH_take (i := 4) (v := ?vm5) rfl (by kernel_rfl) (by kernel_rfl) (by kernel_rfl) (fun _ _ _ h => h) (Or.inl ⟨by rfl, ?hym5⟩) (by assumption) ?restm5
                case hym5 => (intro w hSw; (try dsimp only at hSw); go_simp; try with_reducible rfl)
                try simp only [List.getElem_toArray, List.getElem_cons_succ, List.getElem_cons_zero, Act.put, List.setIfInBounds_toArray, List.set_cons_zero, List.set_cons_succ]
                refine wpAnyH_take (i := 5) (v := ?vm6) rfl (by kernel_rfl) (by kernel_rfl) (by kernel_rfl) (fun _ _ _ h => h) (Or.inl ⟨by rfl, ?hym6⟩) (by assumption) ?restm6
                case hym6 => (intro w hSw; (try dsimp only at hSw); go_simp; try with_reducible rfl)
                try simp only [List.getElem_toArray, List.getElem_cons_succ, List.getElem_cons_zero, Act.put, List.setIfInBounds_toArray, List.set_cons_zero, List.set_cons_succ]
                refine wpAnyH_ready (rs := [6, 10]) (by kernel_rfl) (by simp) ?_
                refine AllReadyH.cons rfl (fun K hK => ?_) (AllReadyH.cons rfl (fun K hK => ?_) AllReadyH.nil)
                · have HTD := Go.Lib.hid (HT.out.below (show Below w.heap.size w wy.drew from below_drewN HBY.out 1))
                  go_simp
                  (go_at_call 62; refine (HSH.out _ HTD.out).mono ?_; rintro _ wc ⟨rfl, bc⟩)
                  have hsn : w.heap.size < wy.drew.heap.size := HXY.out.lt
                  have hgq : gq < wy.drew.heap.size := HGB.out.lt
                  refine hK.out _ _ ?_ (fun hHeld => ?_)
                  · exact ⟨(bc.cell (p := ⟨w.heap.size, 0, none⟩) hsn).trans hHeld.1, (bc.cell (p := ⟨w.heap.size, 1, none⟩) hsn).trans hHeld.2.1, (bc.cell (p := ⟨w.heap.size, 2, none⟩) hsn).trans hHeld.2.2.1, (bc.cell (p := ⟨w.heap.size, 3, none⟩) hsn).trans hHeld.2.2.2.1, (bc.cell (p := ⟨gq, i * 4, none⟩) hgq).trans hHeld.2.2.2.2.1, (bc.cell (p := ⟨gq, i * 4 + 1, none⟩) hgq).trans hHeld.2.2.2.2.2.1, (bc.cell (p := ⟨gq, i * 4 + 2, none⟩) hgq).trans hHeld.2.2.2.2.2.2.1, (bc.cell (p := ⟨gq, i * 4 + 3, none⟩) hgq).trans hHeld.2.2.2.2.2.2.2⟩
                  clear hK K
                  try simp only [List.getElem_toArray, List.getElem_cons_succ, List.getElem_cons_zero, Act.put, List.setIfInBounds_toArray, List.set_cons_zero, List.set_cons_succ]
                  refine wpAnyH_take (i := 7) (v := ?vm7) rfl (by kernel_rfl) (by kernel_rfl) (by kernel_rfl) (fun _ _ _ h => h) (Or.inl ⟨by rfl, ?hym7⟩) (by assumption) ?restm7
                  case hym7 => (intro w hSw; (try dsimp only at hSw); go_simp; try with_reducible rfl)
                  try simp only [List.getElem_toArray, List.getElem_cons_succ, List.getElem_cons_zero, Act.put, List.setIfInBounds_toArray, List.set_cons_zero, List.set_cons_succ]
                  refine wpAnyH_take (i := 8) (v := ?vm8) rfl (by kernel_rfl) (by kernel_rfl) (by kernel_rfl) (fun _ _ _ h => h) (Or.inl ⟨by rfl, ?hym8⟩) (by assumption) ?restm8
                  case hym8 => (intro w hSw; (try dsimp only at hSw); go_simp; try with_reducible rfl)
                  try simp only [List.getElem_toArray, List.getElem_cons_succ, List.getElem_cons_zero, Act.put, List.setIfInBounds_toArray, List.set_cons_zero, List.set_cons_succ]
                  refine wpAnyH_take (i := 9) (v := ?vm9) rfl (by kernel_rfl) (by kernel_rfl) (by kernel_rfl) (fun _ _ _ h => h) (Or.inl ⟨by rfl, ?hym9⟩) (by assumption) ?restm9
                  case hym9 => (intro w hSw; (try dsimp only at hSw); go_simp; try with_reducible rfl)
                  try simp only [List.getElem_toArray, List.getElem_cons_succ, List.getElem_cons_zero, Act.put, List.setIfInBounds_toArray, List.set_cons_zero, List.set_cons_succ]
                  refine wpAnyH_ready (rs := [10]) (by kernel_rfl) (by simp) ?_
                  refine AllReadyH.cons rfl (fun K hK => ?_) AllReadyH.nil
                  go_simp
                  have HKA := Go.Lib.hid (show Below wc.heap.size wc (World.alloc wc (.cells #[.int .i64 0, .int .i64 0, .int .i64 0, .int .i64 0] 76)) from (Below.refl _ _).alloc (Nat.le_refl _) _)
                  have HNA := Go.Lib.hid (show Box (World.alloc wc (.cells #[.int .i64 0, .int .i64 0, .int .i64 0, .int .i64 0] 76)) wc.heap.size (gC 0 0 0 0) from Box.new rfl rfl)
                  have HBW := Go.Lib.hid (show Below wy.heap.size wy wc from (below_drewN (Below.refl _ _) 1).trans bc)
                  have hsn2 : w.heap.size < wc.heap.size := Nat.lt_of_lt_of_le hsn bc.size
                  have hgq2 : gq < wc.heap.size := Nat.lt_of_lt_of_le hgq bc.size
                  generalize World.alloc wc (.cells #[.int .i64 0, .int .i64 0, .int .i64 0, .int .i64 0] 76) = wa at *
                  refine hK.out _ _ ?_ (fun hHeld => ?_)
                  · exact ⟨(HKA.out.cell (p := ⟨w.heap.size, 0, none⟩) hsn2).trans hHeld.1, (HKA.out.cell (p := ⟨w.heap.size, 1, none⟩) hsn2).trans hHeld.2.1, (HKA.out.cell (p := ⟨w.heap.size, 2, none⟩) hsn2).trans hHeld.2.2.1, (HKA.out.cell (p := ⟨w.heap.size, 3, none⟩) hsn2).trans hHeld.2.2.2.1, (HKA.out.cell (p := ⟨gq, i * 4, none⟩) hgq2).trans hHeld.2.2.2.2.1, (HKA.out.cell (p := ⟨gq, i * 4 + 1, none⟩) hgq2).trans hHeld.2.2.2.2.2.1, (HKA.out.cell (p := ⟨gq, i * 4 + 2, none⟩) hgq2).trans hHeld.2.2.2.2.2.2.1, (HKA.out.cell (p := ⟨gq, i * 4 + 3, none⟩) hgq2).trans hHeld.2.2.2.2.2.2.2⟩
                  clear hK K
                  try simp only [List.getElem_toArray, List.getElem_cons_succ, List.getElem_cons_zero, Act.put, List.setIfInBounds_toArray, List.set_cons_zero, List.set_cons_succ]
                  refine wpAnyH_ready (rs := [11]) (by kernel_rfl) (by simp) ?_
                  refine AllReadyH.cons rfl (fun K hK => ?_) AllReadyH.nil
                  obtain ⟨z0, z1, z2, z3⟩ := cells4 HNA.out
                  have zf0 := HNA.out.fr 0
                  have zf1 := HNA.out.fr 1
                  have zf2 := HNA.out.fr 2
                  have zf3 := HNA.out.fr 3
                  go_simp
                  refine hK.out _ _ ?_ (fun hHeld => ?_)
                  · have HWL := Go.Lib.hid (show wy.heap.size ≤ wc.heap.size from HBW.out.size); exact ⟨(put4_far (by have := HXY.out.lt; have := HWL.out; omega) _ _ _ _ _ _ _).trans hHeld.1, (put4_far (by have := HXY.out.lt; have := HWL.out; omega) _ _ _ _ _ _ _).trans hHeld.2.1, (put4_far (by have := HXY.out.lt; have := HWL.out; omega) _ _ _ _ _ _ _).trans hHeld.2.2.1, (put4_far (by have := HXY.out.lt; have := HWL.out; omega) _ _ _ _ _ _ _).trans hHeld.2.2.2.1, (put4_far (by have := HGB.out.lt; have := HWL.out; omega) _ _ _ _ _ _ _).trans hHeld.2.2.2.2.1, (put4_far (by have := HGB.out.lt; have := HWL.out; omega) _ _ _ _ _ _ _).trans hHeld.2.2.2.2.2.1, (put4_far (by have := HGB.out.lt; have := HWL.out; omega) _ _ _ _ _ _ _).trans hHeld.2.2.2.2.2.2.1, (put4_far (by have := HGB.out.lt; have := HWL.out; omega) _ _ _ _ _ _ _).trans hHeld.2.2.2.2.2.2.2⟩
                  clear hK K
                  try simp only [List.getElem_toArray, List.getElem_cons_succ, List.getElem_cons_zero, Act.put, List.setIfInBounds_toArray, List.set_cons_zero, List.set_cons_succ]
                  refine wpAnyH_take (i := 12) (v := ?vm10) rfl (by kernel_rfl) (by kernel_rfl) (by kernel_rfl) (fun _ _ _ h => h) (Or.inl ⟨by rfl, ?hym10⟩) (by assumption) ?restm10
                  case hym10 => (intro w hSw; (try dsimp only at hSw); go_simp; try with_reducible rfl)
                  try simp only [List.getElem_toArray, List.getElem_cons_succ, List.getElem_cons_zero, Act.put, List.setIfInBounds_toArray, List.set_cons_zero, List.set_cons_succ]
                  refine wpAnyH_done (by kernel_rfl) ?_ _
                  have HB0 := Go.Lib.hid (HBW.out.trans (HKA.out.mono HBW.out.size))
                  have HQ := Go.Lib.hid (put4_box (a2 := na) (b2 := nb) (c2 := nc) (d2 := nd) HNA.out)
                  have HK := Go.Lib.hid (HB0.out.trans ((put4_keep wa (wc.heap.size) 0 na nb nc nd).below (HBW.out.size) HB0.out.size))
                  have HBL := Go.Lib.hid (show Below wy.heap.size wy (put4 wa (wc.heap.size) 0 na nb nc nd) from HK.out)
                  change Exit.then _ _ _ _ (put4 wa (wc.heap.size) 0 na nb nc nd)
                  generalize put4 wa (wc.heap.size) 0 na nb nc nd = w6 at *
                  clear z0 z1 z2 z3 zf0 zf1 zf2 zf3 hHeld
                  go_wp2_with fail
                  go_meet
                  case rel => exact ⟨_, rfl, rfl, HQ.out, HBW.out.size, HBL.out⟩
                · go_simp
                  have HSA := Go.Lib.hid (show Below wy.heap.size wy (World.drew (World.alloc wy (.cells #[.int .i64 0, .int .i64 0, .int .i64 0, .int .i64 0] 76))) from below_drewN ((Below.refl _ _).alloc (Nat.le_refl _) _) 1)
                  have HNA := Go.Lib.hid (show Box (World.drew (World.alloc wy (.cells #[.int .i64 0, .int .i64 0, .int .i64 0, .int .i64 0] 76))) wy.heap.size (gC 0 0 0 0) from (Box.new (w := wy) rfl rfl).drew)
                  have HKA := Go.Lib.hid (show Below wy.drew.heap.size wy.drew (World.drew (World.alloc wy (.cells #[.int .i64 0, .int .i64 0, .int .i64 0, .int .i64 0] 76))) from below_dd ((Below.refl wy.heap.size wy).alloc (Nat.le_refl _) _))
                  have hsn : w.heap.size < wy.drew.heap.size := HXY.out.lt
                  have hgq : gq < wy.drew.heap.size := HGB.out.lt
                  generalize World.drew (World.alloc wy (.cells #[.int .i64 0, .int .i64 0, .int .i64 0, .int .i64 0] 76)) = wa at *
                  refine hK.out _ _ ?_ (fun hHeld => ?_)
                  · exact ⟨(HKA.out.cell (p := ⟨w.heap.size, 0, none⟩) hsn).trans hHeld.1, (HKA.out.cell (p := ⟨w.heap.size, 1, none⟩) hsn).trans hHeld.2.1, (HKA.out.cell (p := ⟨w.heap.size, 2, none⟩) hsn).trans hHeld.2.2.1, (HKA.out.cell (p := ⟨w.heap.size, 3, none⟩) hsn).trans hHeld.2.2.2.1, (HKA.out.cell (p := ⟨gq, i * 4, none⟩) hgq).trans hHeld.2.2.2.2.1, (HKA.out.cell (p := ⟨gq, i * 4 + 1, none⟩) hgq).trans hHeld.2.2.2.2.2.1, (HKA.out.cell (p := ⟨gq, i * 4 + 2, none⟩) hgq).trans hHeld.2.2.2.2.2.2.1, (HKA.out.cell (p := ⟨gq, i * 4 + 3, none⟩) hgq).trans hHeld.2.2.2.2.2.2.2⟩
                  clear hK K
                  try simp only [List.getElem_toArray, List.getElem_cons_succ, List.getElem_cons_zero, Act.put, List.setIfInBounds_toArray, List.set_cons_zero, List.set_cons_succ]
                  refine wpAnyH_ready (rs := [6]) (by kernel_rfl) (by simp) ?_
                  refine AllReadyH.cons rfl (fun K hK => ?_) AllReadyH.nil
                  have HTD := Go.Lib.hid (HT.out.below (HBY.out.trans (HSA.out.mono HBY.out.size)))
                  go_simp
                  (go_at_call 62; refine (HSH.out _ HTD.out).mono ?_; rintro _ wc ⟨rfl, bc⟩)
                  have hsn : w.heap.size < wa.heap.size := Nat.lt_of_lt_of_le HXY.out.lt HSA.out.size
                  have hgq : gq < wa.heap.size := Nat.lt_of_lt_of_le HGB.out.lt HSA.out.size
                  have HNA2 := Go.Lib.hid (HNA.out.below bc)
                  refine hK.out _ _ ?_ (fun hHeld => ?_)
                  · exact ⟨(bc.cell (p := ⟨w.heap.size, 0, none⟩) hsn).trans hHeld.1, (bc.cell (p := ⟨w.heap.size, 1, none⟩) hsn).trans hHeld.2.1, (bc.cell (p := ⟨w.heap.size, 2, none⟩) hsn).trans hHeld.2.2.1, (bc.cell (p := ⟨w.heap.size, 3, none⟩) hsn).trans hHeld.2.2.2.1, (bc.cell (p := ⟨gq, i * 4, none⟩) hgq).trans hHeld.2.2.2.2.1, (bc.cell (p := ⟨gq, i * 4 + 1, none⟩) hgq).trans hHeld.2.2.2.2.2.1, (bc.cell (p := ⟨gq, i * 4 + 2, none⟩) hgq).trans hHeld.2.2.2.2.2.2.1, (bc.cell (p := ⟨gq, i * 4 + 3, none⟩) hgq).trans hHeld.2.2.2.2.2.2.2⟩
                  clear hK K
                  try simp only [List.getElem_toArray, List.getElem_cons_succ, List.getElem_cons_zero, Act.put, List.setIfInBounds_toArray, List.set_cons_zero, List.set_cons_succ]
                  refine wpAnyH_take (i := 7) (v := ?vm11) rfl (by kernel_rfl) (by kernel_rfl) (by kernel_rfl) (fun _ _ _ h => h) (Or.inl ⟨by rfl, ?hym11⟩) (by assumption) ?restm11
                  case hym11 => (intro w hSw; (try dsimp only at hSw); go_simp; try with_reducible rfl)
                  try simp only [List.getElem_toArray, List.getElem_cons_succ, List.getElem_cons_zero, Act.put, List.setIfInBounds_toArray, List.set_cons_zero, List.set_cons_succ]
                  refine wpAnyH_take (i := 8) (v := ?vm12) rfl (by kernel_rfl) (by kernel_rfl) (by kernel_rfl) (fun _ _ _ h => h) (Or.inl ⟨by rfl, ?hym12⟩) (by assumption) ?restm12
                  case hym12 => (intro w hSw; (try dsimp only at hSw); go_simp; try with_reducible rfl)
                  try simp only [List.getElem_toArray, List.getElem_cons_succ, List.getElem_cons_zero, Act.put, List.setIfInBounds_toArray, List.set_cons_zero, List.set_cons_succ]
                  refine wpAnyH_take (i := 9) (v := ?vm13) rfl (by kernel_rfl) (by kernel_rfl) (by kernel_rfl) (fun _ _ _ h => h) (Or.inl ⟨by rfl, ?hym13⟩) (by assumption) ?restm13
                  case hym13 => (intro w hSw; (try dsimp only at hSw); go_simp; try with_reducible rfl)
                  try simp only [List.getElem_toArray, List.getElem_cons_succ, List.getElem_cons_zero, Act.put, List.setIfInBounds_toArray, List.set_cons_zero, List.set_cons_succ]
                  refine wpAnyH_ready (rs := [11]) (by kernel_rfl) (by simp) ?_
                  refine AllReadyH.cons rfl (fun K hK => ?_) AllReadyH.nil
                  obtain ⟨z0, z1, z2, z3⟩ := cells4 HNA2.out
                  have zf0 := HNA2.out.fr 0
                  have zf1 := HNA2.out.fr 1
                  have zf2 := HNA2.out.fr 2
                  have zf3 := HNA2.out.fr 3
                  go_simp
                  refine hK.out _ _ ?_ (fun hHeld => ?_)
                  · have HWL := Go.Lib.hid (show wy.heap.size ≤ wy.heap.size from Nat.le_refl _); exact ⟨(put4_far (by have := HXY.out.lt; have := HWL.out; omega) _ _ _ _ _ _ _).trans hHeld.1, (put4_far (by have := HXY.out.lt; have := HWL.out; omega) _ _ _ _ _ _ _).trans hHeld.2.1, (put4_far (by have := HXY.out.lt; have := HWL.out; omega) _ _ _ _ _ _ _).trans hHeld.2.2.1, (put4_far (by have := HXY.out.lt; have := HWL.out; omega) _ _ _ _ _ _ _).trans hHeld.2.2.2.1, (put4_far (by have := HGB.out.lt; have := HWL.out; omega) _ _ _ _ _ _ _).trans hHeld.2.2.2.2.1, (put4_far (by have := HGB.out.lt; have := HWL.out; omega) _ _ _ _ _ _ _).trans hHeld.2.2.2.2.2.1, (put4_far (by have := HGB.out.lt; have := HWL.out; omega) _ _ _ _ _ _ _).trans hHeld.2.2.2.2.2.2.1, (put4_far (by have := HGB.out.lt; have := HWL.out; omega) _ _ _ _ _ _ _).trans hHeld.2.2.2.2.2.2.2⟩
                  clear hK K
                  try simp only [List.getElem_toArray, List.getElem_cons_succ, List.getElem_cons_zero, Act.put, List.setIfInBounds_toArray, List.set_cons_zero, List.set_cons_succ]
                  refine wpAnyH_take (i := 12) (v := ?vm14) rfl (by kernel_rfl) (by kernel_rfl) (by kernel_rfl) (fun _ _ _ h => h) (Or.inl ⟨by rfl, ?hym14⟩) (by assumption) ?restm14
                  case hym14 => (intro w hSw; (try dsimp only at hSw); go_simp; try with_reducible rfl)
                  try simp only [List.getElem_toArray, List.getElem_cons_succ, List.getElem_cons_zero, Act.put, List.setIfInBounds_toArray, List.set_cons_zero, List.set_cons_succ]
                  refine wpAnyH_done (by kernel_rfl) ?_ _
                  have HB0 := Go.Lib.hid (HSA.out.trans (bc.mono HSA.out.size))
                  have HQ := Go.Lib.hid (put4_box (a2 := na) (b2 := nb) (c2 := nc) (d2 := nd) HNA2.out)
                  have HK := Go.Lib.hid (HB0.out.trans ((put4_keep wc (wy.heap.size) 0 na nb nc nd).below (Nat.le_refl _) HB0.out.size))
                  have HBL := Go.Lib.hid (show Below wy.heap.size wy (put4 wc (wy.heap.size) 0 na nb nc nd) from HK.out)
                  change Exit.then _ _ _ _ (put4 wc (wy.heap.size) 0 na nb nc nd)
                  generalize put4 wc (wy.heap.size) 0 na nb nc nd = w6 at *
                  clear z0 z1 z2 z3 zf0 zf1 zf2 zf3 hHeld
                  go_wp2_with fail
                  go_meet
                  case rel => exact ⟨_, rfl, rfl, HQ.out, Nat.le_refl _, HBL.out⟩
              case rest =>
                obtain ⟨nq, rfl, rfl, hbn, hnq, hbl⟩ := hcut
                have HSC := Go.Lib.hid (HSE.out.below hbl)
                have HRC := Go.Lib.hid (row_below HRO.out hbl)
                have HKC := Go.Lib.hid (HKP.out.then_ hbl)
                have HBN := Go.Lib.hid hbn
                have HQC := Go.Lib.hid (HGB.out.below hbl)
                have HBC := Go.Lib.hid (HBY.out.trans (hbl.mono HBY.out.size))
                have HNM := Go.Lib.hid (Nat.lt_of_lt_of_le HSE.out.lt hnq)
                have HQM := Go.Lib.hid (Nat.lt_of_lt_of_le HMB.out HGQ.out)
                have hgl0 := HGB.out.lt
                have HC0 := Go.Lib.hid ((hbl.cell (p := ⟨gq, i * 4, none⟩) hgl0).trans q0)
                have HC1 := Go.Lib.hid ((hbl.cell (p := ⟨gq, i * 4 + 1, none⟩) hgl0).trans q1)
                have HC2 := Go.Lib.hid ((hbl.cell (p := ⟨gq, i * 4 + 2, none⟩) hgl0).trans q2)
                have HC3 := Go.Lib.hid ((hbl.cell (p := ⟨gq, i * 4 + 3, none⟩) hgl0).trans q3)
                obtain ⟨v0, hat0, hrw0⟩ := HATI.out
                have HAT := Go.Lib.hid hat0
                have HRW := Go.Lib.hid (hrw0.kept (grownB_ hbl (Nat.le_refl _)) (fun g e => by simp at e))
                obtain ⟨v, ps, hrun, -⟩ := HSC.out.own.look_ok keyedG Try.underlying81 (zeroRowG wc) (show heldE (.slice none 0 0) = some (.held (.slice none 0 0), []) from rfl) HKN0.out
                obtain ⟨n0, n1, n2, n3⟩ := cells4 HBN.out
                clear hbn hnq hbl hgl0 hat0 hrw0 hc0 hc1 hc2 hc3 q0 q1 q2 q3 HSE HRO HKP HXY HBY HGB HSH HATI
                cases bg
                case false =>
                  have HB2 := Go.Lib.hid (HNO.out rfl)
                  unfold gV at hrun
                  generalize Maps.has D kl = hs at *
                  go_wp2_with fail
                  go_roundw
                  case rel => exact ⟨j + 1, L, D, by go_num, by omega, hiL, by rw [HBN2.out, HB2.out]; exact HSN.out, by rw [HBN2.out, HB2.out]; exact HSC.out, HRC.out, HKC.out⟩
                  case measure => simp [intOf]; omega
                case true =>
                  obtain ⟨h, hpm, hgh, hgv, rfl⟩ := HNXT.out rfl
                  rw [HSC.out.has h hgh] at hrun
                  unfold gV at hrun
                  cases hcc : (L.contains h || X.contains h)
                  case true =>
                    have HB2 := Go.Lib.hid (HOL2.out h hpm hcc)
                    rw [hcc] at hrun
                    clear hcc hpm hgh hgv
                    go_wp2_with fail
                    go_roundw
                    case rel => exact ⟨j + 1, L, D, by go_num, by omega, hiL, by rw [HBN2.out, HB2.out]; exact HSN.out, by rw [HBN2.out, HB2.out]; exact HSC.out, HRC.out, HKC.out⟩
                    case measure => simp [intOf]; omega
                  case false =>
                    rw [hcc] at hrun
                    obtain ⟨h1, h2⟩ := Bool.or_eq_false_iff.1 hcc
                    obtain ⟨e1, e2, -⟩ := HNE2.out h hgh hpm h1 h2
                    have HE1 := Go.Lib.hid e1
                    have HE2 := Go.Lib.hid e2
                    have HH1 := Go.Lib.hid h1
                    have HH2 := Go.Lib.hid h2
                    have HGH := Go.Lib.hid hgh
                    unfold gearV gV at hgv
                    simp only [Value.agg.injEq, Array.mk.injEq, List.cons.injEq, Value.int.injEq, true_and, and_true] at hgv
                    obtain ⟨rfl, rfl, rfl, rfl⟩ := hgv
                    have HKN := Go.Lib.hid HKN0.out
                    have HCH := Go.Lib.hid (show gearC x h = [.int .i64 (h.1 : Nat), .int .i64 (h.2 : Nat), .int .i64 (fI x h.1), .int .i64 (rI x h.2)] from rfl)
                    have HLK := Go.Lib.hid (fun w0 (b0 : Below wc.heap.size wc w0) => (HSC.out.below b0).look_at HKI.out HAT.out)
                    have hne : gi ≠ h := fun e => by
                      have hm := HMEM.out
                      rw [e] at hm
                      simp [List.contains_eq_mem, hm] at h1
                    have HLO := Go.Lib.hid (fun (d : DataW Value) => (Maps.atKey_put_other (D := D) (gk_ne HKY.out HGI.out hgh hne) d (.held (.slice none 0 0))).trans HAT.out)
                    have HB0 := Go.Lib.hid (show Below wc.heap.size wc wc.drew from below_drewN (Below.refl _ _) 1)
                    have HWS := Go.Lib.hid (show w.heap.size ≤ wc.heap.size from HBC.out.size)
                    have HNL := Go.Lib.hid HBN.out.lt
                    have HGL := Go.Lib.hid HQC.out.lt
                    have hwd : b'.ways.getD i [] = b'.w i := rfl
                    rw [hwd] at HRW
                    clear hcc hpm hgh h1 h2 e1 e2 hne hwd HNE2 HOL2 HNO HNXT
                    generalize fI x h.1 = nc at *
                    generalize rI x h.2 = nd at *
                    generalize b'.w i = wi at *
                    unfold gV at HKI HKN HLK
                    obtain ⟨q0, q1, q2, q3⟩ : wc.cell? ⟨gq, i * 4, none⟩ = some (.int .i64 (gi.1 : Nat)) ∧ wc.cell? ⟨gq, i * 4 + 1, none⟩ = some (.int .i64 (gi.2 : Nat)) ∧ wc.cell? ⟨gq, i * 4 + 2, none⟩ = some (.int .i64 gf) ∧ wc.cell? ⟨gq, i * 4 + 3, none⟩ = some (.int .i64 gr) := ⟨HC0.out, HC1.out, HC2.out, HC3.out⟩
                    go_upto_region 18 with fail
                    clear hrun
                    go_cut [] (fun wx => ∃ D' : DataW Value, Seen x key w.heap.size mb (L.length + X.length + 1) (L ++ [h]) X (b'.ways ++ [wi ++ [(j : Int)]]) D' wx ∧ wx.ownsRow wX.heap.size 76 4 (.slice (some ⟨gq, 0, none⟩) L.length capq) L.length (cellsG x L) ∧ Keep mb (mb + 1) wX wx ∧ Box wx nq (gC h.1 h.2 nc nd))
                    case first =>
                      have hnq0 : nq ≠ mb := by have := HNM.out; omega
                      by_cases hw0 : wi = []
                      case pos =>
                        subst hw0
                        obtain rfl := HRW.out.nil rfl
                        have HCL := Go.Lib.hid (fun w0 => implCloneN w0)
                        clear hnq0
                        refine wp_region_held_drew (S := fun w' => w'.cell? ⟨nq, 0, none⟩ = some (.int .i64 (h.1 : Nat)) ∧ w'.cell? ⟨nq, 1, none⟩ = some (.int .i64 (h.2 : Nat)) ∧ w'.cell? ⟨nq, 2, none⟩ = some (.int .i64 nc) ∧ w'.cell? ⟨nq, 3, none⟩ = some (.int .i64 nd) ∧ w'.cell? ⟨gq, i * 4, none⟩ = some (.int .i64 (gi.1 : Nat)) ∧ w'.cell? ⟨gq, i * 4 + 1, none⟩ = some (.int .i64 (gi.2 : Nat)) ∧ w'.cell? ⟨gq, i * 4 + 2, none⟩ = some (.int .i64 gf) ∧ w'.cell? ⟨gq, i * 4 + 3, none⟩ = some (.int .i64 gr) ∧ (Instr.lookup 81 (.map (some mb)) (.agg #[.int .i64 (gi.1 : Nat), .int .i64 (gi.2 : Nat), .int .i64 gf, .int .i64 gr]) false).run Try.prog w' = .ok (.slice none 0 0) w') (by kernel_rfl) (by exact ⟨n0, n1, n2, n3, q0, q1, q2, q3, HLK.out _ HB0.out⟩) (fun hHeld => ?_)
                        refine wpAnyH_take (i := 0) (v := ?vw01) rfl (by kernel_rfl) (by kernel_rfl) (by kernel_rfl) (fun _ _ _ h => h) (Or.inl ⟨by rfl, ?hyw01⟩) (by assumption) ?restw01
                        case hyw01 => (intro w hSw; (try dsimp only at hSw); go_simp; try with_reducible rfl)
                        try simp only [List.getElem_toArray, List.getElem_cons_succ, List.getElem_cons_zero, Act.put, List.setIfInBounds_toArray, List.set_cons_zero, List.set_cons_succ]
                        refine wpAnyH_take (i := 1) (v := ?vw02) rfl (by kernel_rfl) (by kernel_rfl) (by kernel_rfl) (fun _ _ _ h => h) (Or.inl ⟨by rfl, ?hyw02⟩) (by assumption) ?restw02
                        case hyw02 => (intro w hSw; (try dsimp only at hSw); go_simp; try with_reducible rfl)
                        try simp only [List.getElem_toArray, List.getElem_cons_succ, List.getElem_cons_zero, Act.put, List.setIfInBounds_toArray, List.set_cons_zero, List.set_cons_succ]
                        refine wpAnyH_take (i := 2) (v := ?vw03) rfl (by kernel_rfl) (by kernel_rfl) (by kernel_rfl) (fun _ _ _ h => h) (Or.inl ⟨by rfl, ?hyw03⟩) (by assumption) ?restw03
                        case hyw03 => (intro w hSw; (try dsimp only at hSw); go_simp; try with_reducible rfl)
                        try simp only [List.getElem_toArray, List.getElem_cons_succ, List.getElem_cons_zero, Act.put, List.setIfInBounds_toArray, List.set_cons_zero, List.set_cons_succ]
                        refine wpAnyH_take (i := 3) (v := ?vw04) rfl (by kernel_rfl) (by kernel_rfl) (by kernel_rfl) (fun _ _ _ h => h) (Or.inl ⟨by rfl, ?hyw04⟩) (by assumption) ?restw04
                        case hyw04 => (intro w hSw; (try dsimp only at hSw); go_simp; try with_reducible rfl)
                        try simp only [List.getElem_toArray, List.getElem_cons_succ, List.getElem_cons_zero, Act.put, List.setIfInBounds_toArray, List.set_cons_zero, List.set_cons_succ]
                        refine wpAnyH_take (i := 4) (v := ?vw05) rfl (by kernel_rfl) (by kernel_rfl) (by kernel_rfl) (fun _ _ _ h => h) (Or.inl ⟨by rfl, ?hyw05⟩) (by assumption) ?restw05
                        case hyw05 => (intro w hSw; (try dsimp only at hSw); go_simp; try with_reducible rfl)
                        try simp only [List.getElem_toArray, List.getElem_cons_succ, List.getElem_cons_zero, Act.put, List.setIfInBounds_toArray, List.set_cons_zero, List.set_cons_succ]
                        refine wpAnyH_take (i := 5) (v := ?vw06) rfl (by kernel_rfl) (by kernel_rfl) (by kernel_rfl) (fun _ _ _ h => h) (Or.inl ⟨by rfl, ?hyw06⟩) (by assumption) ?restw06
                        case hyw06 => (intro w hSw; (try dsimp only at hSw); go_simp; try with_reducible rfl)
                        try simp only [List.getElem_toArray, List.getElem_cons_succ, List.getElem_cons_zero, Act.put, List.setIfInBounds_toArray, List.set_cons_zero, List.set_cons_succ]
                        refine wpAnyH_take (i := 6) (v := ?vw07) rfl (by kernel_rfl) (by kernel_rfl) (by kernel_rfl) (fun _ _ _ h => h) (Or.inl ⟨by rfl, ?hyw07⟩) (by assumption) ?restw07
                        case hyw07 => (intro w hSw; (try dsimp only at hSw); go_simp; try with_reducible rfl)
                        try simp only [List.getElem_toArray, List.getElem_cons_succ, List.getElem_cons_zero, Act.put, List.setIfInBounds_toArray, List.set_cons_zero, List.set_cons_succ]
                        refine wpAnyH_take (i := 7) (v := ?vw08) rfl (by kernel_rfl) (by kernel_rfl) (by kernel_rfl) (fun _ _ _ h => h) (Or.inl ⟨by rfl, ?hyw08⟩) (by assumption) ?restw08
                        case hyw08 => (intro w hSw; (try dsimp only at hSw); go_simp; try with_reducible rfl)
                        try simp only [List.getElem_toArray, List.getElem_cons_succ, List.getElem_cons_zero, Act.put, List.setIfInBounds_toArray, List.set_cons_zero, List.set_cons_succ]
                        refine wpAnyH_take (i := 9) (v := ?vw09) rfl (by kernel_rfl) (by kernel_rfl) (by kernel_rfl) (fun _ _ _ h => h) (Or.inl ⟨by rfl, ?hyw09⟩) (by assumption) ?restw09
                        case hyw09 => (intro w hSw; (try dsimp only at hSw); go_simp; try with_reducible rfl)
                        try simp only [List.getElem_toArray, List.getElem_cons_succ, List.getElem_cons_zero, Act.put, List.setIfInBounds_toArray, List.set_cons_zero, List.set_cons_succ]
                        refine wpAnyH_ready (rs := [8, 10]) (by kernel_rfl) (by simp) ?_
                        refine AllReadyH.cons rfl (fun K hK => ?_) (AllReadyH.cons rfl (fun K hK => ?_) AllReadyH.nil)
                        · go_simp
                          (go_at_call 80; refine (HCL.out _).mono ?_; rintro _ _ ⟨rfl, rfl⟩)
                          refine hK.out _ _ ?_ (fun hHeld => ?_)
                          · exact hHeld
                          clear hK K
                          try simp only [List.getElem_toArray, List.getElem_cons_succ, List.getElem_cons_zero, Act.put, List.setIfInBounds_toArray, List.set_cons_zero, List.set_cons_succ]
                          refine wpAnyH_ready (rs := [10]) (by kernel_rfl) (by simp) ?_
                          refine AllReadyH.cons rfl (fun K hK => ?_) AllReadyH.nil
                          go_simp
                          have bs10 : Below wc.heap.size (wc.drew) (World.drew (World.alloc wc (.cells #[.int .i64 (j : Nat)] 2))) := below_dd ((Below.refl wc.heap.size wc).alloc (Nat.le_refl _) _)
                          have HBa := Go.Lib.hid (HB0.out.trans bs10)
                          have HNJ := Go.Lib.hid (show Box (World.drew (World.alloc wc (.cells #[.int .i64 (j : Nat)] 2))) (wc.drew).heap.size [.int .i64 (j : Nat)] from (Box.new (w := wc) rfl rfl).drew)
                          have HLN10 := Go.Lib.hid (HLK.out _ HBa.out)
                          generalize World.drew (World.alloc wc (.cells #[.int .i64 (j : Nat)] 2)) = wa at *
                          refine hK.out _ _ ?_ (fun hHeld => ?_)
                          · exact ⟨(bs10.cell (p := ⟨nq, 0, none⟩) HNL.out).trans hHeld.1, (bs10.cell (p := ⟨nq, 1, none⟩) HNL.out).trans hHeld.2.1, (bs10.cell (p := ⟨nq, 2, none⟩) HNL.out).trans hHeld.2.2.1, (bs10.cell (p := ⟨nq, 3, none⟩) HNL.out).trans hHeld.2.2.2.1, (bs10.cell (p := ⟨gq, i * 4, none⟩) HGL.out).trans hHeld.2.2.2.2.1, (bs10.cell (p := ⟨gq, i * 4 + 1, none⟩) HGL.out).trans hHeld.2.2.2.2.2.1, (bs10.cell (p := ⟨gq, i * 4 + 2, none⟩) HGL.out).trans hHeld.2.2.2.2.2.2.1, (bs10.cell (p := ⟨gq, i * 4 + 3, none⟩) HGL.out).trans hHeld.2.2.2.2.2.2.2.1, HLN10.out⟩
                          clear hK K
                          try simp only [List.getElem_toArray, List.getElem_cons_succ, List.getElem_cons_zero, Act.put, List.setIfInBounds_toArray, List.set_cons_zero, List.set_cons_succ]
                          refine wpAnyH_ready (rs := [11]) (by kernel_rfl) (by simp) ?_
                          refine AllReadyH.cons rfl (fun K hK => ?_) AllReadyH.nil
                          rw [if_pos (by rfl)]
                          refine op_append_own _ _ _ 24 rfl w.heap.size 2 i0 (.int .i64 0) 1 8 Try.underlying24 hi hz0 hz1 hz2 rfl (by decide) (.slice none 0 0) 0 [] rfl (World.ownsRow_nil _ _ _ _) ⟨wc.drew.heap.size, 0, none⟩ 1 1 [.int .i64 (j : Nat)] rfl rfl (news_box HNJ.out) (ints_oneCell .i64 [(j : Int)]) (by unfold maxLen; have := HWI.out; omega) (by have := HWI.out; omega) (Nat.le_trans HWS.out HBa.out.size) ?_
                          intro v6 w6 hown6 hgrow6 _
                          have bs11 : Below wc.heap.size (wa) w6 := below_grow hgrow6 HBa.out.size (fun g e => by simp [Value.ownBlock] at e)
                          have HB6 := Go.Lib.hid (HBa.out.trans bs11)
                          have HLN11 := Go.Lib.hid (HLK.out _ HB6.out)
                          have HR6 := Go.Lib.hid (show Rw w6 w.heap.size ([] ++ [(j : Int)]) v6 from rw_app (wi := []) hown6)
                          clear hown6 hgrow6
                          refine hK.out _ _ ?_ (fun hHeld => ?_)
                          · exact ⟨(bs11.cell (p := ⟨nq, 0, none⟩) HNL.out).trans hHeld.1, (bs11.cell (p := ⟨nq, 1, none⟩) HNL.out).trans hHeld.2.1, (bs11.cell (p := ⟨nq, 2, none⟩) HNL.out).trans hHeld.2.2.1, (bs11.cell (p := ⟨nq, 3, none⟩) HNL.out).trans hHeld.2.2.2.1, (bs11.cell (p := ⟨gq, i * 4, none⟩) HGL.out).trans hHeld.2.2.2.2.1, (bs11.cell (p := ⟨gq, i * 4 + 1, none⟩) HGL.out).trans hHeld.2.2.2.2.2.1, (bs11.cell (p := ⟨gq, i * 4 + 2, none⟩) HGL.out).trans hHeld.2.2.2.2.2.2.1, (bs11.cell (p := ⟨gq, i * 4 + 3, none⟩) HGL.out).trans hHeld.2.2.2.2.2.2.2.1, HLN11.out⟩
                          clear hK K
                          try simp only [List.getElem_toArray, List.getElem_cons_succ, List.getElem_cons_zero, Act.put, List.setIfInBounds_toArray, List.set_cons_zero, List.set_cons_succ]
                          refine wpAnyH_ready (rs := [12]) (by kernel_rfl) (by simp) ?_
                          refine AllReadyH.cons rfl (fun K hK => ?_) AllReadyH.nil
                          have HS6 := Go.Lib.hid (HSC.out.below HB6.out)
                          obtain ⟨w7, hupd, hown7, hgrow7⟩ := HS6.out.own.update keyedG Try.underlying81 (by unfold maxLen; have := HL36.out; have := HX36.out; omega) HKN.out (show heldE v6 = some (.held v6, []) from rfl)
                          have HPUT := Go.Lib.hid (HS6.out.put HKY.out HGH.out HH1.out HH2.out HR6.out hown7 hgrow7)
                          have HK7 := Go.Lib.hid (keepM hgrow7)
                          have HR7 := Go.Lib.hid (row_map (row_below HRC.out HB6.out) hgrow7 (HS6.out.not_cells _))
                          have HKC7 := Go.Lib.hid ((HKC.out.then_ HB6.out).trans HK7.out)
                          have HN7 := Go.Lib.hid ((HBN.out.below HB6.out).keep HK7.out (by have := HNM.out; omega))
                          have HLU := Go.Lib.hid (HPUT.out.look_at HKI.out (HLO.out _))
                          have hn6 : nq < w6.heap.size := Nat.lt_of_lt_of_le HNL.out HB6.out.size
                          have hg6 : gq < w6.heap.size := Nat.lt_of_lt_of_le HGL.out HB6.out.size
                          rw [if_pos (by rfl)]
                          refine op_mapUpdate _ _ _ _ _ rfl _ _ _ rfl rfl rfl w7 hupd ?_
                          refine hK.out _ _ ?_ (fun hHeld => ?_)
                          · exact ⟨(HK7.out.cellAt (p := ⟨nq, 0, none⟩) hn6 (by have := HNM.out; dsimp only; omega) rfl).trans hHeld.1, (HK7.out.cellAt (p := ⟨nq, 1, none⟩) hn6 (by have := HNM.out; dsimp only; omega) rfl).trans hHeld.2.1, (HK7.out.cellAt (p := ⟨nq, 2, none⟩) hn6 (by have := HNM.out; dsimp only; omega) rfl).trans hHeld.2.2.1, (HK7.out.cellAt (p := ⟨nq, 3, none⟩) hn6 (by have := HNM.out; dsimp only; omega) rfl).trans hHeld.2.2.2.1, (HK7.out.cellAt (p := ⟨gq, i * 4, none⟩) hg6 (by have := HQM.out; dsimp only; omega) rfl).trans hHeld.2.2.2.2.1, (HK7.out.cellAt (p := ⟨gq, i * 4 + 1, none⟩) hg6 (by have := HQM.out; dsimp only; omega) rfl).trans hHeld.2.2.2.2.2.1, (HK7.out.cellAt (p := ⟨gq, i * 4 + 2, none⟩) hg6 (by have := HQM.out; dsimp only; omega) rfl).trans hHeld.2.2.2.2.2.2.1, (HK7.out.cellAt (p := ⟨gq, i * 4 + 3, none⟩) hg6 (by have := HQM.out; dsimp only; omega) rfl).trans hHeld.2.2.2.2.2.2.2.1, HLU.out⟩
                          clear hK K
                          try simp only [List.getElem_toArray, List.getElem_cons_succ, List.getElem_cons_zero, Act.put, List.setIfInBounds_toArray, List.set_cons_zero, List.set_cons_succ]
                          refine wpAnyH_done (by kernel_rfl) ?_ _
                          clear hHeld
                          go_wp2_with fail
                          go_meet
                          case rel => exact ⟨_, HPUT.out, HR7.out, HKC7.out, HN7.out⟩
                        · go_simp
                          have bs10 : Below wc.heap.size (wc.drew) (World.drew (World.alloc wc (.cells #[.int .i64 (j : Nat)] 2))) := below_dd ((Below.refl wc.heap.size wc).alloc (Nat.le_refl _) _)
                          have HBa := Go.Lib.hid (HB0.out.trans bs10)
                          have HNJ := Go.Lib.hid (show Box (World.drew (World.alloc wc (.cells #[.int .i64 (j : Nat)] 2))) (wc.drew).heap.size [.int .i64 (j : Nat)] from (Box.new (w := wc) rfl rfl).drew)
                          have HLN10 := Go.Lib.hid (HLK.out _ HBa.out)
                          generalize World.drew (World.alloc wc (.cells #[.int .i64 (j : Nat)] 2)) = wa at *
                          refine hK.out _ _ ?_ (fun hHeld => ?_)
                          · exact ⟨(bs10.cell (p := ⟨nq, 0, none⟩) HNL.out).trans hHeld.1, (bs10.cell (p := ⟨nq, 1, none⟩) HNL.out).trans hHeld.2.1, (bs10.cell (p := ⟨nq, 2, none⟩) HNL.out).trans hHeld.2.2.1, (bs10.cell (p := ⟨nq, 3, none⟩) HNL.out).trans hHeld.2.2.2.1, (bs10.cell (p := ⟨gq, i * 4, none⟩) HGL.out).trans hHeld.2.2.2.2.1, (bs10.cell (p := ⟨gq, i * 4 + 1, none⟩) HGL.out).trans hHeld.2.2.2.2.2.1, (bs10.cell (p := ⟨gq, i * 4 + 2, none⟩) HGL.out).trans hHeld.2.2.2.2.2.2.1, (bs10.cell (p := ⟨gq, i * 4 + 3, none⟩) HGL.out).trans hHeld.2.2.2.2.2.2.2.1, HLN10.out⟩
                          clear hK K
                          try simp only [List.getElem_toArray, List.getElem_cons_succ, List.getElem_cons_zero, Act.put, List.setIfInBounds_toArray, List.set_cons_zero, List.set_cons_succ]
                          refine wpAnyH_ready (rs := [8]) (by kernel_rfl) (by simp) ?_
                          refine AllReadyH.cons rfl (fun K hK => ?_) AllReadyH.nil
                          go_simp
                          (go_at_call 80; refine (HCL.out _).mono ?_; rintro _ _ ⟨rfl, rfl⟩)
                          refine hK.out _ _ ?_ (fun hHeld => ?_)
                          · exact hHeld
                          clear hK K
                          try simp only [List.getElem_toArray, List.getElem_cons_succ, List.getElem_cons_zero, Act.put, List.setIfInBounds_toArray, List.set_cons_zero, List.set_cons_succ]
                          refine wpAnyH_ready (rs := [11]) (by kernel_rfl) (by simp) ?_
                          refine AllReadyH.cons rfl (fun K hK => ?_) AllReadyH.nil
                          rw [if_pos (by rfl)]
                          refine op_append_own _ _ _ 24 rfl w.heap.size 2 i0 (.int .i64 0) 1 8 Try.underlying24 hi hz0 hz1 hz2 rfl (by decide) (.slice none 0 0) 0 [] rfl (World.ownsRow_nil _ _ _ _) ⟨wc.drew.heap.size, 0, none⟩ 1 1 [.int .i64 (j : Nat)] rfl rfl (news_box HNJ.out) (ints_oneCell .i64 [(j : Int)]) (by unfold maxLen; have := HWI.out; omega) (by have := HWI.out; omega) (Nat.le_trans HWS.out HBa.out.size) ?_
                          intro v6 w6 hown6 hgrow6 _
                          have bs11 : Below wc.heap.size (wa) w6 := below_grow hgrow6 HBa.out.size (fun g e => by simp [Value.ownBlock] at e)
                          have HB6 := Go.Lib.hid (HBa.out.trans bs11)
                          have HLN11 := Go.Lib.hid (HLK.out _ HB6.out)
                          have HR6 := Go.Lib.hid (show Rw w6 w.heap.size ([] ++ [(j : Int)]) v6 from rw_app (wi := []) hown6)
                          clear hown6 hgrow6
                          refine hK.out _ _ ?_ (fun hHeld => ?_)
                          · exact ⟨(bs11.cell (p := ⟨nq, 0, none⟩) HNL.out).trans hHeld.1, (bs11.cell (p := ⟨nq, 1, none⟩) HNL.out).trans hHeld.2.1, (bs11.cell (p := ⟨nq, 2, none⟩) HNL.out).trans hHeld.2.2.1, (bs11.cell (p := ⟨nq, 3, none⟩) HNL.out).trans hHeld.2.2.2.1, (bs11.cell (p := ⟨gq, i * 4, none⟩) HGL.out).trans hHeld.2.2.2.2.1, (bs11.cell (p := ⟨gq, i * 4 + 1, none⟩) HGL.out).trans hHeld.2.2.2.2.2.1, (bs11.cell (p := ⟨gq, i * 4 + 2, none⟩) HGL.out).trans hHeld.2.2.2.2.2.2.1, (bs11.cell (p := ⟨gq, i * 4 + 3, none⟩) HGL.out).trans hHeld.2.2.2.2.2.2.2.1, HLN11.out⟩
                          clear hK K
                          try simp only [List.getElem_toArray, List.getElem_cons_succ, List.getElem_cons_zero, Act.put, List.setIfInBounds_toArray, List.set_cons_zero, List.set_cons_succ]
                          refine wpAnyH_ready (rs := [12]) (by kernel_rfl) (by simp) ?_
                          refine AllReadyH.cons rfl (fun K hK => ?_) AllReadyH.nil
                          have HS6 := Go.Lib.hid (HSC.out.below HB6.out)
                          obtain ⟨w7, hupd, hown7, hgrow7⟩ := HS6.out.own.update keyedG Try.underlying81 (by unfold maxLen; have := HL36.out; have := HX36.out; omega) HKN.out (show heldE v6 = some (.held v6, []) from rfl)
                          have HPUT := Go.Lib.hid (HS6.out.put HKY.out HGH.out HH1.out HH2.out HR6.out hown7 hgrow7)
                          have HK7 := Go.Lib.hid (keepM hgrow7)
                          have HR7 := Go.Lib.hid (row_map (row_below HRC.out HB6.out) hgrow7 (HS6.out.not_cells _))
                          have HKC7 := Go.Lib.hid ((HKC.out.then_ HB6.out).trans HK7.out)
                          have HN7 := Go.Lib.hid ((HBN.out.below HB6.out).keep HK7.out (by have := HNM.out; omega))
                          have HLU := Go.Lib.hid (HPUT.out.look_at HKI.out (HLO.out _))
                          have hn6 : nq < w6.heap.size := Nat.lt_of_lt_of_le HNL.out HB6.out.size
                          have hg6 : gq < w6.heap.size := Nat.lt_of_lt_of_le HGL.out HB6.out.size
                          rw [if_pos (by rfl)]
                          refine op_mapUpdate _ _ _ _ _ rfl _ _ _ rfl rfl rfl w7 hupd ?_
                          refine hK.out _ _ ?_ (fun hHeld => ?_)
                          · exact ⟨(HK7.out.cellAt (p := ⟨nq, 0, none⟩) hn6 (by have := HNM.out; dsimp only; omega) rfl).trans hHeld.1, (HK7.out.cellAt (p := ⟨nq, 1, none⟩) hn6 (by have := HNM.out; dsimp only; omega) rfl).trans hHeld.2.1, (HK7.out.cellAt (p := ⟨nq, 2, none⟩) hn6 (by have := HNM.out; dsimp only; omega) rfl).trans hHeld.2.2.1, (HK7.out.cellAt (p := ⟨nq, 3, none⟩) hn6 (by have := HNM.out; dsimp only; omega) rfl).trans hHeld.2.2.2.1, (HK7.out.cellAt (p := ⟨gq, i * 4, none⟩) hg6 (by have := HQM.out; dsimp only; omega) rfl).trans hHeld.2.2.2.2.1, (HK7.out.cellAt (p := ⟨gq, i * 4 + 1, none⟩) hg6 (by have := HQM.out; dsimp only; omega) rfl).trans hHeld.2.2.2.2.2.1, (HK7.out.cellAt (p := ⟨gq, i * 4 + 2, none⟩) hg6 (by have := HQM.out; dsimp only; omega) rfl).trans hHeld.2.2.2.2.2.2.1, (HK7.out.cellAt (p := ⟨gq, i * 4 + 3, none⟩) hg6 (by have := HQM.out; dsimp only; omega) rfl).trans hHeld.2.2.2.2.2.2.2.1, HLU.out⟩
                          clear hK K
                          try simp only [List.getElem_toArray, List.getElem_cons_succ, List.getElem_cons_zero, Act.put, List.setIfInBounds_toArray, List.set_cons_zero, List.set_cons_succ]
                          refine wpAnyH_done (by kernel_rfl) ?_ _
                          clear hHeld
                          go_wp2_with fail
                          go_meet
                          case rel => exact ⟨_, HPUT.out, HR7.out, HKC7.out, HN7.out⟩
                      case neg =>
                        have hwp : 0 < wi.length := List.length_pos_iff.2 hw0
                        obtain ⟨VA, vc, rfl, hov⟩ := HRW.out.ex
                        obtain ⟨vb, rfl, -⟩ := hov.form hwp
                        have HCL := Go.Lib.hid (fun w0 (b0 : Below wc.heap.size wc w0) => implCloneG (some ⟨vb, 0, none⟩) vc wi w0 (Ls.of (hov.below b0 (Nat.le_refl _)).rd hov.le (by have := HWI.out; omega)) hwp)
                        clear hnq0 hw0 hov
                        refine wp_region_held_drew (S := fun w' => w'.cell? ⟨nq, 0, none⟩ = some (.int .i64 (h.1 : Nat)) ∧ w'.cell? ⟨nq, 1, none⟩ = some (.int .i64 (h.2 : Nat)) ∧ w'.cell? ⟨nq, 2, none⟩ = some (.int .i64 nc) ∧ w'.cell? ⟨nq, 3, none⟩ = some (.int .i64 nd) ∧ w'.cell? ⟨gq, i * 4, none⟩ = some (.int .i64 (gi.1 : Nat)) ∧ w'.cell? ⟨gq, i * 4 + 1, none⟩ = some (.int .i64 (gi.2 : Nat)) ∧ w'.cell? ⟨gq, i * 4 + 2, none⟩ = some (.int .i64 gf) ∧ w'.cell? ⟨gq, i * 4 + 3, none⟩ = some (.int .i64 gr) ∧ (Instr.lookup 81 (.map (some mb)) (.agg #[.int .i64 (gi.1 : Nat), .int .i64 (gi.2 : Nat), .int .i64 gf, .int .i64 gr]) false).run Try.prog w' = .ok (.slice (some ⟨vb, 0, none⟩) wi.length vc) w') (by kernel_rfl) (by exact ⟨n0, n1, n2, n3, q0, q1, q2, q3, HLK.out _ HB0.out⟩) (fun hHeld => ?_)
                        refine wpAnyH_take (i := 0) (v := ?vw11) rfl (by kernel_rfl) (by kernel_rfl) (by kernel_rfl) (fun _ _ _ h => h) (Or.inl ⟨by rfl, ?hyw11⟩) (by assumption) ?restw11
                        case hyw11 => (intro w hSw; (try dsimp only at hSw); go_simp; try with_reducible rfl)
                        try simp only [List.getElem_toArray, List.getElem_cons_succ, List.getElem_cons_zero, Act.put, List.setIfInBounds_toArray, List.set_cons_zero, List.set_cons_succ]
                        refine wpAnyH_take (i := 1) (v := ?vw12) rfl (by kernel_rfl) (by kernel_rfl) (by kernel_rfl) (fun _ _ _ h => h) (Or.inl ⟨by rfl, ?hyw12⟩) (by assumption) ?restw12
                        case hyw12 => (intro w hSw; (try dsimp only at hSw); go_simp; try with_reducible rfl)
                        try simp only [List.getElem_toArray, List.getElem_cons_succ, List.getElem_cons_zero, Act.put, List.setIfInBounds_toArray, List.set_cons_zero, List.set_cons_succ]
                        refine wpAnyH_take (i := 2) (v := ?vw13) rfl (by kernel_rfl) (by kernel_rfl) (by kernel_rfl) (fun _ _ _ h => h) (Or.inl ⟨by rfl, ?hyw13⟩) (by assumption) ?restw13
                        case hyw13 => (intro w hSw; (try dsimp only at hSw); go_simp; try with_reducible rfl)
                        try simp only [List.getElem_toArray, List.getElem_cons_succ, List.getElem_cons_zero, Act.put, List.setIfInBounds_toArray, List.set_cons_zero, List.set_cons_succ]
                        refine wpAnyH_take (i := 3) (v := ?vw14) rfl (by kernel_rfl) (by kernel_rfl) (by kernel_rfl) (fun _ _ _ h => h) (Or.inl ⟨by rfl, ?hyw14⟩) (by assumption) ?restw14
                        case hyw14 => (intro w hSw; (try dsimp only at hSw); go_simp; try with_reducible rfl)
                        try simp only [List.getElem_toArray, List.getElem_cons_succ, List.getElem_cons_zero, Act.put, List.setIfInBounds_toArray, List.set_cons_zero, List.set_cons_succ]
                        refine wpAnyH_take (i := 4) (v := ?vw15) rfl (by kernel_rfl) (by kernel_rfl) (by kernel_rfl) (fun _ _ _ h => h) (Or.inl ⟨by rfl, ?hyw15⟩) (by assumption) ?restw15
                        case hyw15 => (intro w hSw; (try dsimp only at hSw); go_simp; try with_reducible rfl)
                        try simp only [List.getElem_toArray, List.getElem_cons_succ, List.getElem_cons_zero, Act.put, List.setIfInBounds_toArray, List.set_cons_zero, List.set_cons_succ]
                        refine wpAnyH_take (i := 5) (v := ?vw16) rfl (by kernel_rfl) (by kernel_rfl) (by kernel_rfl) (fun _ _ _ h => h) (Or.inl ⟨by rfl, ?hyw16⟩) (by assumption) ?restw16
                        case hyw16 => (intro w hSw; (try dsimp only at hSw); go_simp; try with_reducible rfl)
                        try simp only [List.getElem_toArray, List.getElem_cons_succ, List.getElem_cons_zero, Act.put, List.setIfInBounds_toArray, List.set_cons_zero, List.set_cons_succ]
                        refine wpAnyH_take (i := 6) (v := ?vw17) rfl (by kernel_rfl) (by kernel_rfl) (by kernel_rfl) (fun _ _ _ h => h) (Or.inl ⟨by rfl, ?hyw17⟩) (by assumption) ?restw17
                        case hyw17 => (intro w hSw; (try dsimp only at hSw); go_simp; try with_reducible rfl)
                        try simp only [List.getElem_toArray, List.getElem_cons_succ, List.getElem_cons_zero, Act.put, List.setIfInBounds_toArray, List.set_cons_zero, List.set_cons_succ]
                        refine wpAnyH_take (i := 7) (v := ?vw18) rfl (by kernel_rfl) (by kernel_rfl) (by kernel_rfl) (fun _ _ _ h => h) (Or.inl ⟨by rfl, ?hyw18⟩) (by assumption) ?restw18
                        case hyw18 => (intro w hSw; (try dsimp only at hSw); go_simp; try with_reducible rfl)
                        try simp only [List.getElem_toArray, List.getElem_cons_succ, List.getElem_cons_zero, Act.put, List.setIfInBounds_toArray, List.set_cons_zero, List.set_cons_succ]
                        refine wpAnyH_take (i := 9) (v := ?vw19) rfl (by kernel_rfl) (by kernel_rfl) (by kernel_rfl) (fun _ _ _ h => h) (Or.inl ⟨by rfl, ?hyw19⟩) (by assumption) ?restw19
                        case hyw19 => (intro w hSw; (try dsimp only at hSw); go_simp; try with_reducible rfl)
                        try simp only [List.getElem_toArray, List.getElem_cons_succ, List.getElem_cons_zero, Act.put, List.setIfInBounds_toArray, List.set_cons_zero, List.set_cons_succ]
                        refine wpAnyH_ready (rs := [8, 10]) (by kernel_rfl) (by simp) ?_
                        refine AllReadyH.cons rfl (fun K hK => ?_) (AllReadyH.cons rfl (fun K hK => ?_) AllReadyH.nil)
                        · go_simp
                          (go_at_call 80; refine (HCL.out _ HB0.out).mono ?_; rintro _ wk ⟨cg, cc, rfl, how, bk⟩)
                          have bs8 : Below wc.heap.size (wc.drew) wk := bk.mono HB0.out.size
                          have HBk := Go.Lib.hid (HB0.out.trans bs8)
                          have HCG := Go.Lib.hid (show wc.heap.size ≤ cg from Nat.le_trans HB0.out.size (how.1.lt cg rfl).1)
                          have HOk := Go.Lib.hid (how.lower (lo' := w.heap.size) (Nat.le_trans HWS.out HB0.out.size))
                          have HLN8 := Go.Lib.hid (HLK.out _ HBk.out)
                          clear how bk
                          refine hK.out _ _ ?_ (fun hHeld => ?_)
                          · exact ⟨(bs8.cell (p := ⟨nq, 0, none⟩) HNL.out).trans hHeld.1, (bs8.cell (p := ⟨nq, 1, none⟩) HNL.out).trans hHeld.2.1, (bs8.cell (p := ⟨nq, 2, none⟩) HNL.out).trans hHeld.2.2.1, (bs8.cell (p := ⟨nq, 3, none⟩) HNL.out).trans hHeld.2.2.2.1, (bs8.cell (p := ⟨gq, i * 4, none⟩) HGL.out).trans hHeld.2.2.2.2.1, (bs8.cell (p := ⟨gq, i * 4 + 1, none⟩) HGL.out).trans hHeld.2.2.2.2.2.1, (bs8.cell (p := ⟨gq, i * 4 + 2, none⟩) HGL.out).trans hHeld.2.2.2.2.2.2.1, (bs8.cell (p := ⟨gq, i * 4 + 3, none⟩) HGL.out).trans hHeld.2.2.2.2.2.2.2.1, HLN8.out⟩
                          clear hK K
                          try simp only [List.getElem_toArray, List.getElem_cons_succ, List.getElem_cons_zero, Act.put, List.setIfInBounds_toArray, List.set_cons_zero, List.set_cons_succ]
                          refine wpAnyH_ready (rs := [10]) (by kernel_rfl) (by simp) ?_
                          refine AllReadyH.cons rfl (fun K hK => ?_) AllReadyH.nil
                          go_simp
                          have bs10 : Below wc.heap.size (wk) (World.alloc (wk) (.cells #[.int .i64 (j : Nat)] 2)) := (Below.refl _ _).alloc HBk.out.size _
                          have HBa := Go.Lib.hid (HBk.out.trans bs10)
                          have HNJ := Go.Lib.hid (show Box (World.alloc (wk) (.cells #[.int .i64 (j : Nat)] 2)) (wk).heap.size [.int .i64 (j : Nat)] from Box.new rfl rfl)
                          have HOa := Go.Lib.hid (HOk.out.below (show Below (wk).heap.size (wk) (World.alloc (wk) (.cells #[.int .i64 (j : Nat)] 2)) from (Below.refl _ _).alloc (Nat.le_refl _) _) (Nat.le_refl _))
                          have HLN10 := Go.Lib.hid (HLK.out _ HBa.out)
                          generalize World.alloc (wk) (.cells #[.int .i64 (j : Nat)] 2) = wa at *
                          refine hK.out _ _ ?_ (fun hHeld => ?_)
                          · exact ⟨(bs10.cell (p := ⟨nq, 0, none⟩) HNL.out).trans hHeld.1, (bs10.cell (p := ⟨nq, 1, none⟩) HNL.out).trans hHeld.2.1, (bs10.cell (p := ⟨nq, 2, none⟩) HNL.out).trans hHeld.2.2.1, (bs10.cell (p := ⟨nq, 3, none⟩) HNL.out).trans hHeld.2.2.2.1, (bs10.cell (p := ⟨gq, i * 4, none⟩) HGL.out).trans hHeld.2.2.2.2.1, (bs10.cell (p := ⟨gq, i * 4 + 1, none⟩) HGL.out).trans hHeld.2.2.2.2.2.1, (bs10.cell (p := ⟨gq, i * 4 + 2, none⟩) HGL.out).trans hHeld.2.2.2.2.2.2.1, (bs10.cell (p := ⟨gq, i * 4 + 3, none⟩) HGL.out).trans hHeld.2.2.2.2.2.2.2.1, HLN10.out⟩
                          clear hK K
                          try simp only [List.getElem_toArray, List.getElem_cons_succ, List.getElem_cons_zero, Act.put, List.setIfInBounds_toArray, List.set_cons_zero, List.set_cons_succ]
                          refine wpAnyH_ready (rs := [11]) (by kernel_rfl) (by simp) ?_
                          refine AllReadyH.cons rfl (fun K hK => ?_) AllReadyH.nil
                          rw [if_pos (by rfl)]
                          refine op_append_own _ _ _ 24 rfl w.heap.size 2 i0 (.int .i64 0) 1 8 Try.underlying24 hi hz0 hz1 hz2 rfl (by decide) (.slice (some ⟨cg, 0, none⟩) wi.length cc) wi.length (ints wi) rfl HOa.out.1 ⟨wk.heap.size, 0, none⟩ 1 1 [.int .i64 (j : Nat)] rfl rfl (news_box HNJ.out) (ints_oneCell .i64 [(j : Int)]) (by unfold maxLen; have := HWI.out; omega) (by have := HWI.out; omega) (Nat.le_trans HWS.out HBa.out.size) ?_
                          intro v6 w6 hown6 hgrow6 _
                          have bs11 : Below wc.heap.size (wa) w6 := below_grow hgrow6 HBa.out.size (fun g e => (show cg = g by simpa [Value.ownBlock] using e) ▸ HCG.out)
                          have HB6 := Go.Lib.hid (HBa.out.trans bs11)
                          have HLN11 := Go.Lib.hid (HLK.out _ HB6.out)
                          have HR6 := Go.Lib.hid (show Rw w6 w.heap.size (wi ++ [(j : Int)]) v6 from rw_app hown6)
                          clear hown6 hgrow6
                          refine hK.out _ _ ?_ (fun hHeld => ?_)
                          · exact ⟨(bs11.cell (p := ⟨nq, 0, none⟩) HNL.out).trans hHeld.1, (bs11.cell (p := ⟨nq, 1, none⟩) HNL.out).trans hHeld.2.1, (bs11.cell (p := ⟨nq, 2, none⟩) HNL.out).trans hHeld.2.2.1, (bs11.cell (p := ⟨nq, 3, none⟩) HNL.out).trans hHeld.2.2.2.1, (bs11.cell (p := ⟨gq, i * 4, none⟩) HGL.out).trans hHeld.2.2.2.2.1, (bs11.cell (p := ⟨gq, i * 4 + 1, none⟩) HGL.out).trans hHeld.2.2.2.2.2.1, (bs11.cell (p := ⟨gq, i * 4 + 2, none⟩) HGL.out).trans hHeld.2.2.2.2.2.2.1, (bs11.cell (p := ⟨gq, i * 4 + 3, none⟩) HGL.out).trans hHeld.2.2.2.2.2.2.2.1, HLN11.out⟩
                          clear hK K
                          try simp only [List.getElem_toArray, List.getElem_cons_succ, List.getElem_cons_zero, Act.put, List.setIfInBounds_toArray, List.set_cons_zero, List.set_cons_succ]
                          refine wpAnyH_ready (rs := [12]) (by kernel_rfl) (by simp) ?_
                          refine AllReadyH.cons rfl (fun K hK => ?_) AllReadyH.nil
                          have HS6 := Go.Lib.hid (HSC.out.below HB6.out)
                          obtain ⟨w7, hupd, hown7, hgrow7⟩ := HS6.out.own.update keyedG Try.underlying81 (by unfold maxLen; have := HL36.out; have := HX36.out; omega) HKN.out (show heldE v6 = some (.held v6, []) from rfl)
                          have HPUT := Go.Lib.hid (HS6.out.put HKY.out HGH.out HH1.out HH2.out HR6.out hown7 hgrow7)
                          have HK7 := Go.Lib.hid (keepM hgrow7)
                          have HR7 := Go.Lib.hid (row_map (row_below HRC.out HB6.out) hgrow7 (HS6.out.not_cells _))
                          have HKC7 := Go.Lib.hid ((HKC.out.then_ HB6.out).trans HK7.out)
                          have HN7 := Go.Lib.hid ((HBN.out.below HB6.out).keep HK7.out (by have := HNM.out; omega))
                          have HLU := Go.Lib.hid (HPUT.out.look_at HKI.out (HLO.out _))
                          have hn6 : nq < w6.heap.size := Nat.lt_of_lt_of_le HNL.out HB6.out.size
                          have hg6 : gq < w6.heap.size := Nat.lt_of_lt_of_le HGL.out HB6.out.size
                          rw [if_pos (by rfl)]
                          refine op_mapUpdate _ _ _ _ _ rfl _ _ _ rfl rfl rfl w7 hupd ?_
                          refine hK.out _ _ ?_ (fun hHeld => ?_)
                          · exact ⟨(HK7.out.cellAt (p := ⟨nq, 0, none⟩) hn6 (by have := HNM.out; dsimp only; omega) rfl).trans hHeld.1, (HK7.out.cellAt (p := ⟨nq, 1, none⟩) hn6 (by have := HNM.out; dsimp only; omega) rfl).trans hHeld.2.1, (HK7.out.cellAt (p := ⟨nq, 2, none⟩) hn6 (by have := HNM.out; dsimp only; omega) rfl).trans hHeld.2.2.1, (HK7.out.cellAt (p := ⟨nq, 3, none⟩) hn6 (by have := HNM.out; dsimp only; omega) rfl).trans hHeld.2.2.2.1, (HK7.out.cellAt (p := ⟨gq, i * 4, none⟩) hg6 (by have := HQM.out; dsimp only; omega) rfl).trans hHeld.2.2.2.2.1, (HK7.out.cellAt (p := ⟨gq, i * 4 + 1, none⟩) hg6 (by have := HQM.out; dsimp only; omega) rfl).trans hHeld.2.2.2.2.2.1, (HK7.out.cellAt (p := ⟨gq, i * 4 + 2, none⟩) hg6 (by have := HQM.out; dsimp only; omega) rfl).trans hHeld.2.2.2.2.2.2.1, (HK7.out.cellAt (p := ⟨gq, i * 4 + 3, none⟩) hg6 (by have := HQM.out; dsimp only; omega) rfl).trans hHeld.2.2.2.2.2.2.2.1, HLU.out⟩
                          clear hK K
                          try simp only [List.getElem_toArray, List.getElem_cons_succ, List.getElem_cons_zero, Act.put, List.setIfInBounds_toArray, List.set_cons_zero, List.set_cons_succ]
                          refine wpAnyH_done (by kernel_rfl) ?_ _
                          clear hHeld
                          go_wp2_with fail
                          go_meet
                          case rel => exact ⟨_, HPUT.out, HR7.out, HKC7.out, HN7.out⟩
                        · go_simp
                          have bs10 : Below wc.heap.size (wc.drew) (World.drew (World.alloc wc (.cells #[.int .i64 (j : Nat)] 2))) := below_dd ((Below.refl wc.heap.size wc).alloc (Nat.le_refl _) _)
                          have HBa := Go.Lib.hid (HB0.out.trans bs10)
                          have HNJ := Go.Lib.hid (show Box (World.drew (World.alloc wc (.cells #[.int .i64 (j : Nat)] 2))) (wc.drew).heap.size [.int .i64 (j : Nat)] from (Box.new (w := wc) rfl rfl).drew)
                          have HLN10 := Go.Lib.hid (HLK.out _ HBa.out)
                          generalize World.drew (World.alloc wc (.cells #[.int .i64 (j : Nat)] 2)) = wa at *
                          refine hK.out _ _ ?_ (fun hHeld => ?_)
                          · exact ⟨(bs10.cell (p := ⟨nq, 0, none⟩) HNL.out).trans hHeld.1, (bs10.cell (p := ⟨nq, 1, none⟩) HNL.out).trans hHeld.2.1, (bs10.cell (p := ⟨nq, 2, none⟩) HNL.out).trans hHeld.2.2.1, (bs10.cell (p := ⟨nq, 3, none⟩) HNL.out).trans hHeld.2.2.2.1, (bs10.cell (p := ⟨gq, i * 4, none⟩) HGL.out).trans hHeld.2.2.2.2.1, (bs10.cell (p := ⟨gq, i * 4 + 1, none⟩) HGL.out).trans hHeld.2.2.2.2.2.1, (bs10.cell (p := ⟨gq, i * 4 + 2, none⟩) HGL.out).trans hHeld.2.2.2.2.2.2.1, (bs10.cell (p := ⟨gq, i * 4 + 3, none⟩) HGL.out).trans hHeld.2.2.2.2.2.2.2.1, HLN10.out⟩
                          clear hK K
                          try simp only [List.getElem_toArray, List.getElem_cons_succ, List.getElem_cons_zero, Act.put, List.setIfInBounds_toArray, List.set_cons_zero, List.set_cons_succ]
                          refine wpAnyH_ready (rs := [8]) (by kernel_rfl) (by simp) ?_
                          refine AllReadyH.cons rfl (fun K hK => ?_) AllReadyH.nil
                          go_simp
                          (go_at_call 80; refine (HCL.out _ HBa.out).mono ?_; rintro _ wk ⟨cg, cc, rfl, how, bk⟩)
                          have bs8 : Below wc.heap.size (wa) wk := bk.mono HBa.out.size
                          have HBk := Go.Lib.hid (HBa.out.trans bs8)
                          have HCG := Go.Lib.hid (show wc.heap.size ≤ cg from Nat.le_trans HBa.out.size (how.1.lt cg rfl).1)
                          have HOk := Go.Lib.hid (how.lower (lo' := w.heap.size) (Nat.le_trans HWS.out HBa.out.size))
                          have HLN8 := Go.Lib.hid (HLK.out _ HBk.out)
                          have HNJk := Go.Lib.hid (HNJ.out.below bk)
                          clear how bk
                          refine hK.out _ _ ?_ (fun hHeld => ?_)
                          · exact ⟨(bs8.cell (p := ⟨nq, 0, none⟩) HNL.out).trans hHeld.1, (bs8.cell (p := ⟨nq, 1, none⟩) HNL.out).trans hHeld.2.1, (bs8.cell (p := ⟨nq, 2, none⟩) HNL.out).trans hHeld.2.2.1, (bs8.cell (p := ⟨nq, 3, none⟩) HNL.out).trans hHeld.2.2.2.1, (bs8.cell (p := ⟨gq, i * 4, none⟩) HGL.out).trans hHeld.2.2.2.2.1, (bs8.cell (p := ⟨gq, i * 4 + 1, none⟩) HGL.out).trans hHeld.2.2.2.2.2.1, (bs8.cell (p := ⟨gq, i * 4 + 2, none⟩) HGL.out).trans hHeld.2.2.2.2.2.2.1, (bs8.cell (p := ⟨gq, i * 4 + 3, none⟩) HGL.out).trans hHeld.2.2.2.2.2.2.2.1, HLN8.out⟩
                          clear hK K
                          try simp only [List.getElem_toArray, List.getElem_cons_succ, List.getElem_cons_zero, Act.put, List.setIfInBounds_toArray, List.set_cons_zero, List.set_cons_succ]
                          refine wpAnyH_ready (rs := [11]) (by kernel_rfl) (by simp) ?_
                          refine AllReadyH.cons rfl (fun K hK => ?_) AllReadyH.nil
                          rw [if_pos (by rfl)]
                          refine op_append_own _ _ _ 24 rfl w.heap.size 2 i0 (.int .i64 0) 1 8 Try.underlying24 hi hz0 hz1 hz2 rfl (by decide) (.slice (some ⟨cg, 0, none⟩) wi.length cc) wi.length (ints wi) rfl HOk.out.1 ⟨wc.drew.heap.size, 0, none⟩ 1 1 [.int .i64 (j : Nat)] rfl rfl (news_box HNJk.out) (ints_oneCell .i64 [(j : Int)]) (by unfold maxLen; have := HWI.out; omega) (by have := HWI.out; omega) (Nat.le_trans HWS.out HBk.out.size) ?_
                          intro v6 w6 hown6 hgrow6 _
                          have bs11 : Below wc.heap.size (wk) w6 := below_grow hgrow6 HBk.out.size (fun g e => (show cg = g by simpa [Value.ownBlock] using e) ▸ HCG.out)
                          have HB6 := Go.Lib.hid (HBk.out.trans bs11)
                          have HLN11 := Go.Lib.hid (HLK.out _ HB6.out)
                          have HR6 := Go.Lib.hid (show Rw w6 w.heap.size (wi ++ [(j : Int)]) v6 from rw_app hown6)
                          clear hown6 hgrow6
                          refine hK.out _ _ ?_ (fun hHeld => ?_)
                          · exact ⟨(bs11.cell (p := ⟨nq, 0, none⟩) HNL.out).trans hHeld.1, (bs11.cell (p := ⟨nq, 1, none⟩) HNL.out).trans hHeld.2.1, (bs11.cell (p := ⟨nq, 2, none⟩) HNL.out).trans hHeld.2.2.1, (bs11.cell (p := ⟨nq, 3, none⟩) HNL.out).trans hHeld.2.2.2.1, (bs11.cell (p := ⟨gq, i * 4, none⟩) HGL.out).trans hHeld.2.2.2.2.1, (bs11.cell (p := ⟨gq, i * 4 + 1, none⟩) HGL.out).trans hHeld.2.2.2.2.2.1, (bs11.cell (p := ⟨gq, i * 4 + 2, none⟩) HGL.out).trans hHeld.2.2.2.2.2.2.1, (bs11.cell (p := ⟨gq, i * 4 + 3, none⟩) HGL.out).trans hHeld.2.2.2.2.2.2.2.1, HLN11.out⟩
                          clear hK K
                          try simp only [List.getElem_toArray, List.getElem_cons_succ, List.getElem_cons_zero, Act.put, List.setIfInBounds_toArray, List.set_cons_zero, List.set_cons_succ]
                          refine wpAnyH_ready (rs := [12]) (by kernel_rfl) (by simp) ?_
                          refine AllReadyH.cons rfl (fun K hK => ?_) AllReadyH.nil
                          have HS6 := Go.Lib.hid (HSC.out.below HB6.out)
                          obtain ⟨w7, hupd, hown7, hgrow7⟩ := HS6.out.own.update keyedG Try.underlying81 (by unfold maxLen; have := HL36.out; have := HX36.out; omega) HKN.out (show heldE v6 = some (.held v6, []) from rfl)
                          have HPUT := Go.Lib.hid (HS6.out.put HKY.out HGH.out HH1.out HH2.out HR6.out hown7 hgrow7)
                          have HK7 := Go.Lib.hid (keepM hgrow7)
                          have HR7 := Go.Lib.hid (row_map (row_below HRC.out HB6.out) hgrow7 (HS6.out.not_cells _))
                          have HKC7 := Go.Lib.hid ((HKC.out.then_ HB6.out).trans HK7.out)
                          have HN7 := Go.Lib.hid ((HBN.out.below HB6.out).keep HK7.out (by have := HNM.out; omega))
                          have HLU := Go.Lib.hid (HPUT.out.look_at HKI.out (HLO.out _))
                          have hn6 : nq < w6.heap.size := Nat.lt_of_lt_of_le HNL.out HB6.out.size
                          have hg6 : gq < w6.heap.size := Nat.lt_of_lt_of_le HGL.out HB6.out.size
                          rw [if_pos (by rfl)]
                          refine op_mapUpdate _ _ _ _ _ rfl _ _ _ rfl rfl rfl w7 hupd ?_
                          refine hK.out _ _ ?_ (fun hHeld => ?_)
                          · exact ⟨(HK7.out.cellAt (p := ⟨nq, 0, none⟩) hn6 (by have := HNM.out; dsimp only; omega) rfl).trans hHeld.1, (HK7.out.cellAt (p := ⟨nq, 1, none⟩) hn6 (by have := HNM.out; dsimp only; omega) rfl).trans hHeld.2.1, (HK7.out.cellAt (p := ⟨nq, 2, none⟩) hn6 (by have := HNM.out; dsimp only; omega) rfl).trans hHeld.2.2.1, (HK7.out.cellAt (p := ⟨nq, 3, none⟩) hn6 (by have := HNM.out; dsimp only; omega) rfl).trans hHeld.2.2.2.1, (HK7.out.cellAt (p := ⟨gq, i * 4, none⟩) hg6 (by have := HQM.out; dsimp only; omega) rfl).trans hHeld.2.2.2.2.1, (HK7.out.cellAt (p := ⟨gq, i * 4 + 1, none⟩) hg6 (by have := HQM.out; dsimp only; omega) rfl).trans hHeld.2.2.2.2.2.1, (HK7.out.cellAt (p := ⟨gq, i * 4 + 2, none⟩) hg6 (by have := HQM.out; dsimp only; omega) rfl).trans hHeld.2.2.2.2.2.2.1, (HK7.out.cellAt (p := ⟨gq, i * 4 + 3, none⟩) hg6 (by have := HQM.out; dsimp only; omega) rfl).trans hHeld.2.2.2.2.2.2.2.1, HLU.out⟩
                          clear hK K
                          try simp only [List.getElem_toArray, List.getElem_cons_succ, List.getElem_cons_zero, Act.put, List.setIfInBounds_toArray, List.set_cons_zero, List.set_cons_succ]
                          refine wpAnyH_done (by kernel_rfl) ?_ _
                          clear hHeld
                          go_wp2_with fail
                          go_meet
                          case rel => exact ⟨_, HPUT.out, HR7.out, HKC7.out, HN7.out⟩
                    case rest =>
                      obtain ⟨D2, hs2, hr2, hk2, hn2⟩ := hcut
                      have HS2 := Go.Lib.hid hs2
                      have HR2 := Go.Lib.hid hr2
                      have HK2 := Go.Lib.hid hk2
                      have hsz2 := hk2.size
                      clear n0 n1 n2 n3 q0 q1 q2 q3
                      obtain ⟨n0, n1, n2, n3⟩ := cells4 hn2
                      clear hs2 hk2 hn2
                      go_wp2_with (at_builtin; refine wpList_append_own_at _ rfl _ _ 93 rfl wX.heap.size 76 j0 (gV 0 0 0 0) 4 32 Try.underlying93 ji jz0 jz1 jz2 rfl (by decide) _ _ _ rfl (hr2.alloc _) ⟨wc.heap.size, 0, none⟩ 1 1 [.int .i64 (h.1 : Nat), .int .i64 (h.2 : Nat), .int .i64 nc, .int .i64 nd] rfl rfl (news4 _ _ _ _ _ _) (by simp [Value.oneCell']) (by unfold maxLen; omega) (by omega) (by simp; omega) ?_; intro v' w3 hown' hgrow hnil hat; clear hnil hat)
                      have HS3 := Go.Lib.hid (HS2.out.appended HR2.out hgrow)
                      have HK3 := Go.Lib.hid (keep_app HK2.out hgrow (fun g e => (row_heap HR2.out e).1))
                      have HR3 := Go.Lib.hid (show w3.ownsRow wX.heap.size 76 4 v' (L ++ [h]).length (cellsG x (L ++ [h])) by
                        rw [List.length_append, cellsG_app, show cellsG x [h] = gearC x h by simp [cellsG], HCH.out]
                        exact hown')
                      clear hown' hgrow hr2 n0 n1 n2 n3
                      go_wp2_with fail
                      go_roundw
                      case rel => exact ⟨j + 1, L ++ [h], D2, by go_num, by omega, by rw [List.length_append]; omega, by rw [HBN2.out]; exact HE2.out, by
                        rw [HBN2.out, HE1.out, show (L ++ [h]).length + X.length = L.length + X.length + 1 by rw [List.length_append, List.length_singleton]; omega]
                        exact HS3.out, HR3.out, HK3.out⟩
                      case measure => simp [intOf]; omega
end Go.Proofs.Ythedanpldebjcaa
