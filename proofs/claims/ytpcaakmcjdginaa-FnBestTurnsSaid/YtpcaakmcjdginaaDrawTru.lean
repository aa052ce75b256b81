/- Draws of effects. -/
import Derived.Test.YtpcaakmcjdginaaDrawList
import Derived.Test.YtpcaakmcjdginaaTruS7
namespace Go.Proofs.Ytpcaakmcjdginaa
open Go.RowKit
set_option linter.unusedSimpArgs false
set_option linter.unusedVariables false

theorem Ow.take {w : World} {lo hi n cap k : Nat} {t : TypeId} {A : Option Addr} {zs : List Int} (h : Ow w lo hi t A n cap (ints zs)) (hk : k ≤ n) : Ow w lo hi t A k cap (ints (zs.take k)) := by
  have hl := h.len
  rw [ints_len] at hl
  refine ⟨⟨by rw [ints_len, List.length_take]; omega, ?_⟩, fun g hg => h.2 g (by cases A <;> exact hg)⟩
  rcases h.1.2 with ⟨e, h0⟩ | ⟨g, cap', cur, e, h1, h2, h3, h4, h5, h6⟩
  · injection e with e1 e2 e3
    subst e1 e3
    obtain rfl : k = 0 := by omega
    exact .inl ⟨rfl, rfl⟩
  · injection e with e1 e2 e3
    subst e1 e3
    refine .inr ⟨g, cap, cur, rfl, h1, h2, by omega, h4, h5, ?_⟩
    have : (ints zs).take k = ints (zs.take k) := by simp [ints, List.map_take]
    rw [← this, ← h6, List.take_take]
    congr 1
    omega
section
variable {w W : World} {g : Nat} {A : Option Addr} {n cap : Nat} {bs : List Int} {zs : List Int} {B : Option Addr} {c : Nat}
theorem StL.take (h : StL w g A n cap bs zs B c W) {k : Nat} (hk : k ≤ zs.length) : StL w g A n cap bs (zs.take k) B c W := by
  refine ⟨h.src, h.kp, ?_⟩
  rw [List.length_take, Nat.min_eq_left hk]
  exact h.ow.take hk
theorem StL.lit (s : Src W g A n cap bs) (k : Keep g (g + 1) w W) (xs : List Int) (m : Nat) (hm : xs.length = m) (hm2 : m ≤ 1000) {cs : Array Value} (hc : cs = (ints xs).toArray) : StL w g A n cap bs xs (some ⟨W.heap.size, 0, none⟩) m (W.alloc (.cells cs 2)) := by
  subst hc
  subst hm
  refine ⟨s.below ((Below.refl _ _).alloc (Nat.le_refl _) _), k.trans (keepAlloc W g _), ?_, fun g' hg' => by
    have : W.heap.size = g' := by simpa [Value.ownBlock] using hg'
    subst this; simp⟩
  have h := World.ownsRow_lit (base := w.heap.size) (e := 2) (size := 1) W (ints xs).toArray xs.length k.size (by unfold maxLen; omega) (by simp [ints])
  simpa using h
end

set_option maxRecDepth 100000 in
set_option maxHeartbeats 8000000 in
theorem drawEff (g : Nat) (A : Option Addr) (n cap : Nat) (bs : List Int) (w : World) (h : Src w g A n cap bs) :
    Calls Try.prog 49 #[.pointer (some ⟨g, 0, none⟩)] w (DrawnL w g A n cap bs 1 4) := by
  have HN := Go.Lib.hid (fun (m : Int) (w0 : World) (s : Src w0 g A n cap bs) => next g A n cap bs m w0 s)
  have HG := Go.Lib.hid h.lt
  have S0 := Go.Lib.hid h
  clear h
  go_enter Try.func49, Try.ntmps49
  go_wp2_with fail
  refine (HN.out _ _ S0.out).mono ?_
  rintro _ w1 ⟨r1, rfl, ha0, ha1, s1, k1⟩
  have hr1 : r1 ≤ 4 := by omega
  have S1 := Go.Lib.hid s1
  have K1 := Go.Lib.hid k1
  clear s1 k1 ha1 S0
  go_wp2_with fail
  refine (HN.out _ _ S1.out).mono ?_
  rintro _ w2 ⟨r2, rfl, hb0, hb1, s2, k2⟩
  have hr2 : r2 ≤ 3 := by omega
  have S2 := Go.Lib.hid s2
  have K2 := Go.Lib.hid (K1.out.trans k2)
  clear s2 k2 hb1 S1 K1
  go_wp2_with fail
  refine (HN.out _ _ S2.out).mono ?_
  rintro _ w3 ⟨r3, rfl, hc0, hc1, s3, k3⟩
  have hr3 : r3 ≤ 1 := by omega
  have ST := Go.Lib.hid (StL.lit s3 (K2.out.trans k3) [3 + r1, r2, r3] 3 rfl (by omega) rfl)
  clear s3 k3 hc1 S2 K2
  go_wp2_with fail
  refine (HN.out _ _ ST.out.src).mono ?_
  rintro _ w4 ⟨r4, rfl, hd0, hd1, s4, k4⟩
  have ST4 := Go.Lib.hid (ST.out.next HG.out s4 k4)
  have hd3 : r4 = 0 ∨ r4 = 1 ∨ r4 = 2 := by omega
  clear s4 k4 hd1 hd0 ST
  generalize w3.heap.size = gd at *
  rcases hd3 with rfl | rfl | rfl
  · have ST5' := Go.Lib.hid (ST4.out.take (k := 1) (by simp))
    have hml : ([3 + r1, r2, r3].take 1).length = 1 := rfl
    have HM := Go.Lib.hid hml
    clear hml
    generalize [3 + r1, r2, r3].take 1 = ys at *
    go_wp2_with fail
    refine (HN.out _ _ ST4.out.src).mono ?_
    rintro _ w5 ⟨v, rfl, hv0, -, s5, k5⟩
    have st5 := ST5'.out.next HG.out s5 k5
    have ST5 := Go.Lib.hid st5
    have HGD := Go.Lib.hid (show w.heap.size ≤ gd by obtain ⟨g', e, p, -, -⟩ := st5.ow.form (by rw [HM.out]; omega); cases e; exact p)
    clear s5 k5 ST5' ST4
    by_cases h0 : v = 0
    case pos =>
      have HP := Go.Lib.hid (fun t cs (hc : cs = (ints [0, 20, 21]).toArray) => pickNew g A n cap bs w5 st5.src [0, 20, 21] 3 rfl (by omega) (by omega) (fun x => True) (fun _ _ => trivial) (t := t) hc)
      subst h0
      clear st5
      go_wp2_with fail
      refine (HP.out _ _ rfl).mono ?_
      rintro _ w6 ⟨x, rfl, -, s6, k6⟩
      have st6 := ST5.out.next HG.out s6 k6
      have hc0 : w6.cell? ⟨gd, 0, none⟩ = some (.int .i64 (ys.getD 0 0)) := (st6.ow.cell (by rw [HM.out]; omega)).trans (ints_at ys 0 (by rw [HM.out]; omega))
      have f0 := st6.ow.free 0
      have HE := Go.Lib.hid (st6.set (z := x) HG.out HGD.out 0)
      clear s6 k6 st6
      generalize ys.getD 0 0 = y0 at *
      go_wp2_with fail
      go_ret
      exact ⟨_, _, 3, by rw [List.length_set, HM.out]; rfl, by rw [List.length_set, HM.out]; omega, HE.out.r⟩
    case neg =>
    have hb0 : (v == 0) = false := by simpa using h0
    by_cases h1 : v = 1
    case pos =>
      have HE := Go.Lib.hid (StL.lit st5.src st5.kp [5, 2, 1, 0] 4 rfl (by omega) rfl)
      subst h1
      clear st5 h0
      go_wp2_with fail
      go_ret
      exact ⟨[5, 2, 1, 0], _, 4, rfl, by simp, HE.out.r⟩
    case neg =>
      have hb1 : (v == 1) = false := by simpa using h1
      clear st5 h0 h1
      go_wp2_with fail
      go_ret
      exact ⟨ys, _, 3, by rw [HM.out]; rfl, by rw [HM.out]; omega, ST5.out.r⟩
  · have ST5' := Go.Lib.hid (ST4.out.take (k := 2) (by simp))
    have hml : ([3 + r1, r2, r3].take 2).length = 2 := rfl
    have HM := Go.Lib.hid hml
    clear hml
    generalize [3 + r1, r2, r3].take 2 = ys at *
    go_wp2_with fail
    refine (HN.out _ _ ST4.out.src).mono ?_
    rintro _ w5 ⟨v, rfl, hv0, -, s5, k5⟩
    have st5 := ST5'.out.next HG.out s5 k5
    have ST5 := Go.Lib.hid st5
    have HGD := Go.Lib.hid (show w.heap.size ≤ gd by obtain ⟨g', e, p, -, -⟩ := st5.ow.form (by rw [HM.out]; omega); cases e; exact p)
    clear s5 k5 ST5' ST4
    by_cases h0 : v = 0
    case pos =>
      have HP := Go.Lib.hid (fun t cs (hc : cs = (ints [0, 20, 21]).toArray) => pickNew g A n cap bs w5 st5.src [0, 20, 21] 3 rfl (by omega) (by omega) (fun x => True) (fun _ _ => trivial) (t := t) hc)
      subst h0
      clear st5
      go_wp2_with fail
      refine (HP.out _ _ rfl).mono ?_
      rintro _ w6 ⟨x, rfl, -, s6, k6⟩
      have st6 := ST5.out.next HG.out s6 k6
      have hc0 : w6.cell? ⟨gd, 0, none⟩ = some (.int .i64 (ys.getD 0 0)) := (st6.ow.cell (by rw [HM.out]; omega)).trans (ints_at ys 0 (by rw [HM.out]; omega))
      have f0 := st6.ow.free 0
      have HE := Go.Lib.hid (st6.set (z := x) HG.out HGD.out 0)
      clear s6 k6 st6
      generalize ys.getD 0 0 = y0 at *
      go_wp2_with fail
      go_ret
      exact ⟨_, _, 3, by rw [List.length_set, HM.out]; rfl, by rw [List.length_set, HM.out]; omega, HE.out.r⟩
    case neg =>
    have hb0 : (v == 0) = false := by simpa using h0
    by_cases h1 : v = 1
    case pos =>
      have HE := Go.Lib.hid (StL.lit st5.src st5.kp [5, 2, 1, 0] 4 rfl (by omega) rfl)
      subst h1
      clear st5 h0
      go_wp2_with fail
      go_ret
      exact ⟨[5, 2, 1, 0], _, 4, rfl, by simp, HE.out.r⟩
    case neg =>
      have hb1 : (v == 1) = false := by simpa using h1
      clear st5 h0 h1
      go_wp2_with fail
      go_ret
      exact ⟨ys, _, 3, by rw [HM.out]; rfl, by rw [HM.out]; omega, ST5.out.r⟩
  · have ST5' := Go.Lib.hid (ST4.out.take (k := 3) (by simp))
    have hml : ([3 + r1, r2, r3].take 3).length = 3 := rfl
    have HM := Go.Lib.hid hml
    clear hml
    generalize [3 + r1, r2, r3].take 3 = ys at *
    go_wp2_with fail
    refine (HN.out _ _ ST4.out.src).mono ?_
    rintro _ w5 ⟨v, rfl, hv0, -, s5, k5⟩
    have st5 := ST5'.out.next HG.out s5 k5
    have ST5 := Go.Lib.hid st5
    have HGD := Go.Lib.hid (show w.heap.size ≤ gd by obtain ⟨g', e, p, -, -⟩ := st5.ow.form (by rw [HM.out]; omega); cases e; exact p)
    clear s5 k5 ST5' ST4
    by_cases h0 : v = 0
    case pos =>
      have HP := Go.Lib.hid (fun t cs (hc : cs = (ints [0, 20, 21]).toArray) => pickNew g A n cap bs w5 st5.src [0, 20, 21] 3 rfl (by omega) (by omega) (fun x => True) (fun _ _ => trivial) (t := t) hc)
      subst h0
      clear st5
      go_wp2_with fail
      refine (HP.out _ _ rfl).mono ?_
      rintro _ w6 ⟨x, rfl, -, s6, k6⟩
      have st6 := ST5.out.next HG.out s6 k6
      have hc0 : w6.cell? ⟨gd, 0, none⟩ = some (.int .i64 (ys.getD 0 0)) := (st6.ow.cell (by rw [HM.out]; omega)).trans (ints_at ys 0 (by rw [HM.out]; omega))
      have f0 := st6.ow.free 0
      have HE := Go.Lib.hid (st6.set (z := x) HG.out HGD.out 0)
      clear s6 k6 st6
      generalize ys.getD 0 0 = y0 at *
      go_wp2_with fail
      go_ret
      exact ⟨_, _, 3, by rw [List.length_set, HM.out]; rfl, by rw [List.length_set, HM.out]; omega, HE.out.r⟩
    case neg =>
    have hb0 : (v == 0) = false := by simpa using h0
    by_cases h1 : v = 1
    case pos =>
      have HE := Go.Lib.hid (StL.lit st5.src st5.kp [5, 2, 1, 0] 4 rfl (by omega) rfl)
      subst h1
      clear st5 h0
      go_wp2_with fail
      go_ret
      exact ⟨[5, 2, 1, 0], _, 4, rfl, by simp, HE.out.r⟩
    case neg =>
      have hb1 : (v == 1) = false := by simpa using h1
      clear st5 h0 h1
      go_wp2_with fail
      go_ret
      exact ⟨ys, _, 3, by rw [HM.out]; rfl, by rw [HM.out]; omega, ST5.out.r⟩
end Go.Proofs.Ytpcaakmcjdginaa
