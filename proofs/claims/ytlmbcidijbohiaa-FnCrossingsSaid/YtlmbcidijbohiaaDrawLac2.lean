/- Draws for chapter 6's laws. -/
import Derived.Test.YtlmbcidijbohiaaDrawLac
namespace Go.Proofs.Ytlmbcidijbohiaa
open Go.RowKit
set_option linter.unusedSimpArgs false
set_option linter.unusedVariables false

theorem usualR_few2 (n k : Int) : (usualR n k).1.length ≤ 100 := by
  unfold usualR
  split
  · rename_i hh
    have := (holes6_bd hh).2.1
    split
    · show (usualI n k).length ≤ _; rw [usualI_len]; omega
    · exact Nat.zero_le _
  · exact Nat.zero_le _
theorem results_four {fn : Func} {t u v x : Tmp} (h : fn.results = #[.tmp t, .tmp u, .tmp v, .tmp x]) (tmps : Array Value) (P : Program) (w : World) :
    (results fn tmps).run P w = .ok (.tuple #[tmps.getD t undef, tmps.getD u undef, tmps.getD v undef, tmps.getD x undef]) w := by
  simp [results, h]
/-- A list that has been drawn. -/
structure Lst (lo : Nat) (zs : List Int) (B : Option Addr) (c : Nat) (W : World) : Prop where
  rd : Rd W lo W.heap.size B zs.length (ints zs)
  le : zs.length ≤ c
  few : zs.length ≤ 100
theorem Lst.below {lo : Nat} {zs : List Int} {B : Option Addr} {c : Nat} {W W1 : World} (h : Lst lo zs B c W) (b : Below W.heap.size W W1) : Lst lo zs B c W1 := ⟨(h.rd.below b (Nat.le_refl _)).mono (Nat.le_refl _) b.size, h.le, h.few⟩
theorem Lst.keep {lo g : Nat} {zs : List Int} {B : Option Addr} {c : Nat} {W W1 : World} (h : Lst lo zs B c W) (k : Keep g (g + 1) W W1) (hg : g < lo) : Lst lo zs B c W1 := ⟨(h.rd.keep k (Nat.le_refl _) (.inr hg)).mono (Nat.le_refl _) k.size, h.le, h.few⟩
theorem Lst.lower {lo lo' : Nat} {zs : List Int} {B : Option Addr} {c : Nat} {W : World} (h : Lst lo zs B c W) (k : lo' ≤ lo) : Lst lo' zs B c W := ⟨h.rd.mono k (Nat.le_refl _), h.le, h.few⟩
theorem StL.lst {w W : World} {g : Nat} {A : Option Addr} {n cap : Nat} {bs : List Int} {zs : List Int} {B : Option Addr} {c : Nat} (h : StL w g A n cap bs zs B c W) (hf : zs.length ≤ 100) : Lst w.heap.size zs B c W := ⟨h.ow.rd, h.ow.le, hf⟩

section
variable (A : Option Addr) (n cap : Nat) (bs : List Int) (w : World) (h : Rd w 0 w.heap.size A n (byts bs)) (hs : ∀ z ∈ bs, 0 ≤ z ∧ z ≤ 255) (hn : n ≤ 140737488355328)
include h hs hn

def Drawn1 (w : World) (e : Ending) (w' : World) : Prop := ∃ (m : Int) (zs : List Int) (B : Option Addr) (c : Nat), e = .returned (.tuple #[.int .i64 m, .slice B zs.length c]) ∧ (0 ≤ m ∧ m ≤ 24) ∧ Lst w.heap.size zs B c w' ∧ Below w.heap.size w w'
def Drawn2 (w : World) (e : Ending) (w' : World) : Prop := ∃ (m : Int) (zs : List Int) (B : Option Addr) (c : Nat) (p : Int), e = .returned (.tuple #[.int .i64 m, .slice B zs.length c, .int .i64 p]) ∧ (0 ≤ m ∧ m ≤ 24) ∧ Lst w.heap.size zs B c w' ∧ Below w.heap.size w w'
def Drawn3 (w : World) (e : Ending) (w' : World) : Prop := ∃ (m : Int) (zs : List Int) (B : Option Addr) (c : Nat) (p q : Int), e = .returned (.tuple #[.int .i64 m, .slice B zs.length c, .int .i64 p, .int .i64 q]) ∧ (0 ≤ m ∧ m ≤ 24) ∧ Lst w.heap.size zs B c w' ∧ Below w.heap.size w w'
def Drawn4 (w : World) (e : Ending) (w' : World) : Prop := ∃ (m : Int) (xs : List Int) (B : Option Addr) (c : Nat) (ys : List Int) (D : Option Addr) (d : Nat), e = .returned (.tuple #[.int .i64 m, .slice B xs.length c, .slice D ys.length d]) ∧ (0 ≤ m ∧ m ≤ 24) ∧ Lst w.heap.size xs B c w' ∧ Lst w.heap.size ys D d w' ∧ Below w.heap.size w w'
def Drawn0 (w : World) (e : Ending) (w' : World) : Prop := ∃ (m p : Int), e = .returned (.tuple #[.int .i64 m, .int .i64 p]) ∧ (0 ≤ m ∧ m ≤ 24) ∧ Below w.heap.size w w'

theorem drawShifts : Calls Try.prog 16 #[.slice A n cap] w (Drawn1 w) := by
  go_enter Try.func16, Try.ntmps16
  go_wp2_with fail
  refine (from_ A n cap bs w h hs hn).mono ?_
  rintro _ w1 ⟨g, rfl, hg, S1, b1⟩
  have HB := Go.Lib.hid b1
  have HD := Go.Lib.hid (drawL g A n cap bs w1 S1)
  clear b1
  go_wp2_with fail
  refine HD.out.mono ?_
  rintro _ w2 ⟨m, zs, B, c, rfl, ⟨m0, m1, hf⟩, st⟩
  have ST := Go.Lib.hid st
  clear st
  go_wp2_with fail
  go_ret2
  exact ⟨m, zs, B, c, rfl, ⟨m0, m1⟩, (ST.out.lst hf).lower HB.out.size, HB.out.trans (ST.out.kp.below hg HB.out.size)⟩

theorem drawEven : Calls Try.prog 29 #[.slice A n cap] w (Drawn1 w) := by
  go_enter Try.func29, Try.ntmps29
  go_wp2_with fail
  refine (from_ A n cap bs w h hs hn).mono ?_
  rintro _ w1 ⟨g, rfl, hg, S1, b1⟩
  have HB := Go.Lib.hid b1
  have HD := Go.Lib.hid (drawL g A n cap bs w1 S1)
  clear b1
  go_wp2_with fail
  refine HD.out.mono ?_
  rintro _ w2 ⟨m, zs, B, c, rfl, ⟨m0, m1, hf⟩, st⟩
  have ST := Go.Lib.hid st
  clear st
  go_wp2_with fail
  go_ret2
  exact ⟨m, zs, B, c, rfl, ⟨m0, m1⟩, (ST.out.lst hf).lower HB.out.size, HB.out.trans (ST.out.kp.below hg HB.out.size)⟩

theorem drawUsual : Calls Try.prog 21 #[.slice A n cap] w (Drawn0 w) := by
  go_enter Try.func21, Try.ntmps21
  go_wp2_with fail
  refine (from_ A n cap bs w h hs hn).mono ?_
  rintro _ w1 ⟨g, rfl, hg, S1, b1⟩
  have HB := Go.Lib.hid b1
  have HP := Go.Lib.hid (fun t cs (hc : cs = (ints [6, 8, 10, 12, 16, 18, 20, 24, 9, 14]).toArray) => pickNew g A n cap bs w1 S1 [6, 8, 10, 12, 16, 18, 20, 24, 9, 14] 10 rfl (by omega) (by omega) (fun x => 6 ≤ x ∧ x ≤ 24) (by intro x hx; simp at hx; omega) (t := t) hc)
  clear b1
  go_wp2_with fail
  refine (HP.out _ _ rfl).mono ?_
  rintro _ w2 ⟨m, rfl, ⟨m0, m1⟩, S2, K2⟩
  have q1 : m.tdiv 2 = m / 2 := Int.tdiv_eq_ediv_of_nonneg (by omega)
  have HN := Go.Lib.hid (next g A n cap bs (m / 2 + 1) w2 S2)
  have HK2 := Go.Lib.hid K2
  clear K2 S2
  go_wp2_with fail
  refine HN.out.mono ?_
  rintro _ w3 ⟨r, rfl, hr0, hr1, S3, K3⟩
  have HN3 := Go.Lib.hid (next g A n cap bs 24 w3 S3)
  have HK3 := Go.Lib.hid (HK2.out.trans K3)
  clear K3 S3
  go_wp2_with fail
  refine HN3.out.mono ?_
  rintro _ w4 ⟨u, rfl, hu0, hu1, S4, K4⟩
  have HK4 := Go.Lib.hid (HK3.out.trans K4)
  have q2 : u.tdiv 23 = u / 23 := Int.tdiv_eq_ediv_of_nonneg (by omega)
  clear K4 S4
  go_wp2_with fail
  go_ret2
  exact ⟨m, _, rfl, ⟨by omega, m1⟩, HB.out.trans (HK4.out.below hg HB.out.size)⟩

theorem drawCrossings : Calls Try.prog 26 #[.slice A n cap] w (Drawn2 w) := by
  go_enter Try.func26, Try.ntmps26
  go_wp2_with fail
  refine (from_ A n cap bs w h hs hn).mono ?_
  rintro _ w1 ⟨g, rfl, hg, S1, b1⟩
  have HB := Go.Lib.hid b1
  have HG := Go.Lib.hid S1.lt
  have HD := Go.Lib.hid (drawL g A n cap bs w1 S1)
  clear b1
  go_wp2_with fail
  refine HD.out.mono ?_
  rintro _ w2 ⟨m, zs, B, c, rfl, ⟨m0, m1, hf⟩, st⟩
  have ST := Go.Lib.hid st
  have HN := Go.Lib.hid (next g A n cap bs 12 w2 st.src)
  clear st S1
  go_wp2_with fail
  refine HN.out.mono ?_
  rintro _ w3 ⟨r, rfl, hr0, hr1, S3, K3⟩
  have ST3 := Go.Lib.hid (ST.out.next HG.out S3 K3)
  have q1 : r.tdiv 11 = r / 11 := Int.tdiv_eq_ediv_of_nonneg (by omega)
  have HN3 := Go.Lib.hid (next g A n cap bs (m + r / 11) w3 S3)
  clear K3 S3 ST
  go_wp2_with fail
  refine HN3.out.mono ?_
  rintro _ w4 ⟨p, rfl, hp0, hp1, S4, K4⟩
  have ST4 := Go.Lib.hid (ST3.out.next HG.out S4 K4)
  clear K4 S4 ST3
  go_wp2_with fail
  refine bodyPost_ret (results_tmp3 rfl _ _ _) rfl ?_
  exact ⟨m, zs, B, c, p, rfl, ⟨m0, m1⟩, (ST4.out.lst hf).lower HB.out.size, HB.out.trans (ST4.out.kp.below hg HB.out.size)⟩

theorem drawRotate : Calls Try.prog 40 #[.slice A n cap] w (Drawn2 w) := by
  have HD := Go.Lib.hid (drawCrossings A n cap bs w h hs hn)
  go_enter Try.func40, Try.ntmps40
  go_wp2_with fail
  refine HD.out.mono ?_
  rintro _ w2 ⟨m, zs, B, c, p, rfl, hm, hl, hb⟩
  have HL := Go.Lib.hid (And.intro hl hb)
  clear hl hb
  go_wp2_with fail
  refine bodyPost_ret (results_tmp3 rfl _ _ _) rfl ?_
  exact ⟨m, zs, B, c, p, rfl, hm, HL.out.1, HL.out.2⟩

theorem drawSwap : Calls Try.prog 35 #[.slice A n cap] w (Drawn3 w) := by
  have HC := Go.Lib.hid (fun w0 h0 => drawCrossings A n cap bs w0 h0 hs hn)
  go_enter Try.func35, Try.ntmps35
  go_wp2_with fail
  refine (from_ A n cap bs w h hs hn).mono ?_
  rintro _ w1 ⟨g, rfl, hg, S1, b1⟩
  have HB := Go.Lib.hid b1
  have HG := Go.Lib.hid S1.lt
  have HS1 := Go.Lib.hid S1
  have HD := Go.Lib.hid (HC.out w1 ((h.below b1 (Nat.le_refl _)).mono (Nat.le_refl _) b1.size))
  clear b1 S1
  go_wp2_with fail
  refine HD.out.mono ?_
  rintro _ w2 ⟨m, zs, B, c, p, rfl, ⟨m0, m1⟩, hl, hb⟩
  have S2 := HS1.out.below hb
  have HL := Go.Lib.hid hl
  have HB2 := Go.Lib.hid (HB.out.trans (hb.mono HB.out.size))
  have HN := Go.Lib.hid (next g A n cap bs 12 w2 S2)
  clear hl hb S2
  go_wp2_with fail
  refine HN.out.mono ?_
  rintro _ w3 ⟨r, rfl, hr0, hr1, S3, K3⟩
  have HL3 := Go.Lib.hid (HL.out.keep K3 HG.out)
  have HB3 := Go.Lib.hid (HB2.out.trans (K3.below hg HB2.out.size))
  have q1 : r.tdiv 11 = r / 11 := Int.tdiv_eq_ediv_of_nonneg (by omega)
  have HN3 := Go.Lib.hid (next g A n cap bs (m + r / 11) w3 S3)
  clear K3 S3
  go_wp2_with fail
  refine HN3.out.mono ?_
  rintro _ w4 ⟨q, rfl, hq0, hq1, S4, K4⟩
  have HL4 := Go.Lib.hid (HL3.out.keep K4 HG.out)
  have HB4 := Go.Lib.hid (HB3.out.trans (K4.below hg HB3.out.size))
  clear K4 S4
  go_wp2_with fail
  refine bodyPost_ret (results_four rfl _ _ _) rfl ?_
  exact ⟨m, zs, B, c, p, q, rfl, ⟨m0, m1⟩, HL4.out.lower HB.out.size, HB4.out⟩

theorem drawMoves : Calls Try.prog 32 #[.slice A n cap] w (Drawn4 w) := by
  have hmx : ∀ a b : Int, (if a < b then b else a) = max a b := fun a b => by omega
  go_enter Try.func32, Try.ntmps32
  go_wp2_with fail
  refine (from_ A n cap bs w h hs hn).mono ?_
  rintro _ w1 ⟨g, rfl, hg, S1, b1⟩
  have HB := Go.Lib.hid b1
  have HG := Go.Lib.hid S1.lt
  have HD := Go.Lib.hid (drawL g A n cap bs w1 S1)
  clear b1
  go_wp2_with fail
  refine HD.out.mono ?_
  rintro _ w2 ⟨m, xs, B, c, rfl, ⟨m0, m1, hf⟩, st⟩
  have ST := Go.Lib.hid st
  have HL := Go.Lib.hid (st.lst hf)
  have HB2 := Go.Lib.hid (HB.out.trans (st.kp.below hg HB.out.size))
  have q1 : m.tdiv 2 = m / 2 := Int.tdiv_eq_ediv_of_nonneg (by omega)
  have HN := Go.Lib.hid (next g A n cap bs (max 1 (m / 2)) w2 st.src)
  clear st S1
  go_wp2_with fail
  refine HN.out.mono ?_
  rintro _ w3 ⟨r, rfl, hr0, hr1, S3, K3⟩
  have HL3 := Go.Lib.hid (HL.out.keep K3 HG.out)
  have HB3 := Go.Lib.hid (HB2.out.trans (K3.below hg HB2.out.size))
  have HS3 := Go.Lib.hid S3
  have HU := Go.Lib.hid (specUsual m r w3)
  have hfew := usualR_few2 m r
  clear K3 S3 hr0 hr1 HL HB2 HN ST HD
  generalize usualR m r = P at *
  obtain ⟨us, z⟩ := P
  dsimp only at hfew
  go_wp2_with fail
  refine HU.out.mono ?_
  rintro _ w4 ⟨D, d, rfl, ho, hb⟩
  dsimp only at ho
  have HL4 := Go.Lib.hid (HL3.out.below hb)
  have HB4 := Go.Lib.hid (HB3.out.trans (hb.mono HB3.out.size))
  have HS4 := Go.Lib.hid (HS3.out.below hb)
  have HU4 := Go.Lib.hid (show Lst w.heap.size us D d w4 from ⟨(ho.lower HB3.out.size).rd, ho.le, hfew⟩)
  have HW3' := Go.Lib.hid HB3.out.size
  have HGW := Go.Lib.hid (show g < w3.heap.size from HS3.out.lt)
  have HU5 := Go.Lib.hid (show Lst w3.heap.size us D d w4 from ⟨ho.rd, ho.le, hfew⟩)
  clear ho hb HL3 HB3 HS3 HU hfew
  have HN4 := Go.Lib.hid (next g A n cap bs 3 w4 HS4.out)
  have HD4 := Go.Lib.hid (fun w0 s0 => drawL g A n cap bs w0 s0)
  by_cases hz : z = 0
  case neg =>
    have hzb : (z != 0) = true := by simpa using hz
    have HD5 := Go.Lib.hid (HD4.out w4 HS4.out)
    have HG4 := Go.Lib.hid HS4.out.lt
    clear hz
    go_wp2_with fail
    refine HD5.out.mono ?_
    rintro _ w5 ⟨m', ys, F, f, rfl, ⟨-, -, hf5⟩, st⟩
    have ST := Go.Lib.hid st
    clear st
    go_wp2_with fail
    refine bodyPost_ret (results_tmp3 rfl _ _ _) rfl ?_
    exact ⟨m, xs, B, c, ys, F, f, rfl, ⟨m0, m1⟩, ((HL4.out).keep ST.out.kp HG.out).lower HB.out.size, (ST.out.lst hf5).lower HB4.out.size, HB4.out.trans (ST.out.kp.below hg HB4.out.size)⟩
  case pos =>
    have hzb : (z != 0) = false := by simpa using hz
    clear hz
    go_wp2_with fail
    refine HN4.out.mono ?_
    rintro _ w5 ⟨v, rfl, hv0, hv1, S5, K5⟩
    have HL5 := Go.Lib.hid (HL4.out.keep K5 HG.out)
    have HU6 := Go.Lib.hid (HU5.out.keep K5 HGW.out)
    have HB5 := Go.Lib.hid (HB4.out.trans (K5.below hg HB4.out.size))
    have HD5 := Go.Lib.hid (HD4.out w5 S5)
    have HW3 := Go.Lib.hid (show w.heap.size ≤ w3.heap.size from HW3'.out)
    clear K5 S5
    by_cases hv : v = 0
    case pos =>
      subst hv
      go_wp2_with fail
      refine HD5.out.mono ?_
      rintro _ w6 ⟨m', ys, F, f, rfl, ⟨-, -, hf5⟩, st⟩
      have ST := Go.Lib.hid st
      clear st
      go_wp2_with fail
      refine bodyPost_ret (results_tmp3 rfl _ _ _) rfl ?_
      exact ⟨m, xs, B, c, ys, F, f, rfl, ⟨m0, m1⟩, ((HL5.out).keep ST.out.kp HG.out).lower HB.out.size, (ST.out.lst hf5).lower HB5.out.size, HB5.out.trans (ST.out.kp.below hg HB5.out.size)⟩
    case neg =>
      have hvb : (v == 0) = false := by simpa using hv
      clear hv
      go_wp2_with fail
      refine bodyPost_ret (results_tmp3 rfl _ _ _) rfl ?_
      exact ⟨m, xs, B, c, us, D, d, rfl, ⟨m0, m1⟩, HL5.out.lower HB.out.size, HU6.out.lower HW3.out, HB5.out⟩
end
end Go.Proofs.Ytlmbcidijbohiaa
