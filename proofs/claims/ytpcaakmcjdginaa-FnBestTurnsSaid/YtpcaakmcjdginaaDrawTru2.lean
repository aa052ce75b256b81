/- Draws for chapter 8's laws. -/
import Derived.Test.YtpcaakmcjdginaaDrawDev
namespace Go.Proofs.Ytpcaakmcjdginaa
open Go.RowKit
set_option linter.unusedSimpArgs false
set_option linter.unusedVariables false

section
variable (A : Option Addr) (n cap : Nat) (bs : List Int) (w : World) (h : Rd w 0 w.heap.size A n (byts bs)) (hs : ∀ z ∈ bs, 0 ≤ z ∧ z ≤ 255) (hn : n ≤ 140737488355328)
include h hs hn
def Dv2 (w : World) (e : Ending) (w' : World) : Prop := ∃ (zs : List Int) (B : Option Addr) (c : Nat) (s : List Int) (D : Option Addr) (d : Nat), e = .returned (.tuple #[.slice B zs.length c, .slice D s.length d]) ∧ (3 ≤ zs.length ∧ zs.length ≤ 13) ∧ (1 ≤ s.length ∧ s.length ≤ 4) ∧ Ls zs B c w' ∧ Ls s D d w' ∧ Below w.heap.size w w'
def Dv3 (w : World) (e : Ending) (w' : World) : Prop := ∃ (zs : List Int) (B : Option Addr) (c : Nat) (s : List Int) (D : Option Addr) (d : Nat) (p : Int), e = .returned (.tuple #[.slice B zs.length c, .slice D s.length d, .int .i64 p]) ∧ (3 ≤ zs.length ∧ zs.length ≤ 13) ∧ (1 ≤ s.length ∧ s.length ≤ 4) ∧ Ls zs B c w' ∧ Ls s D d w' ∧ Below w.heap.size w w'
set_option maxRecDepth 100000 in
set_option maxHeartbeats 8000000 in
theorem drawBestTurn : Calls Try.prog 29 #[.slice A n cap] w (Dv2 w) := by
  go_enter Try.func29, Try.ntmps29
  go_wp2_with fail
  refine (from_ A n cap bs w h hs hn).mono ?_
  rintro _ w1 ⟨g, rfl, hg, S1, b1⟩
  have HB := Go.Lib.hid b1
  have HG := Go.Lib.hid S1.lt
  have HD := Go.Lib.hid (drawEff g A n cap bs w1 S1)
  clear b1 S1
  go_wp2_with fail
  refine HD.out.mono ?_
  rintro _ w2 ⟨s, D, d, rfl, ⟨l0, l1⟩, st⟩
  have HG1 := Go.Lib.hid (show g < w1.heap.size from HG.out)
  have HD2 := Go.Lib.hid (drawDev g A n cap bs w2 st.src D d s w1.heap.size w2.heap.size st.rd HG1.out (Nat.le_refl _) st.le (by omega))
  have HL := Go.Lib.hid (And.intro l0 l1)
  have ST := Go.Lib.hid st
  clear st l0 l1 HD
  go_wp2_with fail
  refine HD2.out.mono ?_
  rintro _ w3 ⟨zs, B, c, rfl, hl, st⟩
  have SE := Go.Lib.hid (ST.out.next HG1.out st.src st.kp)
  have SZ := Go.Lib.hid st
  have HG2 := Go.Lib.hid (show g < w2.heap.size from Nat.lt_of_lt_of_le HG1.out ST.out.kp.size)
  have HZ := Go.Lib.hid hl
  clear st hl HD2
  go_wp2_with fail
  go_ret2
  have hl := HL.out
  have hz := HZ.out
  exact ⟨zs, B, c, s, D, d, rfl, hz, hl, SZ.out.ls (lo := 0) (by omega), SE.out.ls (lo := 0) (by omega), HB.out.trans ((SE.out.kp).below hg HB.out.size)⟩
set_option maxRecDepth 100000 in
set_option maxHeartbeats 8000000 in
theorem drawLeastPlan : Calls Try.prog 16 #[.slice A n cap] w (Dv3 w) := by
  go_enter Try.func16, Try.ntmps16
  go_wp2_with fail
  refine (from_ A n cap bs w h hs hn).mono ?_
  rintro _ w1 ⟨g, rfl, hg, S1, b1⟩
  have HB := Go.Lib.hid b1
  have HG := Go.Lib.hid S1.lt
  have HD := Go.Lib.hid (drawEff g A n cap bs w1 S1)
  clear b1 S1
  go_wp2_with fail
  refine HD.out.mono ?_
  rintro _ w2 ⟨s, D, d, rfl, ⟨l0, l1⟩, st⟩
  have HG1 := Go.Lib.hid (show g < w1.heap.size from HG.out)
  have HD2 := Go.Lib.hid (drawDev g A n cap bs w2 st.src D d s w1.heap.size w2.heap.size st.rd HG1.out (Nat.le_refl _) st.le (by omega))
  have HL := Go.Lib.hid (And.intro l0 l1)
  have ST := Go.Lib.hid st
  clear st l0 l1 HD
  go_wp2_with fail
  refine HD2.out.mono ?_
  rintro _ w3 ⟨zs, B, c, rfl, hl, st⟩
  have SE := Go.Lib.hid (ST.out.next HG1.out st.src st.kp)
  have SZ := Go.Lib.hid st
  have HG2 := Go.Lib.hid (show g < w2.heap.size from Nat.lt_of_lt_of_le HG1.out ST.out.kp.size)
  have HZ := Go.Lib.hid hl
  clear st hl HD2
  obtain ⟨m, hm⟩ : ∃ m, zs.length = m := ⟨_, rfl⟩
  by_cases h8 : 8 < m
  case pos =>
    have h8i : (8 : Int) < (m : Int) := by omega
    rw [hm]
    have HM := Go.Lib.hid hm
    clear hm
    go_wp2_with fail
    go_ret3
    have hm := HM.out
    subst hm
    have hl := HL.out
    have hz := HZ.out
    exact ⟨zs, B, c, s, D, d, 501, rfl, hz, hl, SZ.out.ls (lo := 0) (by omega), SE.out.ls (lo := 0) (by omega), HB.out.trans ((SE.out.kp).below hg HB.out.size)⟩
  case neg =>
    rw [hm]
    have HM := Go.Lib.hid hm
    clear hm
    have HP := Go.Lib.hid (fun t cs (hc : cs = (ints [2, 3, 1, 4, 0, 500, 501]).toArray) => pickNew g A n cap bs w3 SZ.out.src [2, 3, 1, 4, 0, 500, 501] 7 rfl (by omega) (by omega) (fun x => True) (fun _ _ => trivial) (t := t) hc)
    go_wp2_with fail
    refine (HP.out _ _ rfl).mono ?_
    rintro _ w5 ⟨x, rfl, -, S5, K5⟩
    have SE2 := Go.Lib.hid (SE.out.next HG1.out S5 K5)
    have SZ2 := Go.Lib.hid (SZ.out.next HG2.out S5 K5)
    clear S5 K5 SE SZ HP
    have SE := SE2
    have SZ := SZ2
    clear SE2 SZ2
    go_wp2_with fail
    go_ret3
    have hm := HM.out
    subst hm
    have hl := HL.out
    have hz := HZ.out
    exact ⟨zs, B, c, s, D, d, x, rfl, hz, hl, SZ.out.ls (lo := 0) (by omega), SE.out.ls (lo := 0) (by omega), HB.out.trans ((SE.out.kp).below hg HB.out.size)⟩
set_option maxRecDepth 100000 in
set_option maxHeartbeats 8000000 in
theorem drawTrueByTurns : Calls Try.prog 32 #[.slice A n cap] w (Dv3 w) := by
  go_enter Try.func32, Try.ntmps32
  go_wp2_with fail
  refine (from_ A n cap bs w h hs hn).mono ?_
  rintro _ w1 ⟨g, rfl, hg, S1, b1⟩
  have HB := Go.Lib.hid b1
  have HG := Go.Lib.hid S1.lt
  have HN := Go.Lib.hid (fun (m : Int) (w0 : World) (s : Src w0 g A n cap bs) => next g A n cap bs m w0 s)
  have HS1 := Go.Lib.hid S1
  clear S1 b1
  go_wp2_with fail
  refine (HN.out _ _ HS1.out).mono ?_
  rintro _ w0 ⟨v, rfl, hv0, -, S0, K0⟩
  have HG0 := Go.Lib.hid (Nat.lt_of_lt_of_le HG.out K0.size)
  have HS0 := Go.Lib.hid S0
  have HK0 := Go.Lib.hid K0
  clear S0 K0 HS1
  by_cases hv : v = 0
  case pos =>
    subst hv
    go_wp2_with fail
    refine (HN.out _ _ HS0.out).mono ?_
    rintro _ w3 ⟨r, rfl, hr0, hr1, S3, K3⟩
    have hr2 : r ≤ 10 := by omega
    have L1 := StL.lit S3 (HK0.out.trans K3) [-500, -500, 490 + r, -500, -500] 5 rfl (by omega) rfl
    have L2 := StL.lit L1.src L1.kp [20, 20, 20] 3 rfl (by omega) rfl
    have L1 := L1.below ((Below.refl _ _).alloc (Nat.le_refl _) (.cells (ints [20, 20, 20]).toArray 2))
    have e : (w3.alloc (.cells (ints [-500, -500, 490 + r, -500, -500]).toArray 2)).heap.size = w3.heap.size + 1 := by simp
    rw [e] at L2
    have HL1 := Go.Lib.hid L1
    have HL2 := Go.Lib.hid L2
    clear L1 L2 e S3 K3 hr1
    go_wp2_with fail
    refine (HN.out _ _ HL1.out.src).mono ?_
    rintro _ w4 ⟨q, rfl, hq0, hq1, S4, K4⟩
    have hq2 : q ≤ 2 := by omega
    have M1 := Go.Lib.hid (HL1.out.next HG.out S4 K4)
    have M2 := Go.Lib.hid (HL2.out.next HG.out S4 K4)
    clear S4 K4 hq1 HL1 HL2
    go_wp2_with fail
    go_ret3
    exact ⟨[-500, -500, 490 + r, -500, -500], _, 5, [20, 20, 20], _, 3, 1 + q, rfl, by simp, by simp, M1.out.r.ls (lo := 0) (by simp), M2.out.r.ls (lo := 0) (by simp), HB.out.trans (M1.out.kp.below hg HB.out.size)⟩
  case neg =>
    have hvb : (v == 0) = false := by simpa using hv
    clear hv

    have HD := Go.Lib.hid (drawEff g A n cap bs w0 HS0.out)
    go_wp2_with fail
    refine HD.out.mono ?_
    rintro _ w2 ⟨s, D, d, rfl, ⟨l0, l1⟩, st⟩
    have HG1 := Go.Lib.hid (show g < w0.heap.size from HG0.out)
    have HD2 := Go.Lib.hid (drawDev g A n cap bs w2 st.src D d s w0.heap.size w2.heap.size st.rd HG1.out (Nat.le_refl _) st.le (by omega))
    have HL := Go.Lib.hid (And.intro l0 l1)
    have ST := Go.Lib.hid st
    clear st l0 l1 HD
    go_wp2_with fail
    refine HD2.out.mono ?_
    rintro _ w3 ⟨zs, B, c, rfl, hl, st⟩
    have SE := Go.Lib.hid (ST.out.next HG1.out st.src st.kp)
    have SZ := Go.Lib.hid st
    have HG2 := Go.Lib.hid (show g < w2.heap.size from Nat.lt_of_lt_of_le HG1.out ST.out.kp.size)
    have HZ := Go.Lib.hid hl
    clear st hl HD2
    go_wp2_with fail
    refine (HN.out _ _ SZ.out.src).mono ?_
    rintro _ w4 ⟨r, rfl, hr0, hr1, S4, K4⟩
    have hr2 : r ≤ 9 := by omega
    clear hr1
    have SE2 := Go.Lib.hid (SE.out.next HG1.out S4 K4)
    have SZ2 := Go.Lib.hid (SZ.out.next HG2.out S4 K4)
    clear S4 K4 SE SZ
    have SE := SE2
    have SZ := SZ2
    clear SE2 SZ2
    have HP := Go.Lib.hid (fun t cs (hc : cs = (ints [r, 0, 40, 41, -1]).toArray) => pickNew g A n cap bs w4 SZ.out.src [r, 0, 40, 41, -1] 5 rfl (by omega) (by omega) (fun x => True) (fun _ _ => trivial) (t := t) hc)
    go_wp2_with fail
    refine (HP.out _ _ rfl).mono ?_
    rintro _ w5 ⟨x, rfl, -, S5, K5⟩
    have SE2 := Go.Lib.hid (SE.out.next HG1.out S5 K5)
    have SZ2 := Go.Lib.hid (SZ.out.next HG2.out S5 K5)
    clear S5 K5 SE SZ HP
    have SE := SE2
    have SZ := SZ2
    clear SE2 SZ2
    go_wp2_with fail
    go_ret3
    have hl := HL.out
    have hz := HZ.out
    exact ⟨zs, B, c, s, D, d, x, rfl, hz, hl, SZ.out.ls (lo := 0) (by omega), SE.out.ls (lo := 0) (by omega), HB.out.trans ((HK0.out.trans (SE.out.kp)).below hg HB.out.size)⟩
end
end Go.Proofs.Ytpcaakmcjdginaa
