/- The loosest gear has the greatest slack, and two links more give 2000 more: with the program's own functions, at every code. -/
import Derived.Test.YtilepehlmjohbaaRows
import Derived.Test.YtilepehlmjohbaaChainImplS
import Derived.Test.YtilepehlmjohbaaPlainChainS
import Derived.Test.YtilepehlmjohbaaGearI7
import Derived.Test.YtilepehlmjohbaaGearS5
import Derived.Test.YtilepehlmjohbaaMgSlacks1
import Derived.Test.YtilepehlmjohbaaDrawCh2
import Derived.Test.YtilepehlmjohbaaMgSlacks5
import Derived.Test.YtilepehlmjohbaaLikesI
import Derived.Test.YtilepehlmjohbaaInts
import Derived.Test.YtilepehlmjohbaaEqZ
import Derived.Test.YtilepehlmjohbaaGrid2
import Derived.Test.YtilepehlmjohbaaGearL
import Derived.WalkKit
import Derived.ProofKit
import Derived.OpenShut
import Derived.ShutString
import Derived.SizedLaws
namespace Go.Proofs.Ytilepehlmjohbaa.fnSlacks
open Go.ChangeShapes Go.WideShapes Go.ChangeAt Go.RowKit
open Go.ChangeMaps (open_string shut_string)
set_option linter.unusedVariables false

set_option linter.unusedSimpArgs false
set_option maxRecDepth 100000 in
set_option maxHeartbeats 16000000 in
theorem walk (A : Option Addr) (n cap : Nat) (bs : List Int) (w : World) (h : Rd w 0 w.heap.size A n (byts bs)) (hn : n * 1 ≤ 140737488351232) (hs : ∀ z ∈ bs, 0 ≤ z ∧ z ≤ 255) :
    Calls Try.prog 4 #[.slice A n cap] w fun e w' => e = .returned (.bool true) ∧ Below w.heap.size w w' := by
  have HB := Go.Lib.hid (big_ A n cap w)
  by_cases hbig : (4096 : Int) < n
  · go_enter Try.func4, Try.ntmps4
    go_wp2_with fail
    refine HB.out.mono ?_
    rintro e w' ⟨rfl, rfl⟩
    go_wp2_with fail
    go_ret
    exact ⟨rfl, Below.refl _ _⟩
  · have hb2 := big_ A n cap w
    rw [decide_eq_false hbig] at hb2
    have HB2 := Go.Lib.hid hb2
    have HRD := Go.Lib.hid (fun w1 (hb : Below w.heap.size w w1) => (h.below hb (Nat.le_refl _)).mono (Nat.le_refl _) hb.size)
    have HW := Go.Lib.hid (Below.refl w.heap.size w)
    clear hb2 HB hbig h
    have hnn : n ≤ 140737488355328 := by omega
    clear hn
    go_enter Try.func4, Try.ntmps4
    go_wp2_with fail
    refine HB2.out.mono ?_
    rintro e w' ⟨rfl, rfl⟩
    have HD := Go.Lib.hid (drawLooseT A n cap bs _ (HRD.out _ HW.out) hs hnn)
    go_wp2_with fail
    refine HD.out.mono ?_
    rintro _ w1 ⟨x, Ax, cx, Bx, dx, st, lk, rfl, t1, b1⟩
    have HW := Go.Lib.hid (HW.out.trans (b1.mono HW.out.size))
    have HTa := Go.Lib.hid t1
    unfold trainV at *
    clear t1 b1 HD
    go_upto_region 4 with fail
    refine wp_gen (R := fun W => Box W w1.heap.size (trainC x Ax cx Bx dx) ∧ Below w1.heap.size w1 W) ⟨boxT_box x Ax cx Bx dx w1, boxT_below x Ax cx Bx dx w1⟩ ?_
    rintro w2 ⟨hx, b2⟩
    have HTa := Go.Lib.hid (HTa.out.below b2)
    have HW := Go.Lib.hid (HW.out.trans (b2.mono HW.out.size))
    have HXa := Go.Lib.hid hx
    clear hx b2
    obtain ⟨qa, hq⟩ : ∃ q, w1.heap.size = q := ⟨_, rfl⟩
    rw [hq] at HXa
    try simp only [hq]
    clear hq
    obtain ⟨f, r, q, hLo⟩ : ∃ f r q, looseR x st lk = (f, r, q) := ⟨_, _, _, rfl⟩
    obtain ⟨ss, p, hS⟩ : ∃ ss p, slacksR x st lk = (ss, p) := ⟨_, _, rfl⟩
    obtain ⟨cp, u, hC⟩ : ∃ cp u, capR x = (cp, u) := ⟨_, _, rfl⟩
    have hs36 := slacks_few hS
    have HL1 := Go.Lib.hid (fun w0 T0 => implLoose x Ax cx Bx dx st lk w0 T0)
    have HL2 := Go.Lib.hid (fun w0 T0 => specLoose x Ax cx Bx dx st lk w0 T0)
    have HS1 := Go.Lib.hid (fun w0 T0 => implSlacksOf x Ax cx Bx dx st lk w0 T0)
    have HS2 := Go.Lib.hid (fun w0 T0 => specSlacksOf x Ax cx Bx dx st lk w0 T0)
    have HC1 := Go.Lib.hid (fun w0 T0 => implCap x Ax cx Bx dx w0 T0)
    have HC2 := Go.Lib.hid (fun w0 T0 => specCap x Ax cx Bx dx w0 T0)
    rw [hLo] at HL1 HL2
    rw [hS] at HS1 HS2
    rw [hC] at HC1 HC2
    have HMO := Go.Lib.hid (fun (h : p = 0) (h2 : lk < 200) => more_law (x := x) (s := st) (l := lk) (ss := ss) (by rw [hS, h]) h2)
    have HLO := Go.Lib.hid (fun (h : q = 0) => loose_law (x := x) (s := st) (l := lk) (f := f) (r := r) (by rw [hLo, h]))
    rw [hS] at HLO
    have HSM := Go.Lib.hid (fun l w0 T0 => implSlacksOf x Ax cx Bx dx st l w0 T0)
    have HO1 := Go.Lib.hid (fun w0 T0 => (implGearOrder x Ax cx Bx dx w0 T0).mono fun _ _ h => h.rd)
    have HO2 := Go.Lib.hid (fun w0 T0 => (specGearOrder x Ax cx Bx dx w0 T0).mono fun _ _ h => h.rd (Nat.le_trans (orderR_few x) (by omega)))
    clear hLo hS hC
    unfold trainV at *
    have ha0 : w2.cell? ⟨qa, 0, none⟩ = some (.slice Ax x.f.length cx) := HXa.out.at_ 0 _ rfl
    have ha1 : w2.cell? ⟨qa, 1, none⟩ = some (.slice Bx x.r.length dx) := HXa.out.at_ 1 _ rfl
    have ha2 : w2.cell? ⟨qa, 2, none⟩ = some (.int .i64 x.n) := HXa.out.at_ 2 _ rfl
    go_wp2_with fail
    refine (HL1.out _ HTa.out).mono ?_
    rintro _ w3 ⟨rfl, b3⟩
    clear ha0 ha1 ha2
    have HTa := Go.Lib.hid (HTa.out.below b3)
    have HXa := Go.Lib.hid (HXa.out.below b3)
    have HW := Go.Lib.hid (HW.out.trans (b3.mono HW.out.size))
    clear b3
    have ha0 : w3.cell? ⟨qa, 0, none⟩ = some (.slice Ax x.f.length cx) := HXa.out.at_ 0 _ rfl
    have ha1 : w3.cell? ⟨qa, 1, none⟩ = some (.slice Bx x.r.length dx) := HXa.out.at_ 1 _ rfl
    have ha2 : w3.cell? ⟨qa, 2, none⟩ = some (.int .i64 x.n) := HXa.out.at_ 2 _ rfl
    go_wp2_with fail
    refine (HL2.out _ HTa.out).mono ?_
    rintro _ w4 ⟨rfl, b4⟩
    clear ha0 ha1 ha2
    have HTa := Go.Lib.hid (HTa.out.below b4)
    have HXa := Go.Lib.hid (HXa.out.below b4)
    have HW := Go.Lib.hid (HW.out.trans (b4.mono HW.out.size))
    clear b4
    have ha0 : w4.cell? ⟨qa, 0, none⟩ = some (.slice Ax x.f.length cx) := HXa.out.at_ 0 _ rfl
    have ha1 : w4.cell? ⟨qa, 1, none⟩ = some (.slice Bx x.r.length dx) := HXa.out.at_ 1 _ rfl
    have ha2 : w4.cell? ⟨qa, 2, none⟩ = some (.int .i64 x.n) := HXa.out.at_ 2 _ rfl
    go_wp2_with fail
    refine (HS1.out _ HTa.out).mono ?_
    rintro _ w5 ⟨As, cs, rfl, o5, b5⟩
    try dsimp only at o5
    clear ha0 ha1 ha2
    have HTa := Go.Lib.hid (HTa.out.below b5)
    have HXa := Go.Lib.hid (HXa.out.below b5)
    have HW := Go.Lib.hid (HW.out.trans (b5.mono HW.out.size))
    have HLs := Go.Lib.hid (lst0 o5 (by omega))
    clear o5 b5
    have ha0 : w5.cell? ⟨qa, 0, none⟩ = some (.slice Ax x.f.length cx) := HXa.out.at_ 0 _ rfl
    have ha1 : w5.cell? ⟨qa, 1, none⟩ = some (.slice Bx x.r.length dx) := HXa.out.at_ 1 _ rfl
    have ha2 : w5.cell? ⟨qa, 2, none⟩ = some (.int .i64 x.n) := HXa.out.at_ 2 _ rfl
    go_wp2_with fail
    refine (HS2.out _ HTa.out).mono ?_
    rintro _ w6 ⟨Ak, ck, rfl, o6, b6⟩
    try dsimp only at o6
    clear ha0 ha1 ha2
    have HTa := Go.Lib.hid (HTa.out.below b6)
    have HXa := Go.Lib.hid (HXa.out.below b6)
    have HLs := Go.Lib.hid (HLs.out.below b6)
    have HW := Go.Lib.hid (HW.out.trans (b6.mono HW.out.size))
    have HLk := Go.Lib.hid (lst0 o6 (by omega))
    clear o6 b6
    have ha0 : w6.cell? ⟨qa, 0, none⟩ = some (.slice Ax x.f.length cx) := HXa.out.at_ 0 _ rfl
    have ha1 : w6.cell? ⟨qa, 1, none⟩ = some (.slice Bx x.r.length dx) := HXa.out.at_ 1 _ rfl
    have ha2 : w6.cell? ⟨qa, 2, none⟩ = some (.int .i64 x.n) := HXa.out.at_ 2 _ rfl
    go_wp2_with fail
    refine (HC1.out _ HTa.out).mono ?_
    rintro _ w7 ⟨rfl, b7⟩
    clear ha0 ha1 ha2
    have HTa := Go.Lib.hid (HTa.out.below b7)
    have HXa := Go.Lib.hid (HXa.out.below b7)
    have HLs := Go.Lib.hid (HLs.out.below b7)
    have HLk := Go.Lib.hid (HLk.out.below b7)
    have HW := Go.Lib.hid (HW.out.trans (b7.mono HW.out.size))
    clear b7
    have ha0 : w7.cell? ⟨qa, 0, none⟩ = some (.slice Ax x.f.length cx) := HXa.out.at_ 0 _ rfl
    have ha1 : w7.cell? ⟨qa, 1, none⟩ = some (.slice Bx x.r.length dx) := HXa.out.at_ 1 _ rfl
    have ha2 : w7.cell? ⟨qa, 2, none⟩ = some (.int .i64 x.n) := HXa.out.at_ 2 _ rfl
    go_wp2_with fail
    refine (HC2.out _ HTa.out).mono ?_
    rintro _ w8 ⟨rfl, b8⟩
    clear ha0 ha1 ha2
    have HTa := Go.Lib.hid (HTa.out.below b8)
    have HXa := Go.Lib.hid (HXa.out.below b8)
    have HLs := Go.Lib.hid (HLs.out.below b8)
    have HLk := Go.Lib.hid (HLk.out.below b8)
    have HW := Go.Lib.hid (HW.out.trans (b8.mono HW.out.size))
    clear b8
    have HD := Go.Lib.hid (drawChainT A n cap bs _ (HRD.out _ HW.out) hs hnn)
    go_wp2_with fail
    refine HD.out.mono ?_
    rintro _ w9 ⟨y, Ay, cy, By, dy, ln, rfl, t9, b9⟩
    have HTa := Go.Lib.hid (HTa.out.below b9)
    have HXa := Go.Lib.hid (HXa.out.below b9)
    have HLs := Go.Lib.hid (HLs.out.below b9)
    have HLk := Go.Lib.hid (HLk.out.below b9)
    have HW := Go.Lib.hid (HW.out.trans (b9.mono HW.out.size))
    have HTb := Go.Lib.hid t9
    unfold trainV at *
    clear t9 b9 HD
    go_upto_region 11 with fail
    refine wp_gen (R := fun W => Box W w9.heap.size (trainC y Ay cy By dy) ∧ Below w9.heap.size w9 W) ⟨boxT_box y Ay cy By dy w9, boxT_below y Ay cy By dy w9⟩ ?_
    rintro w10 ⟨hx, b10⟩
    have HTa := Go.Lib.hid (HTa.out.below b10)
    have HXa := Go.Lib.hid (HXa.out.below b10)
    have HLs := Go.Lib.hid (HLs.out.below b10)
    have HLk := Go.Lib.hid (HLk.out.below b10)
    have HTb := Go.Lib.hid (HTb.out.below b10)
    have HW := Go.Lib.hid (HW.out.trans (b10.mono HW.out.size))
    have HXb := Go.Lib.hid hx
    clear hx b10
    obtain ⟨qb, hq⟩ : ∃ q, w9.heap.size = q := ⟨_, rfl⟩
    rw [hq] at HXb
    try simp only [hq]
    clear hq
    obtain ⟨l, v, hH⟩ : ∃ l v, chainR y ln = (l, v) := ⟨_, _, rfl⟩
    have HH1 := Go.Lib.hid (fun w0 T0 => implChain y Ay cy By dy ln w0 T0)
    have HH2 := Go.Lib.hid (fun w0 T0 => specChain y Ay cy By dy ln w0 T0)
    rw [hH] at HH1 HH2
    have HCL := Go.Lib.hid (fun (h : v = 0) => chain_law (y := y) (s := ln) (l := l) (by rw [hH, h]))
    have HSY := Go.Lib.hid (fun w0 T0 => implSlacksOf y Ay cy By dy ln l w0 T0)
    have HP1 := Go.Lib.hid (fun w0 T0 => (implGearOrder y Ay cy By dy w0 T0).mono fun _ _ h => h.rd)
    have HP2 := Go.Lib.hid (fun w0 T0 => (specGearOrder y Ay cy By dy w0 T0).mono fun _ _ h => h.rd (Nat.le_trans (orderR_few y) (by omega)))
    clear hH
    unfold trainV at *
    have ha0 : w10.cell? ⟨qa, 0, none⟩ = some (.slice Ax x.f.length cx) := HXa.out.at_ 0 _ rfl
    have ha1 : w10.cell? ⟨qa, 1, none⟩ = some (.slice Bx x.r.length dx) := HXa.out.at_ 1 _ rfl
    have ha2 : w10.cell? ⟨qa, 2, none⟩ = some (.int .i64 x.n) := HXa.out.at_ 2 _ rfl
    have hb0 : w10.cell? ⟨qb, 0, none⟩ = some (.slice Ay y.f.length cy) := HXb.out.at_ 0 _ rfl
    have hb1 : w10.cell? ⟨qb, 1, none⟩ = some (.slice By y.r.length dy) := HXb.out.at_ 1 _ rfl
    have hb2 : w10.cell? ⟨qb, 2, none⟩ = some (.int .i64 y.n) := HXb.out.at_ 2 _ rfl
    go_wp2_with fail
    refine (HH1.out _ HTb.out).mono ?_
    rintro _ w11 ⟨rfl, b11⟩
    clear ha0 ha1 ha2 hb0 hb1 hb2
    have HTa := Go.Lib.hid (HTa.out.below b11)
    have HXa := Go.Lib.hid (HXa.out.below b11)
    have HLs := Go.Lib.hid (HLs.out.below b11)
    have HLk := Go.Lib.hid (HLk.out.below b11)
    have HTb := Go.Lib.hid (HTb.out.below b11)
    have HXb := Go.Lib.hid (HXb.out.below b11)
    have HW := Go.Lib.hid (HW.out.trans (b11.mono HW.out.size))
    clear b11
    have ha0 : w11.cell? ⟨qa, 0, none⟩ = some (.slice Ax x.f.length cx) := HXa.out.at_ 0 _ rfl
    have ha1 : w11.cell? ⟨qa, 1, none⟩ = some (.slice Bx x.r.length dx) := HXa.out.at_ 1 _ rfl
    have ha2 : w11.cell? ⟨qa, 2, none⟩ = some (.int .i64 x.n) := HXa.out.at_ 2 _ rfl
    have hb0 : w11.cell? ⟨qb, 0, none⟩ = some (.slice Ay y.f.length cy) := HXb.out.at_ 0 _ rfl
    have hb1 : w11.cell? ⟨qb, 1, none⟩ = some (.slice By y.r.length dy) := HXb.out.at_ 1 _ rfl
    have hb2 : w11.cell? ⟨qb, 2, none⟩ = some (.int .i64 y.n) := HXb.out.at_ 2 _ rfl
    go_wp2_with fail
    refine (HH2.out _ HTb.out).mono ?_
    rintro _ w12 ⟨rfl, b12⟩
    clear ha0 ha1 ha2 hb0 hb1 hb2
    have HTa := Go.Lib.hid (HTa.out.below b12)
    have HXa := Go.Lib.hid (HXa.out.below b12)
    have HLs := Go.Lib.hid (HLs.out.below b12)
    have HLk := Go.Lib.hid (HLk.out.below b12)
    have HTb := Go.Lib.hid (HTb.out.below b12)
    have HXb := Go.Lib.hid (HXb.out.below b12)
    have HW := Go.Lib.hid (HW.out.trans (b12.mono HW.out.size))
    clear b12
    have hq0 : (f != f) = false := by simp
    have hq1 : (r != r) = false := by simp
    have hq2 : (q != q) = false := by simp
    have hq3 : (p != p) = false := by simp
    have hq4 : (cp != cp) = false := by simp
    have hq5 : (u != u) = false := by simp
    have hq6 : (l != l) = false := by simp
    have hq7 : (v != v) = false := by simp
    have ha0 : w12.cell? ⟨qa, 0, none⟩ = some (.slice Ax x.f.length cx) := HXa.out.at_ 0 _ rfl
    have ha1 : w12.cell? ⟨qa, 1, none⟩ = some (.slice Bx x.r.length dx) := HXa.out.at_ 1 _ rfl
    have ha2 : w12.cell? ⟨qa, 2, none⟩ = some (.int .i64 x.n) := HXa.out.at_ 2 _ rfl
    have hb0 : w12.cell? ⟨qb, 0, none⟩ = some (.slice Ay y.f.length cy) := HXb.out.at_ 0 _ rfl
    have hb1 : w12.cell? ⟨qb, 1, none⟩ = some (.slice By y.r.length dy) := HXb.out.at_ 1 _ rfl
    have hb2 : w12.cell? ⟨qb, 2, none⟩ = some (.int .i64 y.n) := HXb.out.at_ 2 _ rfl
    have HE := Go.Lib.hid (likeInts_same As Ak ss.length cs ck ss _ _ _ _ _ HLs.out.rd HLk.out.rd (by omega))
    go_wp2_with fail
    refine HE.out.mono ?_
    rintro _ w13 ⟨rfl, x13, e13⟩
    have b13 := below_of_drewN e13
    clear ha0 ha1 ha2 hb0 hb1 hb2
    have HTa := Go.Lib.hid (HTa.out.below b13)
    have HXa := Go.Lib.hid (HXa.out.below b13)
    have HLs := Go.Lib.hid (HLs.out.below b13)
    have HLk := Go.Lib.hid (HLk.out.below b13)
    have HTb := Go.Lib.hid (HTb.out.below b13)
    have HXb := Go.Lib.hid (HXb.out.below b13)
    have HW := Go.Lib.hid (HW.out.trans (b13.mono HW.out.size))
    clear b13 e13 HE
    have ha0 : w13.cell? ⟨qa, 0, none⟩ = some (.slice Ax x.f.length cx) := HXa.out.at_ 0 _ rfl
    have ha1 : w13.cell? ⟨qa, 1, none⟩ = some (.slice Bx x.r.length dx) := HXa.out.at_ 1 _ rfl
    have ha2 : w13.cell? ⟨qa, 2, none⟩ = some (.int .i64 x.n) := HXa.out.at_ 2 _ rfl
    have hb0 : w13.cell? ⟨qb, 0, none⟩ = some (.slice Ay y.f.length cy) := HXb.out.at_ 0 _ rfl
    have hb1 : w13.cell? ⟨qb, 1, none⟩ = some (.slice By y.r.length dy) := HXb.out.at_ 1 _ rfl
    have hb2 : w13.cell? ⟨qb, 2, none⟩ = some (.int .i64 y.n) := HXb.out.at_ 2 _ rfl
    go_upto_if 153 with fail
    clear ha0 ha1 ha2 hb0 hb1 hb2
    clear hq0 hq1 hq2 hq3 hq4 hq5 hq6 hq7
    go_cut [] (fun wx => Below w.heap.size w wx ∧ Box wx qa (trainC x Ax cx Bx dx) ∧ TrL x Ax cx Bx dx wx ∧ Ls ss As cs wx)
    case first =>
      as_aux_lemma =>
        by_cases hv : v = 0
        case pos =>
          subst hv
          obtain ⟨al, hal, hord, hlen, hL36, ⟨hf3, hr12⟩, htop⟩ := HCL.out rfl
          rw [hal] at HSY
          rw [hord] at HP1 HP2
          generalize ordI y = L at *
          have HLEN := Go.Lib.hid hlen
          have HTOP := Go.Lib.hid htop
          have hal36 : al.length ≤ 36 := by omega
          clear hal hord hlen htop
          have ha0 : w13.cell? ⟨qa, 0, none⟩ = some (.slice Ax x.f.length cx) := HXa.out.at_ 0 _ rfl
          have ha1 : w13.cell? ⟨qa, 1, none⟩ = some (.slice Bx x.r.length dx) := HXa.out.at_ 1 _ rfl
          have ha2 : w13.cell? ⟨qa, 2, none⟩ = some (.int .i64 x.n) := HXa.out.at_ 2 _ rfl
          have hb0 : w13.cell? ⟨qb, 0, none⟩ = some (.slice Ay y.f.length cy) := HXb.out.at_ 0 _ rfl
          have hb1 : w13.cell? ⟨qb, 1, none⟩ = some (.slice By y.r.length dy) := HXb.out.at_ 1 _ rfl
          have hb2 : w13.cell? ⟨qb, 2, none⟩ = some (.int .i64 y.n) := HXb.out.at_ 2 _ rfl
          go_wp2_with fail
          refine (HSY.out _ HTb.out).mono ?_
          rintro _ w14 ⟨Az, cz, rfl, o14, b14⟩
          try dsimp only at o14
          clear ha0 ha1 ha2 hb0 hb1 hb2
          have HTa := Go.Lib.hid (HTa.out.below b14)
          have HXa := Go.Lib.hid (HXa.out.below b14)
          have HLs := Go.Lib.hid (HLs.out.below b14)
          have HLk := Go.Lib.hid (HLk.out.below b14)
          have HTb := Go.Lib.hid (HTb.out.below b14)
          have HXb := Go.Lib.hid (HXb.out.below b14)
          have HW := Go.Lib.hid (HW.out.trans (b14.mono HW.out.size))
          have HLz := Go.Lib.hid (lst0 o14 (by omega))
          clear o14 b14
          have ha0 : w14.cell? ⟨qa, 0, none⟩ = some (.slice Ax x.f.length cx) := HXa.out.at_ 0 _ rfl
          have ha1 : w14.cell? ⟨qa, 1, none⟩ = some (.slice Bx x.r.length dx) := HXa.out.at_ 1 _ rfl
          have ha2 : w14.cell? ⟨qa, 2, none⟩ = some (.int .i64 x.n) := HXa.out.at_ 2 _ rfl
          have hb0 : w14.cell? ⟨qb, 0, none⟩ = some (.slice Ay y.f.length cy) := HXb.out.at_ 0 _ rfl
          have hb1 : w14.cell? ⟨qb, 1, none⟩ = some (.slice By y.r.length dy) := HXb.out.at_ 1 _ rfl
          have hb2 : w14.cell? ⟨qb, 2, none⟩ = some (.int .i64 y.n) := HXb.out.at_ 2 _ rfl
          go_wp2_with fail
          refine (HP1.out _ HTb.out).mono ?_
          rintro _ w15 ⟨Ao, co, rfl, z15, b15⟩
          clear ha0 ha1 ha2 hb0 hb1 hb2
          have HTa := Go.Lib.hid (HTa.out.below b15)
          have HXa := Go.Lib.hid (HXa.out.below b15)
          have HLs := Go.Lib.hid (HLs.out.below b15)
          have HLk := Go.Lib.hid (HLk.out.below b15)
          have HTb := Go.Lib.hid (HTb.out.below b15)
          have HXb := Go.Lib.hid (HXb.out.below b15)
          have HLz := Go.Lib.hid (HLz.out.below b15)
          have HW := Go.Lib.hid (HW.out.trans (b15.mono HW.out.size))
          have HZo := Go.Lib.hid z15
          clear z15 b15
          have ha0 : w15.cell? ⟨qa, 0, none⟩ = some (.slice Ax x.f.length cx) := HXa.out.at_ 0 _ rfl
          have ha1 : w15.cell? ⟨qa, 1, none⟩ = some (.slice Bx x.r.length dx) := HXa.out.at_ 1 _ rfl
          have ha2 : w15.cell? ⟨qa, 2, none⟩ = some (.int .i64 x.n) := HXa.out.at_ 2 _ rfl
          have hb0 : w15.cell? ⟨qb, 0, none⟩ = some (.slice Ay y.f.length cy) := HXb.out.at_ 0 _ rfl
          have hb1 : w15.cell? ⟨qb, 1, none⟩ = some (.slice By y.r.length dy) := HXb.out.at_ 1 _ rfl
          have hb2 : w15.cell? ⟨qb, 2, none⟩ = some (.int .i64 y.n) := HXb.out.at_ 2 _ rfl
          go_wp2_with fail
          refine (HP2.out _ HTb.out).mono ?_
          rintro _ w16 ⟨Ag, cg, rfl, z16, b16⟩
          clear ha0 ha1 ha2 hb0 hb1 hb2
          have HTa := Go.Lib.hid (HTa.out.below b16)
          have HXa := Go.Lib.hid (HXa.out.below b16)
          have HLs := Go.Lib.hid (HLs.out.below b16)
          have HLk := Go.Lib.hid (HLk.out.below b16)
          have HTb := Go.Lib.hid (HTb.out.below b16)
          have HXb := Go.Lib.hid (HXb.out.below b16)
          have HLz := Go.Lib.hid (HLz.out.below b16)
          have HZo := Go.Lib.hid (HZo.out.below b16)
          have HW := Go.Lib.hid (HW.out.trans (b16.mono HW.out.size))
          have HZg := Go.Lib.hid z16
          clear z16 b16
          have hv0 : ((rowsG L).length : Int) = L.length := by rw [rowsG_len]
          have hlq : (((al.length : Int)) != ((rowsG L).length : Int)) = false := by rw [HLEN.out, rowsG_len]; simp
          have ha0 : w16.cell? ⟨qa, 0, none⟩ = some (.slice Ax x.f.length cx) := HXa.out.at_ 0 _ rfl
          have ha1 : w16.cell? ⟨qa, 1, none⟩ = some (.slice Bx x.r.length dx) := HXa.out.at_ 1 _ rfl
          have ha2 : w16.cell? ⟨qa, 2, none⟩ = some (.int .i64 x.n) := HXa.out.at_ 2 _ rfl
          have hb0 : w16.cell? ⟨qb, 0, none⟩ = some (.slice Ay y.f.length cy) := HXb.out.at_ 0 _ rfl
          have hb1 : w16.cell? ⟨qb, 1, none⟩ = some (.slice By y.r.length dy) := HXb.out.at_ 1 _ rfl
          have hb2 : w16.cell? ⟨qb, 2, none⟩ = some (.int .i64 y.n) := HXb.out.at_ 2 _ rfl
          have HE := Go.Lib.hid (likeRowsZ Ao Ag (rowsG L).length co cg (rowsG L) _ rfl HZo.out HZg.out)
          go_wp2_with fail
          refine HE.out.mono ?_
          rintro _ w17 ⟨rfl, x17, e17⟩
          have b17 := below_of_drewN e17
          clear ha0 ha1 ha2 hb0 hb1 hb2
          have HTa := Go.Lib.hid (HTa.out.below b17)
          have HXa := Go.Lib.hid (HXa.out.below b17)
          have HLs := Go.Lib.hid (HLs.out.below b17)
          have HLk := Go.Lib.hid (HLk.out.below b17)
          have HTb := Go.Lib.hid (HTb.out.below b17)
          have HXb := Go.Lib.hid (HXb.out.below b17)
          have HLz := Go.Lib.hid (HLz.out.below b17)
          have HZo := Go.Lib.hid (HZo.out.below b17)
          have HZg := Go.Lib.hid (HZg.out.below b17)
          have HW := Go.Lib.hid (HW.out.trans (b17.mono HW.out.size))
          clear b17 e17 HE
          have HRL := Go.Lib.hid (rowsG_len L)
          clear hv0 hlq
          rw [HRL.out, HLEN.out]
          have ha0 : w17.cell? ⟨qa, 0, none⟩ = some (.slice Ax x.f.length cx) := HXa.out.at_ 0 _ rfl
          have ha1 : w17.cell? ⟨qa, 1, none⟩ = some (.slice Bx x.r.length dx) := HXa.out.at_ 1 _ rfl
          have ha2 : w17.cell? ⟨qa, 2, none⟩ = some (.int .i64 x.n) := HXa.out.at_ 2 _ rfl
          have hb0 : w17.cell? ⟨qb, 0, none⟩ = some (.slice Ay y.f.length cy) := HXb.out.at_ 0 _ rfl
          have hb1 : w17.cell? ⟨qb, 1, none⟩ = some (.slice By y.r.length dy) := HXb.out.at_ 1 _ rfl
          have hb2 : w17.cell? ⟨qb, 2, none⟩ = some (.int .i64 y.n) := HXb.out.at_ 2 _ rfl
          go_wp2_with fail
          clear ha0 ha1 ha2 hb0 hb1 hb2
          go_loopw [32] (fun i wr => ∃ k : Nat, k ≤ L.length ∧ i = .int .i64 k ∧ Eqw w17 wr) (fun i _ => L.length - (intOf i).toNat)
          case atStart => exact ⟨0, Nat.zero_le _, rfl, Eqw.refl _⟩
          case round =>
            obtain ⟨k, hk, rfl, hw⟩ := hrel
            have HQ := Go.Lib.hid hw
            by_cases hlt : k < L.length
            case pos =>
              obtain ⟨ob, oo, D, ed, hAo, hob, hrd⟩ := (HZo.out.below hw.below).at_ k (by rw [rowsG_len]; exact hlt)
              subst hAo
              have HRW := Go.Lib.hid (show rowAt (rowsG L) k = rowG (L.getD k (0, 0)) from rowsG_at hlt)
              rw [HRW.out] at hob hrd
              obtain ⟨zb, zo, hAz, -, zc⟩ := (HLz.out.eqw hw).at_ (k := k) (by rw [HLEN.out]; exact hlt)
              subst hAz
              have hzc := zc k (by rw [HLEN.out]; exact hlt)
              have HTK := Go.Lib.hid (HTOP.out k hlt)
              generalize L.getD k (0, 0) = gg at *
              generalize al.getD k 0 = zk at *
              obtain ⟨eb, eo, e, -, -, hcs⟩ := hrd.at_ (k := 0) (by simp [rowG])
              subst e
              replace hob : wr.cell? ⟨ob, oo + k, none⟩ = some (.slice (some ⟨eb, eo, none⟩) 2 ed) := hob
              have he0 : wr.cell? ⟨eb, eo, none⟩ = some (.int .i64 (gg.1 : Nat)) := hcs 0 _ rfl
              have he1 : wr.cell? ⟨eb, eo + 1, none⟩ = some (.int .i64 (gg.2 : Nat)) := hcs 1 _ rfl
              clear hrd hcs
              have HXB := Go.Lib.hid (HXb.out.below hw.below)
              have hb0 : wr.cell? ⟨qb, 0, none⟩ = some (.slice Ay y.f.length cy) := HXB.out.at_ 0 _ rfl
              have hb1 : wr.cell? ⟨qb, 1, none⟩ = some (.slice By y.r.length dy) := HXB.out.at_ 1 _ rfl
              obtain ⟨mf, hmf⟩ : ∃ mf, (y.f.length : Int) - 1 = mf := ⟨_, rfl⟩
              obtain ⟨mr, hmr⟩ : ∃ mr, (y.r.length : Int) - 1 = mr := ⟨_, rfl⟩
              have ef : IntKind.i64.wrap ((y.f.length : Int) - 1) = mf := (IntWalk.i64_in _ (by omega)).trans hmf
              have er : IntKind.i64.wrap ((y.r.length : Int) - 1) = mr := (IntWalk.i64_in _ (by omega)).trans hmr
              rw [hmf, hmr] at HTK
              have hkl : (k : Int) < L.length := by omega
              clear zc hw hmf hmr
              by_cases h1 : (gg.1 : Int) = mf
              case pos =>
                by_cases h2 : (gg.2 : Int) = mr
                case pos =>
                  have h3 := HTK.out h1 h2
                  have h1b : ((gg.1 : Int) == mf) = true := by simpa using h1
                  have h2b : ((gg.2 : Int) == mr) = true := by simpa using h2
                  clear h1 h2 HTK
                  go_upto_region 24 with fail
                  refine wp_region_held_drew (S := fun w' => w'.cell? ⟨ob, oo + k, none⟩ = some (.slice (some ⟨eb, eo, none⟩) 2 ed) ∧ w'.cell? ⟨eb, eo, none⟩ = some (.int .i64 (gg.1 : Nat)) ∧ w'.cell? ⟨eb, eo + 1, none⟩ = some (.int .i64 (gg.2 : Nat)) ∧ w'.cell? ⟨qb, 0, none⟩ = some (.slice Ay y.f.length cy) ∧ w'.cell? ⟨qb, 1, none⟩ = some (.slice By y.r.length dy) ∧ w'.cell? ⟨zb, zo + k, none⟩ = some (.int .i64 zk)) (by kernel_rfl) (by exact ⟨hob, he0, he1, hb0, hb1, hzc⟩) (fun hHeld => ?_)
                  refine wpAnyH_take (i := 0) (v := ?vka1) rfl (by kernel_rfl) (by kernel_rfl) (by kernel_rfl) (fun _ _ _ h => h) (Or.inl ⟨by rfl, ?hyka1⟩) (by assumption) ?restka1
                  case hyka1 => (intro w hSw; (try dsimp only at hSw); go_simp; try with_reducible rfl)
                  try simp only [List.getElem_toArray, List.getElem_cons_succ, List.getElem_cons_zero, Act.put, List.setIfInBounds_toArray, List.set_cons_zero, List.set_cons_succ]
                  refine wpAnyH_take (i := 1) (v := ?vka2) rfl (by kernel_rfl) (by kernel_rfl) (by kernel_rfl) (fun _ _ _ h => h) (Or.inl ⟨by rfl, ?hyka2⟩) (by assumption) ?restka2
                  case hyka2 => (intro w hSw; (try dsimp only at hSw); go_simp; try with_reducible rfl)
                  try simp only [List.getElem_toArray, List.getElem_cons_succ, List.getElem_cons_zero, Act.put, List.setIfInBounds_toArray, List.set_cons_zero, List.set_cons_succ]
                  refine wpAnyH_take (i := 2) (v := ?vka3) rfl (by kernel_rfl) (by kernel_rfl) (by kernel_rfl) (fun _ _ _ h => h) (Or.inl ⟨by rfl, ?hyka3⟩) (by assumption) ?restka3
                  case hyka3 => (intro w hSw; (try dsimp only at hSw); go_simp; try with_reducible rfl)
                  try simp only [List.getElem_toArray, List.getElem_cons_succ, List.getElem_cons_zero, Act.put, List.setIfInBounds_toArray, List.set_cons_zero, List.set_cons_succ]
                  refine wpAnyH_take (i := 3) (v := ?vka4) rfl (by kernel_rfl) (by kernel_rfl) (by kernel_rfl) (fun _ _ _ h => h) (Or.inl ⟨by rfl, ?hyka4⟩) (by assumption) ?restka4
                  case hyka4 => (intro w hSw; (try dsimp only at hSw); go_simp; try with_reducible rfl)
                  try simp only [List.getElem_toArray, List.getElem_cons_succ, List.getElem_cons_zero, Act.put, List.setIfInBounds_toArray, List.set_cons_zero, List.set_cons_succ]
                  refine wpAnyH_take (i := 4) (v := ?vka5) rfl (by kernel_rfl) (by kernel_rfl) (by kernel_rfl) (fun _ _ _ h => h) (Or.inl ⟨by rfl, ?hyka5⟩) (by assumption) ?restka5
                  case hyka5 => (intro w hSw; (try dsimp only at hSw); go_simp; try with_reducible rfl)
                  try simp only [List.getElem_toArray, List.getElem_cons_succ, List.getElem_cons_zero, Act.put, List.setIfInBounds_toArray, List.set_cons_zero, List.set_cons_succ]
                  refine wpAnyH_take (i := 5) (v := ?vka6) rfl (by kernel_rfl) (by kernel_rfl) (by kernel_rfl) (fun _ _ _ h => h) (Or.inl ⟨by rfl, ?hyka6⟩) (by assumption) ?restka6
                  case hyka6 => (intro w hSw; (try dsimp only at hSw); go_simp; try with_reducible rfl)
                  try simp only [List.getElem_toArray, List.getElem_cons_succ, List.getElem_cons_zero, Act.put, List.setIfInBounds_toArray, List.set_cons_zero, List.set_cons_succ]
                  refine wpAnyH_take (i := 6) (v := ?vka7) rfl (by kernel_rfl) (by kernel_rfl) (by kernel_rfl) (fun _ _ _ h => h) (Or.inl ⟨by rfl, ?hyka7⟩) (by assumption) ?restka7
                  case hyka7 => (intro w hSw; (try dsimp only at hSw); go_simp; try with_reducible rfl)
                  try simp only [List.getElem_toArray, List.getElem_cons_succ, List.getElem_cons_zero, Act.put, List.setIfInBounds_toArray, List.set_cons_zero, List.set_cons_succ]
                  refine wpAnyH_take (i := 7) (v := ?vka8) rfl (by kernel_rfl) (by kernel_rfl) (by kernel_rfl) (fun _ _ _ h => h) (Or.inl ⟨by rfl, ?hyka8⟩) (by assumption) ?restka8
                  case hyka8 => (intro w hSw; (try dsimp only at hSw); go_simp; try with_reducible rfl)
                  try simp only [List.getElem_toArray, List.getElem_cons_succ, List.getElem_cons_zero, Act.put, List.setIfInBounds_toArray, List.set_cons_zero, List.set_cons_succ]
                  refine wpAnyH_take (i := 8) (v := ?vka9) rfl (by kernel_rfl) (by kernel_rfl) (by kernel_rfl) (fun _ _ _ h => h) (Or.inl ⟨by rfl, ?hyka9⟩) (by assumption) ?restka9
                  case hyka9 => (intro w hSw; (try dsimp only at hSw); go_simp; try with_reducible rfl)
                  try simp only [List.getElem_toArray, List.getElem_cons_succ, List.getElem_cons_zero, Act.put, List.setIfInBounds_toArray, List.set_cons_zero, List.set_cons_succ]
                  refine wpAnyH_take (i := 9) (v := ?vka10) rfl (by kernel_rfl) (by kernel_rfl) (by kernel_rfl) (fun _ _ _ h => h) (Or.inl ⟨by rfl, ?hyka10⟩) (by assumption) ?restka10
                  case hyka10 => (intro w hSw; (try dsimp only at hSw); go_simp; try with_reducible rfl)
                  try simp only [List.getElem_toArray, List.getElem_cons_succ, List.getElem_cons_zero, Act.put, List.setIfInBounds_toArray, List.set_cons_zero, List.set_cons_succ]
                  refine wpAnyH_take (i := 10) (v := ?vka11) rfl (by kernel_rfl) (by kernel_rfl) (by kernel_rfl) (fun _ _ _ h => h) (Or.inl ⟨by rfl, ?hyka11⟩) (by assumption) ?restka11
                  case hyka11 => (intro w hSw; (try dsimp only at hSw); go_simp; try with_reducible rfl)
                  try simp only [List.getElem_toArray, List.getElem_cons_succ, List.getElem_cons_zero, Act.put, List.setIfInBounds_toArray, List.set_cons_zero, List.set_cons_succ]
                  refine wpAnyH_take (i := 11) (v := ?vka12) rfl (by kernel_rfl) (by kernel_rfl) (by kernel_rfl) (fun _ _ _ h => h) (Or.inl ⟨by rfl, ?hyka12⟩) (by assumption) ?restka12
                  case hyka12 => (intro w hSw; (try dsimp only at hSw); go_simp; try with_reducible rfl)
                  try simp only [List.getElem_toArray, List.getElem_cons_succ, List.getElem_cons_zero, Act.put, List.setIfInBounds_toArray, List.set_cons_zero, List.set_cons_succ]
                  refine wpAnyH_take (i := 12) (v := ?vka13) rfl (by kernel_rfl) (by kernel_rfl) (by kernel_rfl) (fun _ _ _ h => h) (Or.inl ⟨by rfl, ?hyka13⟩) (by assumption) ?restka13
                  case hyka13 => (intro w hSw; (try dsimp only at hSw); go_simp; try with_reducible rfl)
                  try simp only [List.getElem_toArray, List.getElem_cons_succ, List.getElem_cons_zero, Act.put, List.setIfInBounds_toArray, List.set_cons_zero, List.set_cons_succ]
                  refine wpAnyH_take (i := 13) (v := ?vka14) rfl (by kernel_rfl) (by kernel_rfl) (by kernel_rfl) (fun _ _ _ h => h) (Or.inl ⟨by rfl, ?hyka14⟩) (by assumption) ?restka14
                  case hyka14 => (intro w hSw; (try dsimp only at hSw); go_simp; try with_reducible rfl)
                  try simp only [List.getElem_toArray, List.getElem_cons_succ, List.getElem_cons_zero, Act.put, List.setIfInBounds_toArray, List.set_cons_zero, List.set_cons_succ]
                  refine wpAnyH_take (i := 14) (v := ?vka15) rfl (by kernel_rfl) (by kernel_rfl) (by kernel_rfl) (fun _ _ _ h => h) (Or.inl ⟨by rfl, ?hyka15⟩) (by assumption) ?restka15
                  case hyka15 => (intro w hSw; (try dsimp only at hSw); go_simp; try with_reducible rfl)
                  try simp only [List.getElem_toArray, List.getElem_cons_succ, List.getElem_cons_zero, Act.put, List.setIfInBounds_toArray, List.set_cons_zero, List.set_cons_succ]
                  refine wpAnyH_take (i := 15) (v := ?vka16) rfl (by kernel_rfl) (by kernel_rfl) (by kernel_rfl) (fun _ _ _ h => h) (Or.inl ⟨by rfl, ?hyka16⟩) (by assumption) ?restka16
                  case hyka16 => (intro w hSw; (try dsimp only at hSw); go_simp; try with_reducible rfl)
                  try simp only [List.getElem_toArray, List.getElem_cons_succ, List.getElem_cons_zero, Act.put, List.setIfInBounds_toArray, List.set_cons_zero, List.set_cons_succ]
                  refine wpAnyH_take (i := 16) (v := ?vka17) rfl (by kernel_rfl) (by kernel_rfl) (by kernel_rfl) (fun _ _ _ h => h) (Or.inl ⟨by rfl, ?hyka17⟩) (by assumption) ?restka17
                  case hyka17 => (intro w hSw; (try dsimp only at hSw); go_simp; try with_reducible rfl)
                  try simp only [List.getElem_toArray, List.getElem_cons_succ, List.getElem_cons_zero, Act.put, List.setIfInBounds_toArray, List.set_cons_zero, List.set_cons_succ]
                  refine wpAnyH_take (i := 17) (v := ?vka18) rfl (by kernel_rfl) (by kernel_rfl) (by kernel_rfl) (fun _ _ _ h => h) (Or.inl ⟨by rfl, ?hyka18⟩) (by assumption) ?restka18
                  case hyka18 => (intro w hSw; (try dsimp only at hSw); go_simp; try with_reducible rfl)
                  try simp only [List.getElem_toArray, List.getElem_cons_succ, List.getElem_cons_zero, Act.put, List.setIfInBounds_toArray, List.set_cons_zero, List.set_cons_succ]
                  refine wpAnyH_take (i := 18) (v := ?vka19) rfl (by kernel_rfl) (by kernel_rfl) (by kernel_rfl) (fun _ _ _ h => h) (Or.inl ⟨by rfl, ?hyka19⟩) (by assumption) ?restka19
                  case hyka19 => (intro w hSw; (try dsimp only at hSw); go_simp; try with_reducible rfl)
                  try simp only [List.getElem_toArray, List.getElem_cons_succ, List.getElem_cons_zero, Act.put, List.setIfInBounds_toArray, List.set_cons_zero, List.set_cons_succ]
                  refine wpAnyH_take (i := 19) (v := ?vka20) rfl (by kernel_rfl) (by kernel_rfl) (by kernel_rfl) (fun _ _ _ h => h) (Or.inl ⟨by rfl, ?hyka20⟩) (by assumption) ?restka20
                  case hyka20 => (intro w hSw; (try dsimp only at hSw); go_simp; try with_reducible rfl)
                  try simp only [List.getElem_toArray, List.getElem_cons_succ, List.getElem_cons_zero, Act.put, List.setIfInBounds_toArray, List.set_cons_zero, List.set_cons_succ]
                  refine wpAnyH_take (i := 20) (v := ?vka21) rfl (by kernel_rfl) (by kernel_rfl) (by kernel_rfl) (fun _ _ _ h => h) (Or.inl ⟨by rfl, ?hyka21⟩) (by assumption) ?restka21
                  case hyka21 => (intro w hSw; (try dsimp only at hSw); go_simp; try with_reducible rfl)
                  try simp only [List.getElem_toArray, List.getElem_cons_succ, List.getElem_cons_zero, Act.put, List.setIfInBounds_toArray, List.set_cons_zero, List.set_cons_succ]
                  refine wpAnyH_take (i := 21) (v := ?vka22) rfl (by kernel_rfl) (by kernel_rfl) (by kernel_rfl) (fun _ _ _ h => h) (Or.inl ⟨by rfl, ?hyka22⟩) (by assumption) ?restka22
                  case hyka22 => (intro w hSw; (try dsimp only at hSw); go_simp; try with_reducible rfl)
                  try simp only [List.getElem_toArray, List.getElem_cons_succ, List.getElem_cons_zero, Act.put, List.setIfInBounds_toArray, List.set_cons_zero, List.set_cons_succ]
                  refine wpAnyH_take (i := 22) (v := ?vka23) rfl (by kernel_rfl) (by kernel_rfl) (by kernel_rfl) (fun _ _ _ h => h) (Or.inl ⟨by rfl, ?hyka23⟩) (by assumption) ?restka23
                  case hyka23 => (intro w hSw; (try dsimp only at hSw); go_simp; try with_reducible rfl)
                  try simp only [List.getElem_toArray, List.getElem_cons_succ, List.getElem_cons_zero, Act.put, List.setIfInBounds_toArray, List.set_cons_zero, List.set_cons_succ]
                  refine wpAnyH_take (i := 23) (v := ?vka24) rfl (by kernel_rfl) (by kernel_rfl) (by kernel_rfl) (fun _ _ _ h => h) (Or.inl ⟨by rfl, ?hyka24⟩) (by assumption) ?restka24
                  case hyka24 => (intro w hSw; (try dsimp only at hSw); go_simp; try with_reducible rfl)
                  try simp only [List.getElem_toArray, List.getElem_cons_succ, List.getElem_cons_zero, Act.put, List.setIfInBounds_toArray, List.set_cons_zero, List.set_cons_succ]
                  refine wpAnyH_take (i := 24) (v := ?vka25) rfl (by kernel_rfl) (by kernel_rfl) (by kernel_rfl) (fun _ _ _ h => h) (Or.inl ⟨by rfl, ?hyka25⟩) (by assumption) ?restka25
                  case hyka25 => (intro w hSw; (try dsimp only at hSw); go_simp; try with_reducible rfl)
                  try simp only [List.getElem_toArray, List.getElem_cons_succ, List.getElem_cons_zero, Act.put, List.setIfInBounds_toArray, List.set_cons_zero, List.set_cons_succ]
                  refine wpAnyH_take (i := 25) (v := ?vka26) rfl (by kernel_rfl) (by kernel_rfl) (by kernel_rfl) (fun _ _ _ h => h) (Or.inl ⟨by rfl, ?hyka26⟩) (by assumption) ?restka26
                  case hyka26 => (intro w hSw; (try dsimp only at hSw); go_simp; try with_reducible rfl)
                  try simp only [List.getElem_toArray, List.getElem_cons_succ, List.getElem_cons_zero, Act.put, List.setIfInBounds_toArray, List.set_cons_zero, List.set_cons_succ]
                  refine wpAnyH_take (i := 26) (v := ?vka27) rfl (by kernel_rfl) (by kernel_rfl) (by kernel_rfl) (fun _ _ _ h => h) (Or.inl ⟨by rfl, ?hyka27⟩) (by assumption) ?restka27
                  case hyka27 => (intro w hSw; (try dsimp only at hSw); go_simp; try with_reducible rfl)
                  try simp only [List.getElem_toArray, List.getElem_cons_succ, List.getElem_cons_zero, Act.put, List.setIfInBounds_toArray, List.set_cons_zero, List.set_cons_succ]
                  refine wpAnyH_take (i := 27) (v := ?vka28) rfl (by kernel_rfl) (by kernel_rfl) (by kernel_rfl) (fun _ _ _ h => h) (Or.inl ⟨by rfl, ?hyka28⟩) (by assumption) ?restka28
                  case hyka28 => (intro w hSw; (try dsimp only at hSw); go_simp; try with_reducible rfl)
                  try simp only [List.getElem_toArray, List.getElem_cons_succ, List.getElem_cons_zero, Act.put, List.setIfInBounds_toArray, List.set_cons_zero, List.set_cons_succ]
                  refine wpAnyH_take (i := 28) (v := ?vka29) rfl (by kernel_rfl) (by kernel_rfl) (by kernel_rfl) (fun _ _ _ h => h) (Or.inl ⟨by rfl, ?hyka29⟩) (by assumption) ?restka29
                  case hyka29 => (intro w hSw; (try dsimp only at hSw); go_simp; try with_reducible rfl)
                  try simp only [List.getElem_toArray, List.getElem_cons_succ, List.getElem_cons_zero, Act.put, List.setIfInBounds_toArray, List.set_cons_zero, List.set_cons_succ]
                  refine wpAnyH_take (i := 29) (v := ?vka30) rfl (by kernel_rfl) (by kernel_rfl) (by kernel_rfl) (fun _ _ _ h => h) (Or.inl ⟨by rfl, ?hyka30⟩) (by assumption) ?restka30
                  case hyka30 => (intro w hSw; (try dsimp only at hSw); go_simp; try with_reducible rfl)
                  try simp only [List.getElem_toArray, List.getElem_cons_succ, List.getElem_cons_zero, Act.put, List.setIfInBounds_toArray, List.set_cons_zero, List.set_cons_succ]
                  refine wpAnyH_take (i := 30) (v := ?vka31) rfl (by kernel_rfl) (by kernel_rfl) (by kernel_rfl) (fun _ _ _ h => h) (Or.inl ⟨by rfl, ?hyka31⟩) (by assumption) ?restka31
                  case hyka31 => (intro w hSw; (try dsimp only at hSw); go_simp; try with_reducible rfl)
                  try simp only [List.getElem_toArray, List.getElem_cons_succ, List.getElem_cons_zero, Act.put, List.setIfInBounds_toArray, List.set_cons_zero, List.set_cons_succ]
                  refine wpAnyH_done (by kernel_rfl) ?_ _
                  clear hHeld
                  go_wp2_with fail
                  go_roundw
                  case rel => exact ⟨k + 1, by omega, by go_num, HQ.out.drewN 1⟩
                  case measure => simp [intOf]; omega
                case neg =>
                  have h1b : ((gg.1 : Int) == mf) = true := by simpa using h1
                  have h2b : ((gg.2 : Int) == mr) = false := by simpa using h2
                  clear h1 h2 HTK
                  go_upto_region 24 with fail
                  refine wp_region_held_drew (S := fun w' => w'.cell? ⟨ob, oo + k, none⟩ = some (.slice (some ⟨eb, eo, none⟩) 2 ed) ∧ w'.cell? ⟨eb, eo, none⟩ = some (.int .i64 (gg.1 : Nat)) ∧ w'.cell? ⟨eb, eo + 1, none⟩ = some (.int .i64 (gg.2 : Nat)) ∧ w'.cell? ⟨qb, 0, none⟩ = some (.slice Ay y.f.length cy) ∧ w'.cell? ⟨qb, 1, none⟩ = some (.slice By y.r.length dy) ∧ w'.cell? ⟨zb, zo + k, none⟩ = some (.int .i64 zk)) (by kernel_rfl) (by exact ⟨hob, he0, he1, hb0, hb1, hzc⟩) (fun hHeld => ?_)
                  refine wpAnyH_take (i := 0) (v := ?vkb1) rfl (by kernel_rfl) (by kernel_rfl) (by kernel_rfl) (fun _ _ _ h => h) (Or.inl ⟨by rfl, ?hykb1⟩) (by assumption) ?restkb1
                  case hykb1 => (intro w hSw; (try dsimp only at hSw); go_simp; try with_reducible rfl)
                  try simp only [List.getElem_toArray, List.getElem_cons_succ, List.getElem_cons_zero, Act.put, List.setIfInBounds_toArray, List.set_cons_zero, List.set_cons_succ]
                  refine wpAnyH_take (i := 1) (v := ?vkb2) rfl (by kernel_rfl) (by kernel_rfl) (by kernel_rfl) (fun _ _ _ h => h) (Or.inl ⟨by rfl, ?hykb2⟩) (by assumption) ?restkb2
                  case hykb2 => (intro w hSw; (try dsimp only at hSw); go_simp; try with_reducible rfl)
                  try simp only [List.getElem_toArray, List.getElem_cons_succ, List.getElem_cons_zero, Act.put, List.setIfInBounds_toArray, List.set_cons_zero, List.set_cons_succ]
                  refine wpAnyH_take (i := 2) (v := ?vkb3) rfl (by kernel_rfl) (by kernel_rfl) (by kernel_rfl) (fun _ _ _ h => h) (Or.inl ⟨by rfl, ?hykb3⟩) (by assumption) ?restkb3
                  case hykb3 => (intro w hSw; (try dsimp only at hSw); go_simp; try with_reducible rfl)
                  try simp only [List.getElem_toArray, List.getElem_cons_succ, List.getElem_cons_zero, Act.put, List.setIfInBounds_toArray, List.set_cons_zero, List.set_cons_succ]
                  refine wpAnyH_take (i := 3) (v := ?vkb4) rfl (by kernel_rfl) (by kernel_rfl) (by kernel_rfl) (fun _ _ _ h => h) (Or.inl ⟨by rfl, ?hykb4⟩) (by assumption) ?restkb4
                  case hykb4 => (intro w hSw; (try dsimp only at hSw); go_simp; try with_reducible rfl)
                  try simp only [List.getElem_toArray, List.getElem_cons_succ, List.getElem_cons_zero, Act.put, List.setIfInBounds_toArray, List.set_cons_zero, List.set_cons_succ]
                  refine wpAnyH_take (i := 4) (v := ?vkb5) rfl (by kernel_rfl) (by kernel_rfl) (by kernel_rfl) (fun _ _ _ h => h) (Or.inl ⟨by rfl, ?hykb5⟩) (by assumption) ?restkb5
                  case hykb5 => (intro w hSw; (try dsimp only at hSw); go_simp; try with_reducible rfl)
                  try simp only [List.getElem_toArray, List.getElem_cons_succ, List.getElem_cons_zero, Act.put, List.setIfInBounds_toArray, List.set_cons_zero, List.set_cons_succ]
                  refine wpAnyH_take (i := 5) (v := ?vkb6) rfl (by kernel_rfl) (by kernel_rfl) (by kernel_rfl) (fun _ _ _ h => h) (Or.inl ⟨by rfl, ?hykb6⟩) (by assumption) ?restkb6
                  case hykb6 => (intro w hSw; (try dsimp only at hSw); go_simp; try with_reducible rfl)
                  try simp only [List.getElem_toArray, List.getElem_cons_succ, List.getElem_cons_zero, Act.put, List.setIfInBounds_toArray, List.set_cons_zero, List.set_cons_succ]
                  refine wpAnyH_take (i := 6) (v := ?vkb7) rfl (by kernel_rfl) (by kernel_rfl) (by kernel_rfl) (fun _ _ _ h => h) (Or.inl ⟨by rfl, ?hykb7⟩) (by assumption) ?restkb7
                  case hykb7 => (intro w hSw; (try dsimp only at hSw); go_simp; try with_reducible rfl)
                  try simp only [List.getElem_toArray, List.getElem_cons_succ, List.getElem_cons_zero, Act.put, List.setIfInBounds_toArray, List.set_cons_zero, List.set_cons_succ]
                  refine wpAnyH_take (i := 7) (v := ?vkb8) rfl (by kernel_rfl) (by kernel_rfl) (by kernel_rfl) (fun _ _ _ h => h) (Or.inl ⟨by rfl, ?hykb8⟩) (by assumption) ?restkb8
                  case hykb8 => (intro w hSw; (try dsimp only at hSw); go_simp; try with_reducible rfl)
                  try simp only [List.getElem_toArray, List.getElem_cons_succ, List.getElem_cons_zero, Act.put, List.setIfInBounds_toArray, List.set_cons_zero, List.set_cons_succ]
                  refine wpAnyH_take (i := 8) (v := ?vkb9) rfl (by kernel_rfl) (by kernel_rfl) (by kernel_rfl) (fun _ _ _ h => h) (Or.inl ⟨by rfl, ?hykb9⟩) (by assumption) ?restkb9
                  case hykb9 => (intro w hSw; (try dsimp only at hSw); go_simp; try with_reducible rfl)
                  try simp only [List.getElem_toArray, List.getElem_cons_succ, List.getElem_cons_zero, Act.put, List.setIfInBounds_toArray, List.set_cons_zero, List.set_cons_succ]
                  refine wpAnyH_take (i := 9) (v := ?vkb10) rfl (by kernel_rfl) (by kernel_rfl) (by kernel_rfl) (fun _ _ _ h => h) (Or.inl ⟨by rfl, ?hykb10⟩) (by assumption) ?restkb10
                  case hykb10 => (intro w hSw; (try dsimp only at hSw); go_simp; try with_reducible rfl)
                  try simp only [List.getElem_toArray, List.getElem_cons_succ, List.getElem_cons_zero, Act.put, List.setIfInBounds_toArray, List.set_cons_zero, List.set_cons_succ]
                  refine wpAnyH_take (i := 10) (v := ?vkb11) rfl (by kernel_rfl) (by kernel_rfl) (by kernel_rfl) (fun _ _ _ h => h) (Or.inl ⟨by rfl, ?hykb11⟩) (by assumption) ?restkb11
                  case hykb11 => (intro w hSw; (try dsimp only at hSw); go_simp; try with_reducible rfl)
                  try simp only [List.getElem_toArray, List.getElem_cons_succ, List.getElem_cons_zero, Act.put, List.setIfInBounds_toArray, List.set_cons_zero, List.set_cons_succ]
                  refine wpAnyH_take (i := 11) (v := ?vkb12) rfl (by kernel_rfl) (by kernel_rfl) (by kernel_rfl) (fun _ _ _ h => h) (Or.inl ⟨by rfl, ?hykb12⟩) (by assumption) ?restkb12
                  case hykb12 => (intro w hSw; (try dsimp only at hSw); go_simp; try with_reducible rfl)
                  try simp only [List.getElem_toArray, List.getElem_cons_succ, List.getElem_cons_zero, Act.put, List.setIfInBounds_toArray, List.set_cons_zero, List.set_cons_succ]
                  refine wpAnyH_take (i := 12) (v := ?vkb13) rfl (by kernel_rfl) (by kernel_rfl) (by kernel_rfl) (fun _ _ _ h => h) (Or.inl ⟨by rfl, ?hykb13⟩) (by assumption) ?restkb13
                  case hykb13 => (intro w hSw; (try dsimp only at hSw); go_simp; try with_reducible rfl)
                  try simp only [List.getElem_toArray, List.getElem_cons_succ, List.getElem_cons_zero, Act.put, List.setIfInBounds_toArray, List.set_cons_zero, List.set_cons_succ]
                  refine wpAnyH_take (i := 13) (v := ?vkb14) rfl (by kernel_rfl) (by kernel_rfl) (by kernel_rfl) (fun _ _ _ h => h) (Or.inl ⟨by rfl, ?hykb14⟩) (by assumption) ?restkb14
                  case hykb14 => (intro w hSw; (try dsimp only at hSw); go_simp; try with_reducible rfl)
                  try simp only [List.getElem_toArray, List.getElem_cons_succ, List.getElem_cons_zero, Act.put, List.setIfInBounds_toArray, List.set_cons_zero, List.set_cons_succ]
                  refine wpAnyH_take (i := 14) (v := ?vkb15) rfl (by kernel_rfl) (by kernel_rfl) (by kernel_rfl) (fun _ _ _ h => h) (Or.inl ⟨by rfl, ?hykb15⟩) (by assumption) ?restkb15
                  case hykb15 => (intro w hSw; (try dsimp only at hSw); go_simp; try with_reducible rfl)
                  try simp only [List.getElem_toArray, List.getElem_cons_succ, List.getElem_cons_zero, Act.put, List.setIfInBounds_toArray, List.set_cons_zero, List.set_cons_succ]
                  refine wpAnyH_take (i := 15) (v := ?vkb16) rfl (by kernel_rfl) (by kernel_rfl) (by kernel_rfl) (fun _ _ _ h => h) (Or.inl ⟨by rfl, ?hykb16⟩) (by assumption) ?restkb16
                  case hykb16 => (intro w hSw; (try dsimp only at hSw); go_simp; try with_reducible rfl)
                  try simp only [List.getElem_toArray, List.getElem_cons_succ, List.getElem_cons_zero, Act.put, List.setIfInBounds_toArray, List.set_cons_zero, List.set_cons_succ]
                  refine wpAnyH_take (i := 16) (v := ?vkb17) rfl (by kernel_rfl) (by kernel_rfl) (by kernel_rfl) (fun _ _ _ h => h) (Or.inl ⟨by rfl, ?hykb17⟩) (by assumption) ?restkb17
                  case hykb17 => (intro w hSw; (try dsimp only at hSw); go_simp; try with_reducible rfl)
                  try simp only [List.getElem_toArray, List.getElem_cons_succ, List.getElem_cons_zero, Act.put, List.setIfInBounds_toArray, List.set_cons_zero, List.set_cons_succ]
                  refine wpAnyH_take (i := 17) (v := ?vkb18) rfl (by kernel_rfl) (by kernel_rfl) (by kernel_rfl) (fun _ _ _ h => h) (Or.inl ⟨by rfl, ?hykb18⟩) (by assumption) ?restkb18
                  case hykb18 => (intro w hSw; (try dsimp only at hSw); go_simp; try with_reducible rfl)
                  try simp only [List.getElem_toArray, List.getElem_cons_succ, List.getElem_cons_zero, Act.put, List.setIfInBounds_toArray, List.set_cons_zero, List.set_cons_succ]
                  refine wpAnyH_take (i := 18) (v := ?vkb19) rfl (by kernel_rfl) (by kernel_rfl) (by kernel_rfl) (fun _ _ _ h => h) (Or.inl ⟨by rfl, ?hykb19⟩) (by assumption) ?restkb19
                  case hykb19 => (intro w hSw; (try dsimp only at hSw); go_simp; try with_reducible rfl)
                  try simp only [List.getElem_toArray, List.getElem_cons_succ, List.getElem_cons_zero, Act.put, List.setIfInBounds_toArray, List.set_cons_zero, List.set_cons_succ]
                  refine wpAnyH_take (i := 19) (v := ?vkb20) rfl (by kernel_rfl) (by kernel_rfl) (by kernel_rfl) (fun _ _ _ h => h) (Or.inl ⟨by rfl, ?hykb20⟩) (by assumption) ?restkb20
                  case hykb20 => (intro w hSw; (try dsimp only at hSw); go_simp; try with_reducible rfl)
                  try simp only [List.getElem_toArray, List.getElem_cons_succ, List.getElem_cons_zero, Act.put, List.setIfInBounds_toArray, List.set_cons_zero, List.set_cons_succ]
                  refine wpAnyH_take (i := 20) (v := ?vkb21) rfl (by kernel_rfl) (by kernel_rfl) (by kernel_rfl) (fun _ _ _ h => h) (Or.inl ⟨by rfl, ?hykb21⟩) (by assumption) ?restkb21
                  case hykb21 => (intro w hSw; (try dsimp only at hSw); go_simp; try with_reducible rfl)
                  try simp only [List.getElem_toArray, List.getElem_cons_succ, List.getElem_cons_zero, Act.put, List.setIfInBounds_toArray, List.set_cons_zero, List.set_cons_succ]
                  refine wpAnyH_take (i := 21) (v := ?vkb22) rfl (by kernel_rfl) (by kernel_rfl) (by kernel_rfl) (fun _ _ _ h => h) (Or.inl ⟨by rfl, ?hykb22⟩) (by assumption) ?restkb22
                  case hykb22 => (intro w hSw; (try dsimp only at hSw); go_simp; try with_reducible rfl)
                  try simp only [List.getElem_toArray, List.getElem_cons_succ, List.getElem_cons_zero, Act.put, List.setIfInBounds_toArray, List.set_cons_zero, List.set_cons_succ]
                  refine wpAnyH_take (i := 22) (v := ?vkb23) rfl (by kernel_rfl) (by kernel_rfl) (by kernel_rfl) (fun _ _ _ h => h) (Or.inl ⟨by rfl, ?hykb23⟩) (by assumption) ?restkb23
                  case hykb23 => (intro w hSw; (try dsimp only at hSw); go_simp; try with_reducible rfl)
                  try simp only [List.getElem_toArray, List.getElem_cons_succ, List.getElem_cons_zero, Act.put, List.setIfInBounds_toArray, List.set_cons_zero, List.set_cons_succ]
                  refine wpAnyH_take (i := 23) (v := ?vkb24) rfl (by kernel_rfl) (by kernel_rfl) (by kernel_rfl) (fun _ _ _ h => h) (Or.inl ⟨by rfl, ?hykb24⟩) (by assumption) ?restkb24
                  case hykb24 => (intro w hSw; (try dsimp only at hSw); go_simp; try with_reducible rfl)
                  try simp only [List.getElem_toArray, List.getElem_cons_succ, List.getElem_cons_zero, Act.put, List.setIfInBounds_toArray, List.set_cons_zero, List.set_cons_succ]
                  refine wpAnyH_take (i := 24) (v := ?vkb25) rfl (by kernel_rfl) (by kernel_rfl) (by kernel_rfl) (fun _ _ _ h => h) (Or.inl ⟨by rfl, ?hykb25⟩) (by assumption) ?restkb25
                  case hykb25 => (intro w hSw; (try dsimp only at hSw); go_simp; try with_reducible rfl)
                  try simp only [List.getElem_toArray, List.getElem_cons_succ, List.getElem_cons_zero, Act.put, List.setIfInBounds_toArray, List.set_cons_zero, List.set_cons_succ]
                  refine wpAnyH_take (i := 25) (v := undef) rfl (by kernel_rfl) (by kernel_rfl) (by kernel_rfl) (fun _ _ _ h => h) (Or.inr ⟨by rfl, rfl⟩) (by assumption) ?restkb26
                  try simp only [List.getElem_toArray, List.getElem_cons_succ, List.getElem_cons_zero, Act.put, List.setIfInBounds_toArray, List.set_cons_zero, List.set_cons_succ]
                  refine wpAnyH_take (i := 26) (v := undef) rfl (by kernel_rfl) (by kernel_rfl) (by kernel_rfl) (fun _ _ _ h => h) (Or.inr ⟨by rfl, rfl⟩) (by assumption) ?restkb27
                  try simp only [List.getElem_toArray, List.getElem_cons_succ, List.getElem_cons_zero, Act.put, List.setIfInBounds_toArray, List.set_cons_zero, List.set_cons_succ]
                  refine wpAnyH_take (i := 27) (v := undef) rfl (by kernel_rfl) (by kernel_rfl) (by kernel_rfl) (fun _ _ _ h => h) (Or.inr ⟨by rfl, rfl⟩) (by assumption) ?restkb28
                  try simp only [List.getElem_toArray, List.getElem_cons_succ, List.getElem_cons_zero, Act.put, List.setIfInBounds_toArray, List.set_cons_zero, List.set_cons_succ]
                  refine wpAnyH_take (i := 28) (v := undef) rfl (by kernel_rfl) (by kernel_rfl) (by kernel_rfl) (fun _ _ _ h => h) (Or.inr ⟨by rfl, rfl⟩) (by assumption) ?restkb29
                  try simp only [List.getElem_toArray, List.getElem_cons_succ, List.getElem_cons_zero, Act.put, List.setIfInBounds_toArray, List.set_cons_zero, List.set_cons_succ]
                  refine wpAnyH_take (i := 29) (v := undef) rfl (by kernel_rfl) (by kernel_rfl) (by kernel_rfl) (fun _ _ _ h => h) (Or.inr ⟨by rfl, rfl⟩) (by assumption) ?restkb30
                  try simp only [List.getElem_toArray, List.getElem_cons_succ, List.getElem_cons_zero, Act.put, List.setIfInBounds_toArray, List.set_cons_zero, List.set_cons_succ]
                  refine wpAnyH_take (i := 30) (v := ?vkb31) rfl (by kernel_rfl) (by kernel_rfl) (by kernel_rfl) (fun _ _ _ h => h) (Or.inl ⟨by rfl, ?hykb31⟩) (by assumption) ?restkb31
                  case hykb31 => (intro w hSw; (try dsimp only at hSw); go_simp; try with_reducible rfl)
                  try simp only [List.getElem_toArray, List.getElem_cons_succ, List.getElem_cons_zero, Act.put, List.setIfInBounds_toArray, List.set_cons_zero, List.set_cons_succ]
                  refine wpAnyH_done (by kernel_rfl) ?_ _
                  clear hHeld
                  go_wp2_with fail
                  go_roundw
                  case rel => exact ⟨k + 1, by omega, by go_num, HQ.out.drewN 1⟩
                  case measure => simp [intOf]; omega
              case neg =>
                have h1b : ((gg.1 : Int) == mf) = false := by simpa using h1
                clear h1 HTK
                go_upto_region 24 with fail
                refine wp_region_held_drew (S := fun w' => w'.cell? ⟨ob, oo + k, none⟩ = some (.slice (some ⟨eb, eo, none⟩) 2 ed) ∧ w'.cell? ⟨eb, eo, none⟩ = some (.int .i64 (gg.1 : Nat)) ∧ w'.cell? ⟨eb, eo + 1, none⟩ = some (.int .i64 (gg.2 : Nat)) ∧ w'.cell? ⟨qb, 0, none⟩ = some (.slice Ay y.f.length cy) ∧ w'.cell? ⟨qb, 1, none⟩ = some (.slice By y.r.length dy) ∧ w'.cell? ⟨zb, zo + k, none⟩ = some (.int .i64 zk)) (by kernel_rfl) (by exact ⟨hob, he0, he1, hb0, hb1, hzc⟩) (fun hHeld => ?_)
                refine wpAnyH_take (i := 0) (v := ?vkc1) rfl (by kernel_rfl) (by kernel_rfl) (by kernel_rfl) (fun _ _ _ h => h) (Or.inl ⟨by rfl, ?hykc1⟩) (by assumption) ?restkc1
                case hykc1 => (intro w hSw; (try dsimp only at hSw); go_simp; try with_reducible rfl)
                try simp only [List.getElem_toArray, List.getElem_cons_succ, List.getElem_cons_zero, Act.put, List.setIfInBounds_toArray, List.set_cons_zero, List.set_cons_succ]
                refine wpAnyH_take (i := 1) (v := ?vkc2) rfl (by kernel_rfl) (by kernel_rfl) (by kernel_rfl) (fun _ _ _ h => h) (Or.inl ⟨by rfl, ?hykc2⟩) (by assumption) ?restkc2
                case hykc2 => (intro w hSw; (try dsimp only at hSw); go_simp; try with_reducible rfl)
                try simp only [List.getElem_toArray, List.getElem_cons_succ, List.getElem_cons_zero, Act.put, List.setIfInBounds_toArray, List.set_cons_zero, List.set_cons_succ]
                refine wpAnyH_take (i := 2) (v := ?vkc3) rfl (by kernel_rfl) (by kernel_rfl) (by kernel_rfl) (fun _ _ _ h => h) (Or.inl ⟨by rfl, ?hykc3⟩) (by assumption) ?restkc3
                case hykc3 => (intro w hSw; (try dsimp only at hSw); go_simp; try with_reducible rfl)
                try simp only [List.getElem_toArray, List.getElem_cons_succ, List.getElem_cons_zero, Act.put, List.setIfInBounds_toArray, List.set_cons_zero, List.set_cons_succ]
                refine wpAnyH_take (i := 3) (v := ?vkc4) rfl (by kernel_rfl) (by kernel_rfl) (by kernel_rfl) (fun _ _ _ h => h) (Or.inl ⟨by rfl, ?hykc4⟩) (by assumption) ?restkc4
                case hykc4 => (intro w hSw; (try dsimp only at hSw); go_simp; try with_reducible rfl)
                try simp only [List.getElem_toArray, List.getElem_cons_succ, List.getElem_cons_zero, Act.put, List.setIfInBounds_toArray, List.set_cons_zero, List.set_cons_succ]
                refine wpAnyH_take (i := 4) (v := ?vkc5) rfl (by kernel_rfl) (by kernel_rfl) (by kernel_rfl) (fun _ _ _ h => h) (Or.inl ⟨by rfl, ?hykc5⟩) (by assumption) ?restkc5
                case hykc5 => (intro w hSw; (try dsimp only at hSw); go_simp; try with_reducible rfl)
                try simp only [List.getElem_toArray, List.getElem_cons_succ, List.getElem_cons_zero, Act.put, List.setIfInBounds_toArray, List.set_cons_zero, List.set_cons_succ]
                refine wpAnyH_take (i := 5) (v := ?vkc6) rfl (by kernel_rfl) (by kernel_rfl) (by kernel_rfl) (fun _ _ _ h => h) (Or.inl ⟨by rfl, ?hykc6⟩) (by assumption) ?restkc6
                case hykc6 => (intro w hSw; (try dsimp only at hSw); go_simp; try with_reducible rfl)
                try simp only [List.getElem_toArray, List.getElem_cons_succ, List.getElem_cons_zero, Act.put, List.setIfInBounds_toArray, List.set_cons_zero, List.set_cons_succ]
                refine wpAnyH_take (i := 6) (v := ?vkc7) rfl (by kernel_rfl) (by kernel_rfl) (by kernel_rfl) (fun _ _ _ h => h) (Or.inl ⟨by rfl, ?hykc7⟩) (by assumption) ?restkc7
                case hykc7 => (intro w hSw; (try dsimp only at hSw); go_simp; try with_reducible rfl)
                try simp only [List.getElem_toArray, List.getElem_cons_succ, List.getElem_cons_zero, Act.put, List.setIfInBounds_toArray, List.set_cons_zero, List.set_cons_succ]
                refine wpAnyH_take (i := 7) (v := ?vkc8) rfl (by kernel_rfl) (by kernel_rfl) (by kernel_rfl) (fun _ _ _ h => h) (Or.inl ⟨by rfl, ?hykc8⟩) (by assumption) ?restkc8
                case hykc8 => (intro w hSw; (try dsimp only at hSw); go_simp; try with_reducible rfl)
                try simp only [List.getElem_toArray, List.getElem_cons_succ, List.getElem_cons_zero, Act.put, List.setIfInBounds_toArray, List.set_cons_zero, List.set_cons_succ]
                refine wpAnyH_take (i := 8) (v := ?vkc9) rfl (by kernel_rfl) (by kernel_rfl) (by kernel_rfl) (fun _ _ _ h => h) (Or.inl ⟨by rfl, ?hykc9⟩) (by assumption) ?restkc9
                case hykc9 => (intro w hSw; (try dsimp only at hSw); go_simp; try with_reducible rfl)
                try simp only [List.getElem_toArray, List.getElem_cons_succ, List.getElem_cons_zero, Act.put, List.setIfInBounds_toArray, List.set_cons_zero, List.set_cons_succ]
                refine wpAnyH_take (i := 9) (v := ?vkc10) rfl (by kernel_rfl) (by kernel_rfl) (by kernel_rfl) (fun _ _ _ h => h) (Or.inl ⟨by rfl, ?hykc10⟩) (by assumption) ?restkc10
                case hykc10 => (intro w hSw; (try dsimp only at hSw); go_simp; try with_reducible rfl)
                try simp only [List.getElem_toArray, List.getElem_cons_succ, List.getElem_cons_zero, Act.put, List.setIfInBounds_toArray, List.set_cons_zero, List.set_cons_succ]
                refine wpAnyH_take (i := 10) (v := ?vkc11) rfl (by kernel_rfl) (by kernel_rfl) (by kernel_rfl) (fun _ _ _ h => h) (Or.inl ⟨by rfl, ?hykc11⟩) (by assumption) ?restkc11
                case hykc11 => (intro w hSw; (try dsimp only at hSw); go_simp; try with_reducible rfl)
                try simp only [List.getElem_toArray, List.getElem_cons_succ, List.getElem_cons_zero, Act.put, List.setIfInBounds_toArray, List.set_cons_zero, List.set_cons_succ]
                refine wpAnyH_take (i := 11) (v := ?vkc12) rfl (by kernel_rfl) (by kernel_rfl) (by kernel_rfl) (fun _ _ _ h => h) (Or.inl ⟨by rfl, ?hykc12⟩) (by assumption) ?restkc12
                case hykc12 => (intro w hSw; (try dsimp only at hSw); go_simp; try with_reducible rfl)
                try simp only [List.getElem_toArray, List.getElem_cons_succ, List.getElem_cons_zero, Act.put, List.setIfInBounds_toArray, List.set_cons_zero, List.set_cons_succ]
                refine wpAnyH_take (i := 12) (v := undef) rfl (by kernel_rfl) (by kernel_rfl) (by kernel_rfl) (fun _ _ _ h => h) (Or.inr ⟨by rfl, rfl⟩) (by assumption) ?restkc13
                try simp only [List.getElem_toArray, List.getElem_cons_succ, List.getElem_cons_zero, Act.put, List.setIfInBounds_toArray, List.set_cons_zero, List.set_cons_succ]
                refine wpAnyH_take (i := 13) (v := undef) rfl (by kernel_rfl) (by kernel_rfl) (by kernel_rfl) (fun _ _ _ h => h) (Or.inr ⟨by rfl, rfl⟩) (by assumption) ?restkc14
                try simp only [List.getElem_toArray, List.getElem_cons_succ, List.getElem_cons_zero, Act.put, List.setIfInBounds_toArray, List.set_cons_zero, List.set_cons_succ]
                refine wpAnyH_take (i := 14) (v := undef) rfl (by kernel_rfl) (by kernel_rfl) (by kernel_rfl) (fun _ _ _ h => h) (Or.inr ⟨by rfl, rfl⟩) (by assumption) ?restkc15
                try simp only [List.getElem_toArray, List.getElem_cons_succ, List.getElem_cons_zero, Act.put, List.setIfInBounds_toArray, List.set_cons_zero, List.set_cons_succ]
                refine wpAnyH_take (i := 15) (v := undef) rfl (by kernel_rfl) (by kernel_rfl) (by kernel_rfl) (fun _ _ _ h => h) (Or.inr ⟨by rfl, rfl⟩) (by assumption) ?restkc16
                try simp only [List.getElem_toArray, List.getElem_cons_succ, List.getElem_cons_zero, Act.put, List.setIfInBounds_toArray, List.set_cons_zero, List.set_cons_succ]
                refine wpAnyH_take (i := 16) (v := undef) rfl (by kernel_rfl) (by kernel_rfl) (by kernel_rfl) (fun _ _ _ h => h) (Or.inr ⟨by rfl, rfl⟩) (by assumption) ?restkc17
                try simp only [List.getElem_toArray, List.getElem_cons_succ, List.getElem_cons_zero, Act.put, List.setIfInBounds_toArray, List.set_cons_zero, List.set_cons_succ]
                refine wpAnyH_take (i := 17) (v := undef) rfl (by kernel_rfl) (by kernel_rfl) (by kernel_rfl) (fun _ _ _ h => h) (Or.inr ⟨by rfl, rfl⟩) (by assumption) ?restkc18
                try simp only [List.getElem_toArray, List.getElem_cons_succ, List.getElem_cons_zero, Act.put, List.setIfInBounds_toArray, List.set_cons_zero, List.set_cons_succ]
                refine wpAnyH_take (i := 18) (v := undef) rfl (by kernel_rfl) (by kernel_rfl) (by kernel_rfl) (fun _ _ _ h => h) (Or.inr ⟨by rfl, rfl⟩) (by assumption) ?restkc19
                try simp only [List.getElem_toArray, List.getElem_cons_succ, List.getElem_cons_zero, Act.put, List.setIfInBounds_toArray, List.set_cons_zero, List.set_cons_succ]
                refine wpAnyH_take (i := 19) (v := undef) rfl (by kernel_rfl) (by kernel_rfl) (by kernel_rfl) (fun _ _ _ h => h) (Or.inr ⟨by rfl, rfl⟩) (by assumption) ?restkc20
                try simp only [List.getElem_toArray, List.getElem_cons_succ, List.getElem_cons_zero, Act.put, List.setIfInBounds_toArray, List.set_cons_zero, List.set_cons_succ]
                refine wpAnyH_take (i := 20) (v := undef) rfl (by kernel_rfl) (by kernel_rfl) (by kernel_rfl) (fun _ _ _ h => h) (Or.inr ⟨by rfl, rfl⟩) (by assumption) ?restkc21
                try simp only [List.getElem_toArray, List.getElem_cons_succ, List.getElem_cons_zero, Act.put, List.setIfInBounds_toArray, List.set_cons_zero, List.set_cons_succ]
                refine wpAnyH_take (i := 21) (v := undef) rfl (by kernel_rfl) (by kernel_rfl) (by kernel_rfl) (fun _ _ _ h => h) (Or.inr ⟨by rfl, rfl⟩) (by assumption) ?restkc22
                try simp only [List.getElem_toArray, List.getElem_cons_succ, List.getElem_cons_zero, Act.put, List.setIfInBounds_toArray, List.set_cons_zero, List.set_cons_succ]
                refine wpAnyH_take (i := 22) (v := undef) rfl (by kernel_rfl) (by kernel_rfl) (by kernel_rfl) (fun _ _ _ h => h) (Or.inr ⟨by rfl, rfl⟩) (by assumption) ?restkc23
                try simp only [List.getElem_toArray, List.getElem_cons_succ, List.getElem_cons_zero, Act.put, List.setIfInBounds_toArray, List.set_cons_zero, List.set_cons_succ]
                refine wpAnyH_take (i := 23) (v := ?vkc24) rfl (by kernel_rfl) (by kernel_rfl) (by kernel_rfl) (fun _ _ _ h => h) (Or.inl ⟨by rfl, ?hykc24⟩) (by assumption) ?restkc24
                case hykc24 => (intro w hSw; (try dsimp only at hSw); go_simp; try with_reducible rfl)
                try simp only [List.getElem_toArray, List.getElem_cons_succ, List.getElem_cons_zero, Act.put, List.setIfInBounds_toArray, List.set_cons_zero, List.set_cons_succ]
                refine wpAnyH_take (i := 24) (v := ?vkc25) rfl (by kernel_rfl) (by kernel_rfl) (by kernel_rfl) (fun _ _ _ h => h) (Or.inl ⟨by rfl, ?hykc25⟩) (by assumption) ?restkc25
                case hykc25 => (intro w hSw; (try dsimp only at hSw); go_simp; try with_reducible rfl)
                try simp only [List.getElem_toArray, List.getElem_cons_succ, List.getElem_cons_zero, Act.put, List.setIfInBounds_toArray, List.set_cons_zero, List.set_cons_succ]
                refine wpAnyH_take (i := 25) (v := undef) rfl (by kernel_rfl) (by kernel_rfl) (by kernel_rfl) (fun _ _ _ h => h) (Or.inr ⟨by rfl, rfl⟩) (by assumption) ?restkc26
                try simp only [List.getElem_toArray, List.getElem_cons_succ, List.getElem_cons_zero, Act.put, List.setIfInBounds_toArray, List.set_cons_zero, List.set_cons_succ]
                refine wpAnyH_take (i := 26) (v := undef) rfl (by kernel_rfl) (by kernel_rfl) (by kernel_rfl) (fun _ _ _ h => h) (Or.inr ⟨by rfl, rfl⟩) (by assumption) ?restkc27
                try simp only [List.getElem_toArray, List.getElem_cons_succ, List.getElem_cons_zero, Act.put, List.setIfInBounds_toArray, List.set_cons_zero, List.set_cons_succ]
                refine wpAnyH_take (i := 27) (v := undef) rfl (by kernel_rfl) (by kernel_rfl) (by kernel_rfl) (fun _ _ _ h => h) (Or.inr ⟨by rfl, rfl⟩) (by assumption) ?restkc28
                try simp only [List.getElem_toArray, List.getElem_cons_succ, List.getElem_cons_zero, Act.put, List.setIfInBounds_toArray, List.set_cons_zero, List.set_cons_succ]
                refine wpAnyH_take (i := 28) (v := undef) rfl (by kernel_rfl) (by kernel_rfl) (by kernel_rfl) (fun _ _ _ h => h) (Or.inr ⟨by rfl, rfl⟩) (by assumption) ?restkc29
                try simp only [List.getElem_toArray, List.getElem_cons_succ, List.getElem_cons_zero, Act.put, List.setIfInBounds_toArray, List.set_cons_zero, List.set_cons_succ]
                refine wpAnyH_take (i := 29) (v := undef) rfl (by kernel_rfl) (by kernel_rfl) (by kernel_rfl) (fun _ _ _ h => h) (Or.inr ⟨by rfl, rfl⟩) (by assumption) ?restkc30
                try simp only [List.getElem_toArray, List.getElem_cons_succ, List.getElem_cons_zero, Act.put, List.setIfInBounds_toArray, List.set_cons_zero, List.set_cons_succ]
                refine wpAnyH_take (i := 30) (v := ?vkc31) rfl (by kernel_rfl) (by kernel_rfl) (by kernel_rfl) (fun _ _ _ h => h) (Or.inl ⟨by rfl, ?hykc31⟩) (by assumption) ?restkc31
                case hykc31 => (intro w hSw; (try dsimp only at hSw); go_simp; try with_reducible rfl)
                try simp only [List.getElem_toArray, List.getElem_cons_succ, List.getElem_cons_zero, Act.put, List.setIfInBounds_toArray, List.set_cons_zero, List.set_cons_succ]
                refine wpAnyH_done (by kernel_rfl) ?_ _
                clear hHeld
                go_wp2_with fail
                go_roundw
                case rel => exact ⟨k + 1, by omega, by go_num, HQ.out.drewN 1⟩
                case measure => simp [intOf]; omega
            case neg =>
              obtain rfl : k = L.length := by omega
              have HW := Go.Lib.hid (HW.out.trans (hw.below.mono HW.out.size))
              have HXa := Go.Lib.hid (HXa.out.below hw.below)
              have HTa := Go.Lib.hid (HTa.out.below hw.below)
              have HLs := Go.Lib.hid (HLs.out.eqw hw)
              clear hw
              go_wp2_with fail
              go_meet
              exact ⟨HW.out, HXa.out, HTa.out, HLs.out⟩
        case neg =>
          have hvb : (v == 0) = false := by simpa using hv
          go_wp2_with fail
          go_meet
          exact ⟨HW.out, HXa.out, HTa.out, HLs.out⟩
    case rest =>
      obtain ⟨hw1, hw2, hw3, hw4⟩ := hcut
      have HW := Go.Lib.hid hw1
      have HXa := Go.Lib.hid hw2
      have HTa := Go.Lib.hid hw3
      have HLs := Go.Lib.hid hw4
      clear hw1 hw2 hw3 hw4
      go_upto_block 2 with fail
      go_cut [] (fun wx => Below w.heap.size w wx ∧ Box wx qa (trainC x Ax cx Bx dx) ∧ TrL x Ax cx Bx dx wx ∧ Ls ss As cs wx)
      case first =>
        as_aux_lemma =>
          go_wp2_with fail
          go_loopw [33] (fun i wr => ∃ k : Nat, k ≤ ss.length ∧ i = .int .i64 k ∧ Below wc.heap.size wc wr) (fun i _ => ss.length - (intOf i).toNat)
          case atStart => exact ⟨0, Nat.zero_le _, rfl, Below.refl _ _⟩
          case round =>
            obtain ⟨k, hk, rfl, hw⟩ := hrel
            have HQ := Go.Lib.hid hw
            have HW := Go.Lib.hid (HW.out.trans (hw.mono HW.out.size))
            have HXa := Go.Lib.hid (HXa.out.below hw)
            have HTa := Go.Lib.hid (HTa.out.below hw)
            have HLs := Go.Lib.hid (HLs.out.below hw)
            clear hw
            by_cases hp : p = 0
            case neg =>
              have hpb : (p == 0) = false := by simpa using hp
              go_wp2_with fail
              go_meet
              exact ⟨HW.out, HXa.out, HTa.out, HLs.out⟩
            case pos =>
              subst hp
              by_cases hlk : lk < 200
              case neg =>
                go_wp2_with fail
                go_meet
                exact ⟨HW.out, HXa.out, HTa.out, HLs.out⟩
              case pos =>
                by_cases hlt : k < ss.length
                case neg =>
                  have hnl : ¬ (k : Int) < ss.length := by omega
                  go_wp2_with fail
                  go_meet
                  exact ⟨HW.out, HXa.out, HTa.out, HLs.out⟩
                case pos =>
                  have hkl : (k : Int) < ss.length := by omega
                  obtain ⟨l40, mo, hmo, hml, hmk⟩ := HMO.out rfl hlk
                  obtain ⟨⟨b0, b1⟩, hmv⟩ := hmk k hlt
                  have HMD := Go.Lib.hid (HSM.out (lk + 2))
                  rw [hmo] at HMD
                  have HML := Go.Lib.hid hml
                  have hm36 : mo.length ≤ 36 := by omega
                  have ew : IntKind.i64.wrap (lk + 2) = lk + 2 := IntWalk.i64_in _ (by omega)
                  have HMV := Go.Lib.hid hmv
                  clear hmo hml hmk hmv
                  have ha0 : wr.cell? ⟨qa, 0, none⟩ = some (.slice Ax x.f.length cx) := HXa.out.at_ 0 _ rfl
                  have ha1 : wr.cell? ⟨qa, 1, none⟩ = some (.slice Bx x.r.length dx) := HXa.out.at_ 1 _ rfl
                  have ha2 : wr.cell? ⟨qa, 2, none⟩ = some (.int .i64 x.n) := HXa.out.at_ 2 _ rfl
                  go_wp2_with fail
                  refine (HMD.out _ HTa.out).mono ?_
                  rintro _ wm ⟨Am, cm, rfl, om, bm⟩
                  try dsimp only at om
                  clear ha0 ha1 ha2
                  have HXa := Go.Lib.hid (HXa.out.below bm)
                  have HTa := Go.Lib.hid (HTa.out.below bm)
                  have HLs := Go.Lib.hid (HLs.out.below bm)
                  have HW := Go.Lib.hid (HW.out.trans (bm.mono HW.out.size))
                  have HLm := Go.Lib.hid (lst0 om (by omega))
                  have HQ := Go.Lib.hid (HQ.out.trans (bm.mono HQ.out.size))
                  clear om bm
                  rw [HML.out]
                  obtain ⟨sb, so, hAs, -, sc⟩ := HLs.out.at_ (k := k) hlt
                  obtain ⟨mb, mm, hAm, -, mc⟩ := HLm.out.at_ (k := k) (by rw [HML.out]; exact hlt)
                  have hsc := sc k hlt
                  have hmc := mc k (by rw [HML.out]; exact hlt)
                  generalize ss.getD k 0 = sk at *
                  generalize mo.getD k 0 = mk at *
                  subst hAs
                  subst hAm
                  have hqq : ((ss.length : Int) != (ss.length : Int)) = false := by simp
                  have e2 : IntKind.i64.wrap (sk + 2000) = sk + 2000 := IntWalk.i64_in _ (by omega)
                  clear sc mc
                  have HBE := Go.Lib.hid (fun m => below_drewN HQ.out m)
                  by_cases h0 : 0 ≤ sk
                  case pos =>
                    have hmq := HMV.out h0
                    subst hmq
                    have hqm : ((sk + 2000) != (sk + 2000)) = false := by simp
                    clear b0 b1
                    go_upto_region 30 with fail
                    refine wp_region_held_drew (S := fun w' => w'.cell? ⟨sb, so + k, none⟩ = some (.int .i64 sk) ∧ w'.cell? ⟨mb, mm + k, none⟩ = some (.int .i64 (sk + 2000))) (by kernel_rfl) (by exact ⟨hsc, hmc⟩) (fun hHeld => ?_)
                    refine wpAnyH_take (i := 0) (v := ?vkd1) rfl (by kernel_rfl) (by kernel_rfl) (by kernel_rfl) (fun _ _ _ h => h) (Or.inl ⟨by rfl, ?hykd1⟩) (by assumption) ?restkd1
                    case hykd1 => (intro w hSw; (try dsimp only at hSw); go_simp; try with_reducible rfl)
                    try simp only [List.getElem_toArray, List.getElem_cons_succ, List.getElem_cons_zero, Act.put, List.setIfInBounds_toArray, List.set_cons_zero, List.set_cons_succ]
                    refine wpAnyH_take (i := 1) (v := ?vkd2) rfl (by kernel_rfl) (by kernel_rfl) (by kernel_rfl) (fun _ _ _ h => h) (Or.inl ⟨by rfl, ?hykd2⟩) (by assumption) ?restkd2
                    case hykd2 => (intro w hSw; (try dsimp only at hSw); go_simp; try with_reducible rfl)
                    try simp only [List.getElem_toArray, List.getElem_cons_succ, List.getElem_cons_zero, Act.put, List.setIfInBounds_toArray, List.set_cons_zero, List.set_cons_succ]
                    refine wpAnyH_take (i := 2) (v := ?vkd3) rfl (by kernel_rfl) (by kernel_rfl) (by kernel_rfl) (fun _ _ _ h => h) (Or.inl ⟨by rfl, ?hykd3⟩) (by assumption) ?restkd3
                    case hykd3 => (intro w hSw; (try dsimp only at hSw); go_simp; try with_reducible rfl)
                    try simp only [List.getElem_toArray, List.getElem_cons_succ, List.getElem_cons_zero, Act.put, List.setIfInBounds_toArray, List.set_cons_zero, List.set_cons_succ]
                    refine wpAnyH_take (i := 3) (v := ?vkd4) rfl (by kernel_rfl) (by kernel_rfl) (by kernel_rfl) (fun _ _ _ h => h) (Or.inl ⟨by rfl, ?hykd4⟩) (by assumption) ?restkd4
                    case hykd4 => (intro w hSw; (try dsimp only at hSw); go_simp; try with_reducible rfl)
                    try simp only [List.getElem_toArray, List.getElem_cons_succ, List.getElem_cons_zero, Act.put, List.setIfInBounds_toArray, List.set_cons_zero, List.set_cons_succ]
                    refine wpAnyH_take (i := 4) (v := ?vkd5) rfl (by kernel_rfl) (by kernel_rfl) (by kernel_rfl) (fun _ _ _ h => h) (Or.inl ⟨by rfl, ?hykd5⟩) (by assumption) ?restkd5
                    case hykd5 => (intro w hSw; (try dsimp only at hSw); go_simp; try with_reducible rfl)
                    try simp only [List.getElem_toArray, List.getElem_cons_succ, List.getElem_cons_zero, Act.put, List.setIfInBounds_toArray, List.set_cons_zero, List.set_cons_succ]
                    refine wpAnyH_take (i := 5) (v := ?vkd6) rfl (by kernel_rfl) (by kernel_rfl) (by kernel_rfl) (fun _ _ _ h => h) (Or.inl ⟨by rfl, ?hykd6⟩) (by assumption) ?restkd6
                    case hykd6 => (intro w hSw; (try dsimp only at hSw); go_simp; try with_reducible rfl)
                    try simp only [List.getElem_toArray, List.getElem_cons_succ, List.getElem_cons_zero, Act.put, List.setIfInBounds_toArray, List.set_cons_zero, List.set_cons_succ]
                    refine wpAnyH_take (i := 6) (v := ?vkd7) rfl (by kernel_rfl) (by kernel_rfl) (by kernel_rfl) (fun _ _ _ h => h) (Or.inl ⟨by rfl, ?hykd7⟩) (by assumption) ?restkd7
                    case hykd7 => (intro w hSw; (try dsimp only at hSw); go_simp; try with_reducible rfl)
                    try simp only [List.getElem_toArray, List.getElem_cons_succ, List.getElem_cons_zero, Act.put, List.setIfInBounds_toArray, List.set_cons_zero, List.set_cons_succ]
                    refine wpAnyH_take (i := 7) (v := ?vkd8) rfl (by kernel_rfl) (by kernel_rfl) (by kernel_rfl) (fun _ _ _ h => h) (Or.inl ⟨by rfl, ?hykd8⟩) (by assumption) ?restkd8
                    case hykd8 => (intro w hSw; (try dsimp only at hSw); go_simp; try with_reducible rfl)
                    try simp only [List.getElem_toArray, List.getElem_cons_succ, List.getElem_cons_zero, Act.put, List.setIfInBounds_toArray, List.set_cons_zero, List.set_cons_succ]
                    refine wpAnyH_take (i := 8) (v := ?vkd9) rfl (by kernel_rfl) (by kernel_rfl) (by kernel_rfl) (fun _ _ _ h => h) (Or.inl ⟨by rfl, ?hykd9⟩) (by assumption) ?restkd9
                    case hykd9 => (intro w hSw; (try dsimp only at hSw); go_simp; try with_reducible rfl)
                    try simp only [List.getElem_toArray, List.getElem_cons_succ, List.getElem_cons_zero, Act.put, List.setIfInBounds_toArray, List.set_cons_zero, List.set_cons_succ]
                    refine wpAnyH_take (i := 9) (v := ?vkd10) rfl (by kernel_rfl) (by kernel_rfl) (by kernel_rfl) (fun _ _ _ h => h) (Or.inl ⟨by rfl, ?hykd10⟩) (by assumption) ?restkd10
                    case hykd10 => (intro w hSw; (try dsimp only at hSw); go_simp; try with_reducible rfl)
                    try simp only [List.getElem_toArray, List.getElem_cons_succ, List.getElem_cons_zero, Act.put, List.setIfInBounds_toArray, List.set_cons_zero, List.set_cons_succ]
                    refine wpAnyH_take (i := 10) (v := ?vkd11) rfl (by kernel_rfl) (by kernel_rfl) (by kernel_rfl) (fun _ _ _ h => h) (Or.inl ⟨by rfl, ?hykd11⟩) (by assumption) ?restkd11
                    case hykd11 => (intro w hSw; (try dsimp only at hSw); go_simp; try with_reducible rfl)
                    try simp only [List.getElem_toArray, List.getElem_cons_succ, List.getElem_cons_zero, Act.put, List.setIfInBounds_toArray, List.set_cons_zero, List.set_cons_succ]
                    refine wpAnyH_take (i := 11) (v := ?vkd12) rfl (by kernel_rfl) (by kernel_rfl) (by kernel_rfl) (fun _ _ _ h => h) (Or.inl ⟨by rfl, ?hykd12⟩) (by assumption) ?restkd12
                    case hykd12 => (intro w hSw; (try dsimp only at hSw); go_simp; try with_reducible rfl)
                    try simp only [List.getElem_toArray, List.getElem_cons_succ, List.getElem_cons_zero, Act.put, List.setIfInBounds_toArray, List.set_cons_zero, List.set_cons_succ]
                    refine wpAnyH_take (i := 12) (v := ?vkd13) rfl (by kernel_rfl) (by kernel_rfl) (by kernel_rfl) (fun _ _ _ h => h) (Or.inl ⟨by rfl, ?hykd13⟩) (by assumption) ?restkd13
                    case hykd13 => (intro w hSw; (try dsimp only at hSw); go_simp; try with_reducible rfl)
                    try simp only [List.getElem_toArray, List.getElem_cons_succ, List.getElem_cons_zero, Act.put, List.setIfInBounds_toArray, List.set_cons_zero, List.set_cons_succ]
                    refine wpAnyH_take (i := 13) (v := ?vkd14) rfl (by kernel_rfl) (by kernel_rfl) (by kernel_rfl) (fun _ _ _ h => h) (Or.inl ⟨by rfl, ?hykd14⟩) (by assumption) ?restkd14
                    case hykd14 => (intro w hSw; (try dsimp only at hSw); go_simp; try with_reducible rfl)
                    try simp only [List.getElem_toArray, List.getElem_cons_succ, List.getElem_cons_zero, Act.put, List.setIfInBounds_toArray, List.set_cons_zero, List.set_cons_succ]
                    refine wpAnyH_take (i := 14) (v := ?vkd15) rfl (by kernel_rfl) (by kernel_rfl) (by kernel_rfl) (fun _ _ _ h => h) (Or.inl ⟨by rfl, ?hykd15⟩) (by assumption) ?restkd15
                    case hykd15 => (intro w hSw; (try dsimp only at hSw); go_simp; try with_reducible rfl)
                    try simp only [List.getElem_toArray, List.getElem_cons_succ, List.getElem_cons_zero, Act.put, List.setIfInBounds_toArray, List.set_cons_zero, List.set_cons_succ]
                    refine wpAnyH_take (i := 15) (v := ?vkd16) rfl (by kernel_rfl) (by kernel_rfl) (by kernel_rfl) (fun _ _ _ h => h) (Or.inl ⟨by rfl, ?hykd16⟩) (by assumption) ?restkd16
                    case hykd16 => (intro w hSw; (try dsimp only at hSw); go_simp; try with_reducible rfl)
                    try simp only [List.getElem_toArray, List.getElem_cons_succ, List.getElem_cons_zero, Act.put, List.setIfInBounds_toArray, List.set_cons_zero, List.set_cons_succ]
                    refine wpAnyH_take (i := 16) (v := ?vkd17) rfl (by kernel_rfl) (by kernel_rfl) (by kernel_rfl) (fun _ _ _ h => h) (Or.inl ⟨by rfl, ?hykd17⟩) (by assumption) ?restkd17
                    case hykd17 => (intro w hSw; (try dsimp only at hSw); go_simp; try with_reducible rfl)
                    try simp only [List.getElem_toArray, List.getElem_cons_succ, List.getElem_cons_zero, Act.put, List.setIfInBounds_toArray, List.set_cons_zero, List.set_cons_succ]
                    refine wpAnyH_take (i := 17) (v := ?vkd18) rfl (by kernel_rfl) (by kernel_rfl) (by kernel_rfl) (fun _ _ _ h => h) (Or.inl ⟨by rfl, ?hykd18⟩) (by assumption) ?restkd18
                    case hykd18 => (intro w hSw; (try dsimp only at hSw); go_simp; try with_reducible rfl)
                    try simp only [List.getElem_toArray, List.getElem_cons_succ, List.getElem_cons_zero, Act.put, List.setIfInBounds_toArray, List.set_cons_zero, List.set_cons_succ]
                    refine wpAnyH_take (i := 18) (v := ?vkd19) rfl (by kernel_rfl) (by kernel_rfl) (by kernel_rfl) (fun _ _ _ h => h) (Or.inl ⟨by rfl, ?hykd19⟩) (by assumption) ?restkd19
                    case hykd19 => (intro w hSw; (try dsimp only at hSw); go_simp; try with_reducible rfl)
                    try simp only [List.getElem_toArray, List.getElem_cons_succ, List.getElem_cons_zero, Act.put, List.setIfInBounds_toArray, List.set_cons_zero, List.set_cons_succ]
                    refine wpAnyH_take (i := 19) (v := ?vkd20) rfl (by kernel_rfl) (by kernel_rfl) (by kernel_rfl) (fun _ _ _ h => h) (Or.inl ⟨by rfl, ?hykd20⟩) (by assumption) ?restkd20
                    case hykd20 => (intro w hSw; (try dsimp only at hSw); go_simp; try with_reducible rfl)
                    try simp only [List.getElem_toArray, List.getElem_cons_succ, List.getElem_cons_zero, Act.put, List.setIfInBounds_toArray, List.set_cons_zero, List.set_cons_succ]
                    refine wpAnyH_take (i := 20) (v := ?vkd21) rfl (by kernel_rfl) (by kernel_rfl) (by kernel_rfl) (fun _ _ _ h => h) (Or.inl ⟨by rfl, ?hykd21⟩) (by assumption) ?restkd21
                    case hykd21 => (intro w hSw; (try dsimp only at hSw); go_simp; try with_reducible rfl)
                    try simp only [List.getElem_toArray, List.getElem_cons_succ, List.getElem_cons_zero, Act.put, List.setIfInBounds_toArray, List.set_cons_zero, List.set_cons_succ]
                    refine wpAnyH_take (i := 21) (v := ?vkd22) rfl (by kernel_rfl) (by kernel_rfl) (by kernel_rfl) (fun _ _ _ h => h) (Or.inl ⟨by rfl, ?hykd22⟩) (by assumption) ?restkd22
                    case hykd22 => (intro w hSw; (try dsimp only at hSw); go_simp; try with_reducible rfl)
                    try simp only [List.getElem_toArray, List.getElem_cons_succ, List.getElem_cons_zero, Act.put, List.setIfInBounds_toArray, List.set_cons_zero, List.set_cons_succ]
                    refine wpAnyH_take (i := 22) (v := ?vkd23) rfl (by kernel_rfl) (by kernel_rfl) (by kernel_rfl) (fun _ _ _ h => h) (Or.inl ⟨by rfl, ?hykd23⟩) (by assumption) ?restkd23
                    case hykd23 => (intro w hSw; (try dsimp only at hSw); go_simp; try with_reducible rfl)
                    try simp only [List.getElem_toArray, List.getElem_cons_succ, List.getElem_cons_zero, Act.put, List.setIfInBounds_toArray, List.set_cons_zero, List.set_cons_succ]
                    refine wpAnyH_take (i := 23) (v := ?vkd24) rfl (by kernel_rfl) (by kernel_rfl) (by kernel_rfl) (fun _ _ _ h => h) (Or.inl ⟨by rfl, ?hykd24⟩) (by assumption) ?restkd24
                    case hykd24 => (intro w hSw; (try dsimp only at hSw); go_simp; try with_reducible rfl)
                    try simp only [List.getElem_toArray, List.getElem_cons_succ, List.getElem_cons_zero, Act.put, List.setIfInBounds_toArray, List.set_cons_zero, List.set_cons_succ]
                    refine wpAnyH_take (i := 24) (v := ?vkd25) rfl (by kernel_rfl) (by kernel_rfl) (by kernel_rfl) (fun _ _ _ h => h) (Or.inl ⟨by rfl, ?hykd25⟩) (by assumption) ?restkd25
                    case hykd25 => (intro w hSw; (try dsimp only at hSw); go_simp; try with_reducible rfl)
                    try simp only [List.getElem_toArray, List.getElem_cons_succ, List.getElem_cons_zero, Act.put, List.setIfInBounds_toArray, List.set_cons_zero, List.set_cons_succ]
                    refine wpAnyH_take (i := 25) (v := ?vkd26) rfl (by kernel_rfl) (by kernel_rfl) (by kernel_rfl) (fun _ _ _ h => h) (Or.inl ⟨by rfl, ?hykd26⟩) (by assumption) ?restkd26
                    case hykd26 => (intro w hSw; (try dsimp only at hSw); go_simp; try with_reducible rfl)
                    try simp only [List.getElem_toArray, List.getElem_cons_succ, List.getElem_cons_zero, Act.put, List.setIfInBounds_toArray, List.set_cons_zero, List.set_cons_succ]
                    refine wpAnyH_take (i := 26) (v := ?vkd27) rfl (by kernel_rfl) (by kernel_rfl) (by kernel_rfl) (fun _ _ _ h => h) (Or.inl ⟨by rfl, ?hykd27⟩) (by assumption) ?restkd27
                    case hykd27 => (intro w hSw; (try dsimp only at hSw); go_simp; try with_reducible rfl)
                    try simp only [List.getElem_toArray, List.getElem_cons_succ, List.getElem_cons_zero, Act.put, List.setIfInBounds_toArray, List.set_cons_zero, List.set_cons_succ]
                    refine wpAnyH_take (i := 27) (v := ?vkd28) rfl (by kernel_rfl) (by kernel_rfl) (by kernel_rfl) (fun _ _ _ h => h) (Or.inl ⟨by rfl, ?hykd28⟩) (by assumption) ?restkd28
                    case hykd28 => (intro w hSw; (try dsimp only at hSw); go_simp; try with_reducible rfl)
                    try simp only [List.getElem_toArray, List.getElem_cons_succ, List.getElem_cons_zero, Act.put, List.setIfInBounds_toArray, List.set_cons_zero, List.set_cons_succ]
                    refine wpAnyH_done (by kernel_rfl) ?_ _
                    clear hHeld
                    go_wp2_with fail
                    go_roundw
                    case rel => exact ⟨k + 1, by omega, by go_num, HBE.out 1⟩
                    case measure => simp [intOf]; omega
                  case neg =>
                    have hF : (0 ≤ sk) = False := eq_false h0
                    have h0b : decide (0 ≤ sk) = false := decide_eq_false h0
                    clear b0 b1 h0
                    go_upto_region 30 with fail
                    refine wp_region_held_drew (S := fun w' => w'.cell? ⟨sb, so + k, none⟩ = some (.int .i64 sk) ∧ w'.cell? ⟨mb, mm + k, none⟩ = some (.int .i64 mk)) (by kernel_rfl) (by exact ⟨hsc, hmc⟩) (fun hHeld => ?_)
                    refine wpAnyH_take (i := 0) (v := ?vke1) rfl (by kernel_rfl) (by kernel_rfl) (by kernel_rfl) (fun _ _ _ h => h) (Or.inl ⟨by rfl, ?hyke1⟩) (by assumption) ?restke1
                    case hyke1 => (intro w hSw; (try dsimp only at hSw); go_simp; try with_reducible rfl)
                    try simp only [List.getElem_toArray, List.getElem_cons_succ, List.getElem_cons_zero, Act.put, List.setIfInBounds_toArray, List.set_cons_zero, List.set_cons_succ]
                    refine wpAnyH_take (i := 1) (v := ?vke2) rfl (by kernel_rfl) (by kernel_rfl) (by kernel_rfl) (fun _ _ _ h => h) (Or.inl ⟨by rfl, ?hyke2⟩) (by assumption) ?restke2
                    case hyke2 => (intro w hSw; (try dsimp only at hSw); go_simp; try with_reducible rfl)
                    try simp only [List.getElem_toArray, List.getElem_cons_succ, List.getElem_cons_zero, Act.put, List.setIfInBounds_toArray, List.set_cons_zero, List.set_cons_succ]
                    refine wpAnyH_take (i := 2) (v := ?vke3) rfl (by kernel_rfl) (by kernel_rfl) (by kernel_rfl) (fun _ _ _ h => h) (Or.inl ⟨by rfl, ?hyke3⟩) (by assumption) ?restke3
                    case hyke3 => (intro w hSw; (try dsimp only at hSw); go_simp; try with_reducible rfl)
                    try simp only [List.getElem_toArray, List.getElem_cons_succ, List.getElem_cons_zero, Act.put, List.setIfInBounds_toArray, List.set_cons_zero, List.set_cons_succ]
                    refine wpAnyH_take (i := 3) (v := ?vke4) rfl (by kernel_rfl) (by kernel_rfl) (by kernel_rfl) (fun _ _ _ h => h) (Or.inl ⟨by rfl, ?hyke4⟩) (by assumption) ?restke4
                    case hyke4 => (intro w hSw; (try dsimp only at hSw); go_simp; try with_reducible rfl)
                    try simp only [List.getElem_toArray, List.getElem_cons_succ, List.getElem_cons_zero, Act.put, List.setIfInBounds_toArray, List.set_cons_zero, List.set_cons_succ]
                    refine wpAnyH_take (i := 4) (v := ?vke5) rfl (by kernel_rfl) (by kernel_rfl) (by kernel_rfl) (fun _ _ _ h => h) (Or.inl ⟨by rfl, ?hyke5⟩) (by assumption) ?restke5
                    case hyke5 => (intro w hSw; (try dsimp only at hSw); go_simp; try with_reducible rfl)
                    try simp only [List.getElem_toArray, List.getElem_cons_succ, List.getElem_cons_zero, Act.put, List.setIfInBounds_toArray, List.set_cons_zero, List.set_cons_succ]
                    refine wpAnyH_take (i := 5) (v := ?vke6) rfl (by kernel_rfl) (by kernel_rfl) (by kernel_rfl) (fun _ _ _ h => h) (Or.inl ⟨by rfl, ?hyke6⟩) (by assumption) ?restke6
                    case hyke6 => (intro w hSw; (try dsimp only at hSw); go_simp; try with_reducible rfl)
                    try simp only [List.getElem_toArray, List.getElem_cons_succ, List.getElem_cons_zero, Act.put, List.setIfInBounds_toArray, List.set_cons_zero, List.set_cons_succ]
                    refine wpAnyH_take (i := 6) (v := ?vke7) rfl (by kernel_rfl) (by kernel_rfl) (by kernel_rfl) (fun _ _ _ h => h) (Or.inl ⟨by rfl, ?hyke7⟩) (by assumption) ?restke7
                    case hyke7 => (intro w hSw; (try dsimp only at hSw); go_simp; try with_reducible rfl)
                    try simp only [List.getElem_toArray, List.getElem_cons_succ, List.getElem_cons_zero, Act.put, List.setIfInBounds_toArray, List.set_cons_zero, List.set_cons_succ]
                    refine wpAnyH_take (i := 7) (v := ?vke8) rfl (by kernel_rfl) (by kernel_rfl) (by kernel_rfl) (fun _ _ _ h => h) (Or.inl ⟨by rfl, ?hyke8⟩) (by assumption) ?restke8
                    case hyke8 => (intro w hSw; (try dsimp only at hSw); go_simp; try with_reducible rfl)
                    try simp only [List.getElem_toArray, List.getElem_cons_succ, List.getElem_cons_zero, Act.put, List.setIfInBounds_toArray, List.set_cons_zero, List.set_cons_succ]
                    refine wpAnyH_take (i := 8) (v := ?vke9) rfl (by kernel_rfl) (by kernel_rfl) (by kernel_rfl) (fun _ _ _ h => h) (Or.inl ⟨by rfl, ?hyke9⟩) (by assumption) ?restke9
                    case hyke9 => (intro w hSw; (try dsimp only at hSw); go_simp; try with_reducible rfl)
                    try simp only [List.getElem_toArray, List.getElem_cons_succ, List.getElem_cons_zero, Act.put, List.setIfInBounds_toArray, List.set_cons_zero, List.set_cons_succ]
                    refine wpAnyH_take (i := 9) (v := ?vke10) rfl (by kernel_rfl) (by kernel_rfl) (by kernel_rfl) (fun _ _ _ h => h) (Or.inl ⟨by rfl, ?hyke10⟩) (by assumption) ?restke10
                    case hyke10 => (intro w hSw; (try dsimp only at hSw); go_simp; try with_reducible rfl)
                    try simp only [List.getElem_toArray, List.getElem_cons_succ, List.getElem_cons_zero, Act.put, List.setIfInBounds_toArray, List.set_cons_zero, List.set_cons_succ]
                    refine wpAnyH_take (i := 10) (v := ?vke11) rfl (by kernel_rfl) (by kernel_rfl) (by kernel_rfl) (fun _ _ _ h => h) (Or.inl ⟨by rfl, ?hyke11⟩) (by assumption) ?restke11
                    case hyke11 => (intro w hSw; (try dsimp only at hSw); go_simp; try with_reducible rfl)
                    try simp only [List.getElem_toArray, List.getElem_cons_succ, List.getElem_cons_zero, Act.put, List.setIfInBounds_toArray, List.set_cons_zero, List.set_cons_succ]
                    refine wpAnyH_take (i := 11) (v := ?vke12) rfl (by kernel_rfl) (by kernel_rfl) (by kernel_rfl) (fun _ _ _ h => h) (Or.inl ⟨by rfl, ?hyke12⟩) (by assumption) ?restke12
                    case hyke12 => (intro w hSw; (try dsimp only at hSw); go_simp; try with_reducible rfl)
                    try simp only [List.getElem_toArray, List.getElem_cons_succ, List.getElem_cons_zero, Act.put, List.setIfInBounds_toArray, List.set_cons_zero, List.set_cons_succ]
                    refine wpAnyH_take (i := 12) (v := ?vke13) rfl (by kernel_rfl) (by kernel_rfl) (by kernel_rfl) (fun _ _ _ h => h) (Or.inl ⟨by rfl, ?hyke13⟩) (by assumption) ?restke13
                    case hyke13 => (intro w hSw; (try dsimp only at hSw); go_simp; try with_reducible rfl)
                    try simp only [List.getElem_toArray, List.getElem_cons_succ, List.getElem_cons_zero, Act.put, List.setIfInBounds_toArray, List.set_cons_zero, List.set_cons_succ]
                    refine wpAnyH_take (i := 13) (v := ?vke14) rfl (by kernel_rfl) (by kernel_rfl) (by kernel_rfl) (fun _ _ _ h => h) (Or.inl ⟨by rfl, ?hyke14⟩) (by assumption) ?restke14
                    case hyke14 => (intro w hSw; (try dsimp only at hSw); go_simp; try with_reducible rfl)
                    try simp only [List.getElem_toArray, List.getElem_cons_succ, List.getElem_cons_zero, Act.put, List.setIfInBounds_toArray, List.set_cons_zero, List.set_cons_succ]
                    refine wpAnyH_take (i := 14) (v := ?vke15) rfl (by kernel_rfl) (by kernel_rfl) (by kernel_rfl) (fun _ _ _ h => h) (Or.inl ⟨by rfl, ?hyke15⟩) (by assumption) ?restke15
                    case hyke15 => (intro w hSw; (try dsimp only at hSw); go_simp; try with_reducible rfl)
                    try simp only [List.getElem_toArray, List.getElem_cons_succ, List.getElem_cons_zero, Act.put, List.setIfInBounds_toArray, List.set_cons_zero, List.set_cons_succ]
                    refine wpAnyH_take (i := 15) (v := ?vke16) rfl (by kernel_rfl) (by kernel_rfl) (by kernel_rfl) (fun _ _ _ h => h) (Or.inl ⟨by rfl, ?hyke16⟩) (by assumption) ?restke16
                    case hyke16 => (intro w hSw; (try dsimp only at hSw); go_simp; try with_reducible rfl)
                    try simp only [List.getElem_toArray, List.getElem_cons_succ, List.getElem_cons_zero, Act.put, List.setIfInBounds_toArray, List.set_cons_zero, List.set_cons_succ]
                    refine wpAnyH_take (i := 16) (v := undef) rfl (by kernel_rfl) (by kernel_rfl) (by kernel_rfl) (fun _ _ _ h => h) (Or.inr ⟨by rfl, rfl⟩) (by assumption) ?restke17
                    try simp only [List.getElem_toArray, List.getElem_cons_succ, List.getElem_cons_zero, Act.put, List.setIfInBounds_toArray, List.set_cons_zero, List.set_cons_succ]
                    refine wpAnyH_take (i := 17) (v := undef) rfl (by kernel_rfl) (by kernel_rfl) (by kernel_rfl) (fun _ _ _ h => h) (Or.inr ⟨by rfl, rfl⟩) (by assumption) ?restke18
                    try simp only [List.getElem_toArray, List.getElem_cons_succ, List.getElem_cons_zero, Act.put, List.setIfInBounds_toArray, List.set_cons_zero, List.set_cons_succ]
                    refine wpAnyH_take (i := 18) (v := undef) rfl (by kernel_rfl) (by kernel_rfl) (by kernel_rfl) (fun _ _ _ h => h) (Or.inr ⟨by rfl, rfl⟩) (by assumption) ?restke19
                    try simp only [List.getElem_toArray, List.getElem_cons_succ, List.getElem_cons_zero, Act.put, List.setIfInBounds_toArray, List.set_cons_zero, List.set_cons_succ]
                    refine wpAnyH_take (i := 19) (v := undef) rfl (by kernel_rfl) (by kernel_rfl) (by kernel_rfl) (fun _ _ _ h => h) (Or.inr ⟨by rfl, rfl⟩) (by assumption) ?restke20
                    try simp only [List.getElem_toArray, List.getElem_cons_succ, List.getElem_cons_zero, Act.put, List.setIfInBounds_toArray, List.set_cons_zero, List.set_cons_succ]
                    refine wpAnyH_take (i := 20) (v := undef) rfl (by kernel_rfl) (by kernel_rfl) (by kernel_rfl) (fun _ _ _ h => h) (Or.inr ⟨by rfl, rfl⟩) (by assumption) ?restke21
                    try simp only [List.getElem_toArray, List.getElem_cons_succ, List.getElem_cons_zero, Act.put, List.setIfInBounds_toArray, List.set_cons_zero, List.set_cons_succ]
                    refine wpAnyH_take (i := 21) (v := undef) rfl (by kernel_rfl) (by kernel_rfl) (by kernel_rfl) (fun _ _ _ h => h) (Or.inr ⟨by rfl, rfl⟩) (by assumption) ?restke22
                    try simp only [List.getElem_toArray, List.getElem_cons_succ, List.getElem_cons_zero, Act.put, List.setIfInBounds_toArray, List.set_cons_zero, List.set_cons_succ]
                    refine wpAnyH_take (i := 22) (v := undef) rfl (by kernel_rfl) (by kernel_rfl) (by kernel_rfl) (fun _ _ _ h => h) (Or.inr ⟨by rfl, rfl⟩) (by assumption) ?restke23
                    try simp only [List.getElem_toArray, List.getElem_cons_succ, List.getElem_cons_zero, Act.put, List.setIfInBounds_toArray, List.set_cons_zero, List.set_cons_succ]
                    refine wpAnyH_take (i := 23) (v := undef) rfl (by kernel_rfl) (by kernel_rfl) (by kernel_rfl) (fun _ _ _ h => h) (Or.inr ⟨by rfl, rfl⟩) (by assumption) ?restke24
                    try simp only [List.getElem_toArray, List.getElem_cons_succ, List.getElem_cons_zero, Act.put, List.setIfInBounds_toArray, List.set_cons_zero, List.set_cons_succ]
                    refine wpAnyH_take (i := 24) (v := undef) rfl (by kernel_rfl) (by kernel_rfl) (by kernel_rfl) (fun _ _ _ h => h) (Or.inr ⟨by rfl, rfl⟩) (by assumption) ?restke25
                    try simp only [List.getElem_toArray, List.getElem_cons_succ, List.getElem_cons_zero, Act.put, List.setIfInBounds_toArray, List.set_cons_zero, List.set_cons_succ]
                    refine wpAnyH_take (i := 25) (v := undef) rfl (by kernel_rfl) (by kernel_rfl) (by kernel_rfl) (fun _ _ _ h => h) (Or.inr ⟨by rfl, rfl⟩) (by assumption) ?restke26
                    try simp only [List.getElem_toArray, List.getElem_cons_succ, List.getElem_cons_zero, Act.put, List.setIfInBounds_toArray, List.set_cons_zero, List.set_cons_succ]
                    refine wpAnyH_take (i := 26) (v := ?vke27) rfl (by kernel_rfl) (by kernel_rfl) (by kernel_rfl) (fun _ _ _ h => h) (Or.inl ⟨by rfl, ?hyke27⟩) (by assumption) ?restke27
                    case hyke27 => (intro w hSw; (try dsimp only at hSw); go_simp; try with_reducible rfl)
                    try simp only [List.getElem_toArray, List.getElem_cons_succ, List.getElem_cons_zero, Act.put, List.setIfInBounds_toArray, List.set_cons_zero, List.set_cons_succ]
                    refine wpAnyH_take (i := 27) (v := ?vke28) rfl (by kernel_rfl) (by kernel_rfl) (by kernel_rfl) (fun _ _ _ h => h) (Or.inl ⟨by rfl, ?hyke28⟩) (by assumption) ?restke28
                    case hyke28 => (intro w hSw; (try dsimp only at hSw); go_simp; try with_reducible rfl)
                    try simp only [List.getElem_toArray, List.getElem_cons_succ, List.getElem_cons_zero, Act.put, List.setIfInBounds_toArray, List.set_cons_zero, List.set_cons_succ]
                    refine wpAnyH_done (by kernel_rfl) ?_ _
                    clear hHeld
                    go_wp2_with fail
                    go_roundw
                    case rel => exact ⟨k + 1, by omega, by go_num, HBE.out 1⟩
                    case measure => simp [intOf]; omega
      case rest =>
        as_aux_lemma =>
          clear HW HXa HTa HLs
          obtain ⟨hw1, hw2, hw3, hw4⟩ := hcut
          have HW := Go.Lib.hid hw1
          have HXa := Go.Lib.hid hw2
          have HTa := Go.Lib.hid hw3
          have HLs := Go.Lib.hid hw4
          clear hw1 hw2 hw3 hw4
          by_cases hq : q = 0
          case neg =>
            have hqb : (q != 0) = true := by simpa using hq
            have ha0 : wc.cell? ⟨qa, 0, none⟩ = some (.slice Ax x.f.length cx) := HXa.out.at_ 0 _ rfl
            have ha1 : wc.cell? ⟨qa, 1, none⟩ = some (.slice Bx x.r.length dx) := HXa.out.at_ 1 _ rfl
            have ha2 : wc.cell? ⟨qa, 2, none⟩ = some (.int .i64 x.n) := HXa.out.at_ 2 _ rfl
            go_wp2_with fail
            go_ret
            exact ⟨rfl, HW.out⟩
          case pos =>
            subst hq
            obtain ⟨ss2, L, gb, z, hs2, hord, hlen, hL36, rfl, rfl, hz0, hbe, hbig, hsame⟩ := HLO.out rfl
            have hss : ss = ss2 := (Prod.mk.inj hs2).1
            subst hss
            rw [hord] at HO1 HO2
            have HLEN := Go.Lib.hid hlen
            have HBE := Go.Lib.hid hbe
            have HBIG := Go.Lib.hid hbig
            have HSAME := Go.Lib.hid hsame
            have HBS := Go.Lib.hid (fun k (h : k < L.length) => bestAt_succ (L := L) (g := gb) (z := z) h)
            have HB0 := Go.Lib.hid (show bestAt L gb z 0 = -1 by unfold bestAt; rw [if_neg (by simp)])
            clear hs2 hord hlen hbe hbig hsame
            have ha0 : wc.cell? ⟨qa, 0, none⟩ = some (.slice Ax x.f.length cx) := HXa.out.at_ 0 _ rfl
            have ha1 : wc.cell? ⟨qa, 1, none⟩ = some (.slice Bx x.r.length dx) := HXa.out.at_ 1 _ rfl
            have ha2 : wc.cell? ⟨qa, 2, none⟩ = some (.int .i64 x.n) := HXa.out.at_ 2 _ rfl
            go_wp2_with fail
            refine (HO1.out _ HTa.out).mono ?_
            rintro _ w18 ⟨Ao, co, rfl, z18, b18⟩
            clear ha0 ha1 ha2
            have HXa := Go.Lib.hid (HXa.out.below b18)
            have HTa := Go.Lib.hid (HTa.out.below b18)
            have HLs := Go.Lib.hid (HLs.out.below b18)
            have HW := Go.Lib.hid (HW.out.trans (b18.mono HW.out.size))
            have HZo := Go.Lib.hid z18
            clear z18 b18
            have ha0 : w18.cell? ⟨qa, 0, none⟩ = some (.slice Ax x.f.length cx) := HXa.out.at_ 0 _ rfl
            have ha1 : w18.cell? ⟨qa, 1, none⟩ = some (.slice Bx x.r.length dx) := HXa.out.at_ 1 _ rfl
            have ha2 : w18.cell? ⟨qa, 2, none⟩ = some (.int .i64 x.n) := HXa.out.at_ 2 _ rfl
            go_wp2_with fail
            refine (HO2.out _ HTa.out).mono ?_
            rintro _ w19 ⟨Ag, cg, rfl, z19, b19⟩
            clear ha0 ha1 ha2
            have HXa := Go.Lib.hid (HXa.out.below b19)
            have HTa := Go.Lib.hid (HTa.out.below b19)
            have HLs := Go.Lib.hid (HLs.out.below b19)
            have HZo := Go.Lib.hid (HZo.out.below b19)
            have HW := Go.Lib.hid (HW.out.trans (b19.mono HW.out.size))
            have HZg := Go.Lib.hid z19
            clear z19 b19
            have hlq : (((rowsG L).length : Int) != (ss.length : Int)) = false := by rw [HLEN.out, rowsG_len]; simp
            have ha0 : w19.cell? ⟨qa, 0, none⟩ = some (.slice Ax x.f.length cx) := HXa.out.at_ 0 _ rfl
            have ha1 : w19.cell? ⟨qa, 1, none⟩ = some (.slice Bx x.r.length dx) := HXa.out.at_ 1 _ rfl
            have ha2 : w19.cell? ⟨qa, 2, none⟩ = some (.int .i64 x.n) := HXa.out.at_ 2 _ rfl
            have HE := Go.Lib.hid (likeRowsZ Ao Ag (rowsG L).length co cg (rowsG L) _ rfl HZo.out HZg.out)
            go_wp2_with fail
            refine HE.out.mono ?_
            rintro _ w20 ⟨rfl, x20, e20⟩
            have b20 := below_of_drewN e20
            clear ha0 ha1 ha2
            have HXa := Go.Lib.hid (HXa.out.below b20)
            have HTa := Go.Lib.hid (HTa.out.below b20)
            have HLs := Go.Lib.hid (HLs.out.below b20)
            have HZo := Go.Lib.hid (HZo.out.below b20)
            have HZg := Go.Lib.hid (HZg.out.below b20)
            have HW := Go.Lib.hid (HW.out.trans (b20.mono HW.out.size))
            clear b20 e20 HE
            have HRL := Go.Lib.hid (rowsG_len L)
            clear hlq
            rw [HRL.out, HLEN.out]
            have hqq : ((L.length : Int) != (L.length : Int)) = false := by simp
            have ha0 : w20.cell? ⟨qa, 0, none⟩ = some (.slice Ax x.f.length cx) := HXa.out.at_ 0 _ rfl
            have ha1 : w20.cell? ⟨qa, 1, none⟩ = some (.slice Bx x.r.length dx) := HXa.out.at_ 1 _ rfl
            have ha2 : w20.cell? ⟨qa, 2, none⟩ = some (.int .i64 x.n) := HXa.out.at_ 2 _ rfl
            go_wp2_with fail
            clear ha0 ha1 ha2
            go_loopw [40, 41] (fun t i wr => ∃ k : Nat, k ≤ L.length ∧ i = .int .i64 k ∧ t = .int .i64 (bestAt L gb z k) ∧ wr = w20) (fun _ i _ => L.length - (intOf i).toNat)
            case atStart => exact ⟨0, Nat.zero_le _, rfl, by rw [HB0.out], rfl⟩
            case round =>
              obtain ⟨k, hk, rfl, rfl, hw⟩ := hrel
              have hw2 := hw.symm
              clear hw
              subst hw2
              by_cases hlt : k < L.length
              case pos =>
                obtain ⟨ob, oo, D, ed, hAo, hob, hrd⟩ := (HZo.out).at_ k (by rw [rowsG_len]; exact hlt)
                subst hAo
                have HRW := Go.Lib.hid (show rowAt (rowsG L) k = rowG (L.getD k (0, 0)) from rowsG_at hlt)
                rw [HRW.out] at hob hrd
                obtain ⟨zb, zo, hAz, -, zc⟩ := HLs.out.at_ (k := k) (by rw [HLEN.out]; exact hlt)
                subst hAz
                have hzc := zc k (by rw [HLEN.out]; exact hlt)
                have HSK := Go.Lib.hid (HSAME.out k hlt)
                have HSU := Go.Lib.hid (HBS.out k hlt)
                generalize L.getD k (0, 0) = gg at *
                generalize ss.getD k 0 = zk at *
                generalize bestAt L gb z k = bk at *
                obtain ⟨eb, eo, e, -, -, hcs⟩ := hrd.at_ (k := 0) (by simp [rowG])
                subst e
                replace hob : w20.cell? ⟨ob, oo + k, none⟩ = some (.slice (some ⟨eb, eo, none⟩) 2 ed) := hob
                have he0 : w20.cell? ⟨eb, eo, none⟩ = some (.int .i64 (gg.1 : Nat)) := hcs 0 _ rfl
                have he1 : w20.cell? ⟨eb, eo + 1, none⟩ = some (.int .i64 (gg.2 : Nat)) := hcs 1 _ rfl
                clear hrd hcs
                have hkl : (k : Int) < L.length := by omega
                clear zc
                by_cases h1 : (gg.1 : Int) = gb.1
                case pos =>
                  by_cases h2 : (gg.2 : Int) = gb.2
                  case pos =>
                    have hge : gg = gb := Prod.ext (by omega) (by omega)
                    have HSN := Go.Lib.hid (HSU.out.trans (if_pos hge))
                    have hzk := HSK.out hge
                    have h1b : ((gg.1 : Int) == gb.1) = true := by simpa using h1
                    have h2b : ((gg.2 : Int) == gb.2) = true := by simpa using h2
                    subst hzk
                    clear h1 h2 hge
                    go_wp2_with fail
                    go_roundw
                    case rel => exact ⟨k + 1, by omega, by go_num, by rw [HSN.out], by first | rfl | trivial⟩
                    case measure => simp [intOf]; omega
                  case neg =>
                    have hge : ¬ gg = gb := fun e => h2 (by rw [e])
                    have HSN := Go.Lib.hid (HSU.out.trans (if_neg hge))
                    have h1b : ((gg.1 : Int) == gb.1) = true := by simpa using h1
                    have h2b : ((gg.2 : Int) == gb.2) = false := by simpa using h2
                    clear h1 h2 hge
                    go_wp2_with fail
                    go_roundw
                    case rel => exact ⟨k + 1, by omega, by go_num, by rw [HSN.out], by first | rfl | trivial⟩
                    case measure => simp [intOf]; omega
                case neg =>
                  have hge : ¬ gg = gb := fun e => h1 (by rw [e])
                  have HSN := Go.Lib.hid (HSU.out.trans (if_neg hge))
                  have h1b : ((gg.1 : Int) == gb.1) = false := by simpa using h1
                  clear h1 hge
                  go_wp2_with fail
                  go_roundw
                  case rel => exact ⟨k + 1, by omega, by go_num, by rw [HSN.out], by first | rfl | trivial⟩
                  case measure => simp [intOf]; omega
              case neg =>
                obtain rfl : k = L.length := by omega
                rw [HBE.out]
                have hz1 : 0 ≤ z := hz0
                go_wp2_with fail
                go_loopw [42] (fun i wr => ∃ k : Nat, k ≤ L.length ∧ i = .int .i64 k ∧ wr = w20) (fun i _ => L.length - (intOf i).toNat)
                case atStart => exact ⟨0, Nat.zero_le _, rfl, rfl⟩
                case round =>
                  obtain ⟨k, hk, rfl, hw⟩ := hrel
                  have hw2 := hw.symm
                  clear hw
                  subst hw2
                  by_cases hlt : k < L.length
                  case pos =>
                    obtain ⟨zb, zo, hAz, -, zc⟩ := HLs.out.at_ (k := k) (by rw [HLEN.out]; exact hlt)
                    subst hAz
                    have hzc := zc k (by rw [HLEN.out]; exact hlt)
                    have hnb := HBIG.out k hlt
                    generalize ss.getD k 0 = zk at *
                    have hkl : (k : Int) < L.length := by omega
                    clear zc
                    go_wp2_with fail
                    go_roundw
                    case rel => exact ⟨k + 1, by omega, by go_num, by first | rfl | trivial⟩
                    case measure => simp [intOf]; omega
                  case neg =>
                    obtain rfl : k = L.length := by omega
                    go_wp2_with fail
                    go_ret
                    exact ⟨rfl, HW.out⟩

set_option maxRecDepth 100000 in
theorem lifted (os : Os) (started : os.Started) (H : Type) (enc : TypeId × Value → H) :
    ReturnsInHanded {} Try.checked os 4 .any (Rows.fnSlacksSpec.pre6 enc Try.prog Try.f4 Rows.fnSlacksRow.domain false) (Rows.fnSlacksSpec.post enc Try.prog Try.f4 false true false false) := by
  refine returnsInHanded_of_change_sized (C := Try.checked) own started (by kernel_rfl) Try.func4
    (ChangeSpec.witness6 (enc := enc) (C := Try.checked) false ⟨#[], #[.slice none 0 0], []⟩ 8 (by kernel_rfl) (by kernel_rfl) (by kernel_rfl) (by kernel_rfl)) ?_
  intro W base args ds gs before hval0 hW hcnd hsz0 _
  have hsz : (DataW.weightsEach Try.prog (Try.f4.params.toList ++ Rows.fnSlacksSpec.plain.varTypes Try.prog) (ds ++ gs)).all (· ≤ reachBytes) = true := hsz0
  clear hsz0
  have hval : ∀ (j : Nat) t v, Try.f4.params[j]? = some t → args[j]? = some v → Value.okWide Try.prog W .any base t v := hval0
  clear hval0
  have hW' := hW
  obtain ⟨p, q, hA0, hV, rfl, hfz, hnd⟩ := hW
  have hA : DataW.TrodAll enc Try.prog W 0 (fun _ => true) true Try.f4.params.toList args.toList ds p := hA0
  rw [Try.params4] at hA hval hsz
  obtain ⟨v0, vs0, d0, ds0, p0, q0, hargs, rfl, rfl, h0, r0⟩ := trodAll_cons hA
  obtain ⟨rfl, rfl, rfl⟩ := trodAll_nil r0
  obtain rfl : args = #[v0] := by cases args; simp_all
  obtain ⟨rfl, rfl⟩ := trodVars_none hV
  obtain ⟨a0, len0, cap0, rfl⟩ := okWide_slice Try.underlying22 (hval 0 22 v0 rfl rfl)
  have k0 := h0
  have lt0 : ∀ x ∈ p0, x.block < W.heap.size := by obtain ⟨m, hm⟩ := k0; exact DataW.trod_lt m _ _ _ hm
  obtain ⟨⟨z0, rd0, sz0⟩, hlc0, hp0⟩ := open_list_bytes h0
  have reach0 : len0 * 1 ≤ 140737488351232 := by
    rcases hp0 with hp0 | ⟨E0, S0, rfl, hl0⟩
    · omega
    · have := sized_slice hsz (j := 0) (t := 22) (e := 5) rfl rfl Try.underlying22
      rw [show Try.prog.bytesOf 5 = 1 by kernel_rfl] at this
      simp only [reachBytes] at this
      omega
  clear hA0
  refine (walk a0 len0 cap0 z0 W rd0 reach0 sz0).mono fun e W' ⟨he, bel⟩ => ?_
  subst he
  exact ⟨_, rfl, _, _, _, [], _, [], hW', trodAll_mk1 (shut_bool Try.underlying4 _), (trodAll_cons_mk (Below.trod laidOut (by kernel_rfl) (of_decide_eq_true (by kernel_rfl)) k0 bel lt0) trodAll_mk0), rfl, bel.frame _, fun h => by cases h⟩

theorem over : Rows.fnSlacksRow.holds Try.pinned (OpenSpec.ofChange Rows.fnSlacksSpec) :=
  OpenClaim.holds_of_wide 4 Try.f4 rfl rfl rfl rfl rfl rfl rfl ⟨rfl, rfl, rfl, rfl, rfl⟩ rfl rfl rfl rfl rfl (by kernel_rfl) Try.func4 (by kernel_rfl)
    (of_decide_eq_true (by kernel_rfl)) (by unfold Func.isWrapper; first | (rw [if_pos (by decide +kernel)]; kernel_rfl) | (rw [if_neg (by decide +kernel)]; exact ⟨rfl, rfl⟩))
    (fun os started H enc _ => lifted os started H enc)

theorem proved : Rows.FnSlacksSaid := over
end Go.Proofs.Ytilepehlmjohbaa.fnSlacks
