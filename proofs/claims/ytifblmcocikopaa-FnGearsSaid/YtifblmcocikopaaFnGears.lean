/- A gear with a greater ratio has no smaller development, and the nearest gear is nearest. -/
import Derived.Test.YtifblmcocikopaaRows
import Derived.Test.YtifblmcocikopaaGearImpl
import Derived.Test.YtifblmcocikopaaGearL
import Derived.Test.YtifblmcocikopaaDrawTr4
import Derived.Test.YtifblmcocikopaaBig
import Derived.Test.YtifblmcocikopaaOpenB
import Derived.Test.YtifblmcocikopaaLikesI
import Derived.Test.YtifblmcocikopaaInts
import Derived.Test.YtifblmcocikopaaEqZ
import Derived.Test.YtifblmcocikopaaGrid2
import Derived.WalkKit
import Derived.ProofKit
import Derived.OpenShut
import Derived.ShutString
import Derived.SizedLaws
namespace Go.Proofs.Ytifblmcocikopaa.fnGears
open Go.ChangeShapes Go.WideShapes Go.ChangeAt Go.RowKit
open Go.ChangeMaps (open_string shut_string)
set_option linter.unusedVariables false

set_option linter.unusedSimpArgs false
set_option maxRecDepth 100000 in
set_option maxHeartbeats 16000000 in
theorem walk (A : Option Addr) (n cap : Nat) (bs : List Int) (w : World) (h : Rd w 0 w.heap.size A n (byts bs)) (hn : n * 1 ≤ 140737488351232) (hs : ∀ z ∈ bs, 0 ≤ z ∧ z ≤ 255) :
    Calls Try.prog 3 #[.slice A n cap] w fun e w' => e = .returned (.bool true) ∧ Below w.heap.size w w' := by
  have HB := Go.Lib.hid (big_ A n cap w)
  by_cases hbig : (4096 : Int) < n
  · go_enter Try.func3, Try.ntmps3
    go_wp2_with fail
    refine HB.out.mono ?_
    rintro e w' ⟨rfl, rfl⟩
    go_wp2_with fail
    go_ret
    exact ⟨rfl, Below.refl _ _⟩
  · have hb2 := big_ A n cap w
    rw [decide_eq_false hbig] at hb2
    have HB2 := Go.Lib.hid hb2
    have HRD := Go.Lib.hid (fun w1 (hb : Below w.heap.size w w1) => (h.below hb (Nat.le_refl _)).mono (Nat.le_refl _) hb.size)
    have HW := Go.Lib.hid (Below.refl w.heap.size w)
    clear hb2 HB hbig h
    have hnn : n ≤ 140737488355328 := by omega
    clear hn
    go_enter Try.func3, Try.ntmps3
    go_wp2_with fail
    refine HB2.out.mono ?_
    rintro e w' ⟨rfl, rfl⟩
    have HD := Go.Lib.hid (drawNearestGear A n cap bs _ (HRD.out _ HW.out) hs hnn)
    go_wp2_with fail
    refine HD.out.mono ?_
    rintro _ w1 ⟨x, Ax, cx, Bx, dx, wanted, rfl, t1, b1⟩
    have HW := Go.Lib.hid (HW.out.trans (b1.mono HW.out.size))
    have HTa := Go.Lib.hid t1
    unfold trainV at *
    clear t1 b1 HD
    go_upto_region 4 with fail
    refine wp_gen (R := fun W => Box W w1.heap.size (trainC x Ax cx Bx dx) ∧ Below w1.heap.size w1 W) ⟨boxT_box x Ax cx Bx dx w1, boxT_below x Ax cx Bx dx w1⟩ ?_
    rintro w2 ⟨hx, b2⟩
    have HTa := Go.Lib.hid (HTa.out.below b2)
    have HW := Go.Lib.hid (HW.out.trans (b2.mono HW.out.size))
    have HXa := Go.Lib.hid hx
    clear hx b2
    obtain ⟨qa, hq⟩ : ∃ q, w1.heap.size = q := ⟨_, rfl⟩
    rw [hq] at HXa
    try simp only [hq]
    clear hq
    obtain ⟨f, r, q, os, q2, L, hN, hO, hol, htb, hos, hL36, hok⟩ := gears_law x wanted
    have HN1 := Go.Lib.hid (fun w0 T0 => implNearest9 x Ax cx Bx dx wanted w0 T0)
    have HN2 := Go.Lib.hid (fun w0 T0 => specNearest9 x Ax cx Bx dx wanted w0 T0)
    have HO1 := Go.Lib.hid (fun w0 T0 => (implGearOrder x Ax cx Bx dx w0 T0).mono fun _ _ h => h.rd)
    have HO2 := Go.Lib.hid (fun w0 T0 => (specGearOrder x Ax cx Bx dx w0 T0).mono fun _ _ h => h.rd (by rw [hO]; show os.length ≤ _; omega))
    have HTN := Go.Lib.hid (fun w0 T0 => implTrain x Ax cx Bx dx w0 T0)
    have HDX := Go.Lib.hid (fun a b w0 T0 => implDevOf x Ax cx Bx dx a b w0 T0)
    rw [hN] at HN1 HN2
    rw [hO] at HO1 HO2
    rw [htb] at HTN
    have HOK := Go.Lib.hid hok
    have HOS := Go.Lib.hid hos
    clear hN hO htb hok hos
    unfold trainV at *
    have ha0 : w2.cell? ⟨qa, 0, none⟩ = some (.slice Ax x.f.length cx) := HXa.out.at_ 0 _ rfl
    have ha1 : w2.cell? ⟨qa, 1, none⟩ = some (.slice Bx x.r.length dx) := HXa.out.at_ 1 _ rfl
    have ha2 : w2.cell? ⟨qa, 2, none⟩ = some (.int .i64 x.n) := HXa.out.at_ 2 _ rfl
    go_wp2_with fail
    refine (HN1.out _ HTa.out).mono ?_
    rintro _ w3 ⟨rfl, b3⟩
    clear ha0 ha1 ha2
    have HTa := Go.Lib.hid (HTa.out.below b3)
    have HXa := Go.Lib.hid (HXa.out.below b3)
    have HW := Go.Lib.hid (HW.out.trans (b3.mono HW.out.size))
    clear b3
    have ha0 : w3.cell? ⟨qa, 0, none⟩ = some (.slice Ax x.f.length cx) := HXa.out.at_ 0 _ rfl
    have ha1 : w3.cell? ⟨qa, 1, none⟩ = some (.slice Bx x.r.length dx) := HXa.out.at_ 1 _ rfl
    have ha2 : w3.cell? ⟨qa, 2, none⟩ = some (.int .i64 x.n) := HXa.out.at_ 2 _ rfl
    go_wp2_with fail
    refine (HN2.out _ HTa.out).mono ?_
    rintro _ w4 ⟨rfl, b4⟩
    clear ha0 ha1 ha2
    have HTa := Go.Lib.hid (HTa.out.below b4)
    have HXa := Go.Lib.hid (HXa.out.below b4)
    have HW := Go.Lib.hid (HW.out.trans (b4.mono HW.out.size))
    clear b4
    have ha0 : w4.cell? ⟨qa, 0, none⟩ = some (.slice Ax x.f.length cx) := HXa.out.at_ 0 _ rfl
    have ha1 : w4.cell? ⟨qa, 1, none⟩ = some (.slice Bx x.r.length dx) := HXa.out.at_ 1 _ rfl
    have ha2 : w4.cell? ⟨qa, 2, none⟩ = some (.int .i64 x.n) := HXa.out.at_ 2 _ rfl
    go_wp2_with fail
    refine (HO1.out _ HTa.out).mono ?_
    rintro _ w5 ⟨Ao, co, rfl, z5, b5⟩
    clear ha0 ha1 ha2
    have HTa := Go.Lib.hid (HTa.out.below b5)
    have HXa := Go.Lib.hid (HXa.out.below b5)
    have HW := Go.Lib.hid (HW.out.trans (b5.mono HW.out.size))
    have HZo := Go.Lib.hid z5
    clear z5 b5
    have ha0 : w5.cell? ⟨qa, 0, none⟩ = some (.slice Ax x.f.length cx) := HXa.out.at_ 0 _ rfl
    have ha1 : w5.cell? ⟨qa, 1, none⟩ = some (.slice Bx x.r.length dx) := HXa.out.at_ 1 _ rfl
    have ha2 : w5.cell? ⟨qa, 2, none⟩ = some (.int .i64 x.n) := HXa.out.at_ 2 _ rfl
    go_wp2_with fail
    refine (HO2.out _ HTa.out).mono ?_
    rintro _ w6 ⟨Ak, ck, rfl, z6, b6⟩
    clear ha0 ha1 ha2
    have HTa := Go.Lib.hid (HTa.out.below b6)
    have HXa := Go.Lib.hid (HXa.out.below b6)
    have HZo := Go.Lib.hid (HZo.out.below b6)
    have HW := Go.Lib.hid (HW.out.trans (b6.mono HW.out.size))
    have HZk := Go.Lib.hid z6
    clear z6 b6
    have HD := Go.Lib.hid (drawDevelopmentOf A n cap bs _ (HRD.out _ HW.out) hs hnn)
    go_wp2_with fail
    refine HD.out.mono ?_
    rintro _ w7 ⟨y, Ay, cy, By, dy, a2, b2, rfl, t7, b7⟩
    have HTa := Go.Lib.hid (HTa.out.below b7)
    have HXa := Go.Lib.hid (HXa.out.below b7)
    have HZo := Go.Lib.hid (HZo.out.below b7)
    have HZk := Go.Lib.hid (HZk.out.below b7)
    have HW := Go.Lib.hid (HW.out.trans (b7.mono HW.out.size))
    have HTb := Go.Lib.hid t7
    unfold trainV at *
    clear t7 b7 HD
    go_upto_region 9 with fail
    refine wp_gen (R := fun W => Box W w7.heap.size (trainC y Ay cy By dy) ∧ Below w7.heap.size w7 W) ⟨boxT_box y Ay cy By dy w7, boxT_below y Ay cy By dy w7⟩ ?_
    rintro w8 ⟨hx, b8⟩
    have HTa := Go.Lib.hid (HTa.out.below b8)
    have HXa := Go.Lib.hid (HXa.out.below b8)
    have HZo := Go.Lib.hid (HZo.out.below b8)
    have HZk := Go.Lib.hid (HZk.out.below b8)
    have HTb := Go.Lib.hid (HTb.out.below b8)
    have HW := Go.Lib.hid (HW.out.trans (b8.mono HW.out.size))
    have HXb := Go.Lib.hid hx
    clear hx b8
    obtain ⟨qb, hq⟩ : ∃ q, w7.heap.size = q := ⟨_, rfl⟩
    rw [hq] at HXb
    try simp only [hq]
    clear hq
    obtain ⟨v, p, hD⟩ : ∃ v p, devR y a2 b2 = (v, p) := ⟨_, _, rfl⟩
    have HD1 := Go.Lib.hid (fun w0 T0 => implDevOf y Ay cy By dy a2 b2 w0 T0)
    have HD2 := Go.Lib.hid (fun w0 T0 => specDevOf y Ay cy By dy a2 b2 w0 T0)
    rw [hD] at HD1 HD2
    clear hD
    unfold trainV at *
    have ha0 : w8.cell? ⟨qa, 0, none⟩ = some (.slice Ax x.f.length cx) := HXa.out.at_ 0 _ rfl
    have ha1 : w8.cell? ⟨qa, 1, none⟩ = some (.slice Bx x.r.length dx) := HXa.out.at_ 1 _ rfl
    have ha2 : w8.cell? ⟨qa, 2, none⟩ = some (.int .i64 x.n) := HXa.out.at_ 2 _ rfl
    have hb0 : w8.cell? ⟨qb, 0, none⟩ = some (.slice Ay y.f.length cy) := HXb.out.at_ 0 _ rfl
    have hb1 : w8.cell? ⟨qb, 1, none⟩ = some (.slice By y.r.length dy) := HXb.out.at_ 1 _ rfl
    have hb2 : w8.cell? ⟨qb, 2, none⟩ = some (.int .i64 y.n) := HXb.out.at_ 2 _ rfl
    go_wp2_with fail
    refine (HD1.out _ HTb.out).mono ?_
    rintro _ w9 ⟨rfl, b9⟩
    clear ha0 ha1 ha2 hb0 hb1 hb2
    have HTa := Go.Lib.hid (HTa.out.below b9)
    have HXa := Go.Lib.hid (HXa.out.below b9)
    have HZo := Go.Lib.hid (HZo.out.below b9)
    have HZk := Go.Lib.hid (HZk.out.below b9)
    have HTb := Go.Lib.hid (HTb.out.below b9)
    have HXb := Go.Lib.hid (HXb.out.below b9)
    have HW := Go.Lib.hid (HW.out.trans (b9.mono HW.out.size))
    clear b9
    have ha0 : w9.cell? ⟨qa, 0, none⟩ = some (.slice Ax x.f.length cx) := HXa.out.at_ 0 _ rfl
    have ha1 : w9.cell? ⟨qa, 1, none⟩ = some (.slice Bx x.r.length dx) := HXa.out.at_ 1 _ rfl
    have ha2 : w9.cell? ⟨qa, 2, none⟩ = some (.int .i64 x.n) := HXa.out.at_ 2 _ rfl
    have hb0 : w9.cell? ⟨qb, 0, none⟩ = some (.slice Ay y.f.length cy) := HXb.out.at_ 0 _ rfl
    have hb1 : w9.cell? ⟨qb, 1, none⟩ = some (.slice By y.r.length dy) := HXb.out.at_ 1 _ rfl
    have hb2 : w9.cell? ⟨qb, 2, none⟩ = some (.int .i64 y.n) := HXb.out.at_ 2 _ rfl
    go_wp2_with fail
    refine (HD2.out _ HTb.out).mono ?_
    rintro _ w10 ⟨rfl, b10⟩
    clear ha0 ha1 ha2 hb0 hb1 hb2
    have HTa := Go.Lib.hid (HTa.out.below b10)
    have HXa := Go.Lib.hid (HXa.out.below b10)
    have HZo := Go.Lib.hid (HZo.out.below b10)
    have HZk := Go.Lib.hid (HZk.out.below b10)
    have HTb := Go.Lib.hid (HTb.out.below b10)
    have HXb := Go.Lib.hid (HXb.out.below b10)
    have HW := Go.Lib.hid (HW.out.trans (b10.mono HW.out.size))
    clear b10
    have hq1 : (q != q) = false := by simp
    have hq2 : (f != f) = false := by simp
    have hq3 : (r != r) = false := by simp
    have hq4 : (q2 != q2) = false := by simp
    have hq5 : (p != p) = false := by simp
    have hq6 : (v != v) = false := by simp
    have ha0 : w10.cell? ⟨qa, 0, none⟩ = some (.slice Ax x.f.length cx) := HXa.out.at_ 0 _ rfl
    have ha1 : w10.cell? ⟨qa, 1, none⟩ = some (.slice Bx x.r.length dx) := HXa.out.at_ 1 _ rfl
    have ha2 : w10.cell? ⟨qa, 2, none⟩ = some (.int .i64 x.n) := HXa.out.at_ 2 _ rfl
    have hb0 : w10.cell? ⟨qb, 0, none⟩ = some (.slice Ay y.f.length cy) := HXb.out.at_ 0 _ rfl
    have hb1 : w10.cell? ⟨qb, 1, none⟩ = some (.slice By y.r.length dy) := HXb.out.at_ 1 _ rfl
    have hb2 : w10.cell? ⟨qb, 2, none⟩ = some (.int .i64 y.n) := HXb.out.at_ 2 _ rfl
    have HE := Go.Lib.hid (likeRowsZ Ao Ak os.length co ck os _ rfl HZo.out HZk.out)
    go_wp2_with fail
    refine HE.out.mono ?_
    rintro _ w11 ⟨rfl, x11, e11⟩
    have b11 := below_of_drewN e11
    clear ha0 ha1 ha2 hb0 hb1 hb2
    have HTa := Go.Lib.hid (HTa.out.below b11)
    have HXa := Go.Lib.hid (HXa.out.below b11)
    have HZo := Go.Lib.hid (HZo.out.below b11)
    have HZk := Go.Lib.hid (HZk.out.below b11)
    have HTb := Go.Lib.hid (HTb.out.below b11)
    have HXb := Go.Lib.hid (HXb.out.below b11)
    have HW := Go.Lib.hid (HW.out.trans (b11.mono HW.out.size))
    clear b11 e11 HE
    by_cases h2 : q2 = 0
    case neg =>
      have hqz : ¬ q = 0 := fun h => h2 (HOK.out h).1
      have hqb : (q != 0) = true := by simpa using hqz
      have h2b : (q2 == 0) = false := by simpa using h2
      rw [decide_eq_false h2] at HTN
      have ha0 : w11.cell? ⟨qa, 0, none⟩ = some (.slice Ax x.f.length cx) := HXa.out.at_ 0 _ rfl
      have ha1 : w11.cell? ⟨qa, 1, none⟩ = some (.slice Bx x.r.length dx) := HXa.out.at_ 1 _ rfl
      have ha2 : w11.cell? ⟨qa, 2, none⟩ = some (.int .i64 x.n) := HXa.out.at_ 2 _ rfl
      have hb0 : w11.cell? ⟨qb, 0, none⟩ = some (.slice Ay y.f.length cy) := HXb.out.at_ 0 _ rfl
      have hb1 : w11.cell? ⟨qb, 1, none⟩ = some (.slice By y.r.length dy) := HXb.out.at_ 1 _ rfl
      have hb2 : w11.cell? ⟨qb, 2, none⟩ = some (.int .i64 y.n) := HXb.out.at_ 2 _ rfl
      go_wp2_with fail
      refine (HTN.out _ HTa.out).mono ?_
      rintro _ w12 ⟨rfl, b12⟩
      clear ha0 ha1 ha2 hb0 hb1 hb2
      have HTa := Go.Lib.hid (HTa.out.below b12)
      have HXa := Go.Lib.hid (HXa.out.below b12)
      have HZo := Go.Lib.hid (HZo.out.below b12)
      have HZk := Go.Lib.hid (HZk.out.below b12)
      have HTb := Go.Lib.hid (HTb.out.below b12)
      have HXb := Go.Lib.hid (HXb.out.below b12)
      have HW := Go.Lib.hid (HW.out.trans (b12.mono HW.out.size))
      clear b12
      have ha0 : w12.cell? ⟨qa, 0, none⟩ = some (.slice Ax x.f.length cx) := HXa.out.at_ 0 _ rfl
      have ha1 : w12.cell? ⟨qa, 1, none⟩ = some (.slice Bx x.r.length dx) := HXa.out.at_ 1 _ rfl
      have ha2 : w12.cell? ⟨qa, 2, none⟩ = some (.int .i64 x.n) := HXa.out.at_ 2 _ rfl
      have hb0 : w12.cell? ⟨qb, 0, none⟩ = some (.slice Ay y.f.length cy) := HXb.out.at_ 0 _ rfl
      have hb1 : w12.cell? ⟨qb, 1, none⟩ = some (.slice By y.r.length dy) := HXb.out.at_ 1 _ rfl
      have hb2 : w12.cell? ⟨qb, 2, none⟩ = some (.int .i64 y.n) := HXb.out.at_ 2 _ rfl
      go_wp2_with fail
      go_ret
      exact ⟨rfl, HW.out⟩
    case pos =>
      subst h2
      rw [decide_eq_true rfl] at HTN
      have ha0 : w11.cell? ⟨qa, 0, none⟩ = some (.slice Ax x.f.length cx) := HXa.out.at_ 0 _ rfl
      have ha1 : w11.cell? ⟨qa, 1, none⟩ = some (.slice Bx x.r.length dx) := HXa.out.at_ 1 _ rfl
      have ha2 : w11.cell? ⟨qa, 2, none⟩ = some (.int .i64 x.n) := HXa.out.at_ 2 _ rfl
      have hb0 : w11.cell? ⟨qb, 0, none⟩ = some (.slice Ay y.f.length cy) := HXb.out.at_ 0 _ rfl
      have hb1 : w11.cell? ⟨qb, 1, none⟩ = some (.slice By y.r.length dy) := HXb.out.at_ 1 _ rfl
      have hb2 : w11.cell? ⟨qb, 2, none⟩ = some (.int .i64 y.n) := HXb.out.at_ 2 _ rfl
      go_wp2_with fail
      refine (HTN.out _ HTa.out).mono ?_
      rintro _ w13 ⟨rfl, b13⟩
      clear ha0 ha1 ha2 hb0 hb1 hb2
      have HTa := Go.Lib.hid (HTa.out.below b13)
      have HXa := Go.Lib.hid (HXa.out.below b13)
      have HZo := Go.Lib.hid (HZo.out.below b13)
      have HZk := Go.Lib.hid (HZk.out.below b13)
      have HTb := Go.Lib.hid (HTb.out.below b13)
      have HXb := Go.Lib.hid (HXb.out.below b13)
      have HW := Go.Lib.hid (HW.out.trans (b13.mono HW.out.size))
      clear b13
      by_cases h0 : q = 0
      case neg =>
        have hqb : (q != 0) = true := by simpa using h0
        have ha0 : w13.cell? ⟨qa, 0, none⟩ = some (.slice Ax x.f.length cx) := HXa.out.at_ 0 _ rfl
        have ha1 : w13.cell? ⟨qa, 1, none⟩ = some (.slice Bx x.r.length dx) := HXa.out.at_ 1 _ rfl
        have ha2 : w13.cell? ⟨qa, 2, none⟩ = some (.int .i64 x.n) := HXa.out.at_ 2 _ rfl
        have hb0 : w13.cell? ⟨qb, 0, none⟩ = some (.slice Ay y.f.length cy) := HXb.out.at_ 0 _ rfl
        have hb1 : w13.cell? ⟨qb, 1, none⟩ = some (.slice By y.r.length dy) := HXb.out.at_ 1 _ rfl
        have hb2 : w13.cell? ⟨qb, 2, none⟩ = some (.int .i64 y.n) := HXb.out.at_ 2 _ rfl
        go_wp2_with fail
        go_ret
        exact ⟨rfl, HW.out⟩
      case pos =>
        subst h0
        obtain ⟨-, nd, hok⟩ := HOK.out rfl
        have HK := Go.Lib.hid hok
        have HDN := Go.Lib.hid (HDX.out f r)
        rw [hok.near] at HDN
        have hone := hok.one
        have HLQ := Go.Lib.hid hok.len
        have hfl := hok.fl
        have hrl := hok.rl
        obtain ⟨nd0, nd1⟩ := hok.nd0
        obtain ⟨w0, w1⟩ := hok.w0
        clear hok
        have ha0 : w13.cell? ⟨qa, 0, none⟩ = some (.slice Ax x.f.length cx) := HXa.out.at_ 0 _ rfl
        have ha1 : w13.cell? ⟨qa, 1, none⟩ = some (.slice Bx x.r.length dx) := HXa.out.at_ 1 _ rfl
        have ha2 : w13.cell? ⟨qa, 2, none⟩ = some (.int .i64 x.n) := HXa.out.at_ 2 _ rfl
        have hb0 : w13.cell? ⟨qb, 0, none⟩ = some (.slice Ay y.f.length cy) := HXb.out.at_ 0 _ rfl
        have hb1 : w13.cell? ⟨qb, 1, none⟩ = some (.slice By y.r.length dy) := HXb.out.at_ 1 _ rfl
        have hb2 : w13.cell? ⟨qb, 2, none⟩ = some (.int .i64 y.n) := HXb.out.at_ 2 _ rfl
        go_wp2_with fail
        refine (HDN.out _ HTa.out).mono ?_
        rintro _ w14 ⟨rfl, b14⟩
        clear ha0 ha1 ha2 hb0 hb1 hb2
        have HTa := Go.Lib.hid (HTa.out.below b14)
        have HXa := Go.Lib.hid (HXa.out.below b14)
        have HZo := Go.Lib.hid (HZo.out.below b14)
        have HZk := Go.Lib.hid (HZk.out.below b14)
        have HTb := Go.Lib.hid (HTb.out.below b14)
        have HXb := Go.Lib.hid (HXb.out.below b14)
        have HW := Go.Lib.hid (HW.out.trans (b14.mono HW.out.size))
        clear b14
        have HOL := Go.Lib.hid (show os.length = L.length by rw [HOS.out, rowsG_len])
        obtain ⟨lastOf, hlast⟩ : ∃ lastOf : Nat → Int, lastOf = fun k => if k = 0 then 0 else devI x (L.getD (k - 1) (0, 0)) := ⟨_, rfl⟩
        have HL0 := Go.Lib.hid (show lastOf 0 = 0 by rw [hlast]; rfl)
        have HLS := Go.Lib.hid (fun k => show lastOf (k + 1) = devI x (L.getD k (0, 0)) by rw [hlast]; rfl)
        have HLN := Go.Lib.hid (fun k (hk : k < L.length) => show ¬ devI x (L.getD k (0, 0)) < lastOf k by
          cases k with
          | zero => rw [HL0.out]; have := (HK.out.bd 0 hk).1; omega
          | succ k => rw [HLS.out]; have := HK.out.up k hk; omega)
        clear hlast
        rw [HOL.out]
        have HBV := Go.Lib.hid (Below.refl w14.heap.size w14)
        have ha0 : w14.cell? ⟨qa, 0, none⟩ = some (.slice Ax x.f.length cx) := HXa.out.at_ 0 _ rfl
        have ha1 : w14.cell? ⟨qa, 1, none⟩ = some (.slice Bx x.r.length dx) := HXa.out.at_ 1 _ rfl
        have ha2 : w14.cell? ⟨qa, 2, none⟩ = some (.int .i64 x.n) := HXa.out.at_ 2 _ rfl
        have hb0 : w14.cell? ⟨qb, 0, none⟩ = some (.slice Ay y.f.length cy) := HXb.out.at_ 0 _ rfl
        have hb1 : w14.cell? ⟨qb, 1, none⟩ = some (.slice By y.r.length dy) := HXb.out.at_ 1 _ rfl
        have hb2 : w14.cell? ⟨qb, 2, none⟩ = some (.int .i64 y.n) := HXb.out.at_ 2 _ rfl
        go_wp2_with fail
        clear ha0 ha1 ha2 hb0 hb1 hb2
        go_loopw [24, 25] (fun t i wr => ∃ k : Nat, k ≤ L.length ∧ i = .int .i64 k ∧ t = .int .i64 (lastOf k) ∧ Below w14.heap.size w14 wr) (fun _ i _ => L.length - (intOf i).toNat)
        case atStart => exact ⟨0, Nat.zero_le _, rfl, by rw [HL0.out], HBV.out⟩
        case round =>
          obtain ⟨k, hk, rfl, rfl, hw⟩ := hrel
          have HQ := Go.Lib.hid hw
          have HXB := Go.Lib.hid (HXa.out.below hw)
          by_cases hlt : k < L.length
          case pos =>
            obtain ⟨ob, oo, D, ed, hAo, hob, hrd⟩ := (HZo.out.below hw).at_ k (by rw [HOL.out]; exact hlt)
            subst hAo
            have HRW := Go.Lib.hid (show rowAt os k = rowG (L.getD k (0, 0)) by rw [HOS.out]; exact rowsG_at hlt)
            rw [HRW.out] at hob hrd
            have HDK := Go.Lib.hid (fun w0 T0 => HDX.out (L.getD k (0, 0)).1 (L.getD k (0, 0)).2 w0 T0)
            rw [HK.out.dev k hlt] at HDK
            obtain ⟨n0, n1⟩ := HK.out.bd k hlt
            have hfar := HK.out.far k hlt
            have hln2 := HLN.out k hlt
            have HLK := Go.Lib.hid (HLS.out k)
            generalize L.getD k (0, 0) = gg at *
            generalize devI x gg = nn at *
            generalize lastOf k = la at *
            obtain ⟨eb, eo, e, -, -, hcs⟩ := hrd.at_ (k := 0) (by simp [rowG])
            subst e
            have hob : wr.cell? ⟨ob, oo + k, none⟩ = some (.slice (some ⟨eb, eo, none⟩) 2 ed) := hob
            have he0 : wr.cell? ⟨eb, eo, none⟩ = some (.int .i64 (gg.1 : Nat)) := hcs 0 _ rfl
            have he1 : wr.cell? ⟨eb, eo + 1, none⟩ = some (.int .i64 (gg.2 : Nat)) := hcs 1 _ rfl
            clear hrd hcs
            have ha0 : wr.cell? ⟨qa, 0, none⟩ = some (.slice Ax x.f.length cx) := HXB.out.at_ 0 _ rfl
            have ha1 : wr.cell? ⟨qa, 1, none⟩ = some (.slice Bx x.r.length dx) := HXB.out.at_ 1 _ rfl
            have ha2 : wr.cell? ⟨qa, 2, none⟩ = some (.int .i64 x.n) := HXB.out.at_ 2 _ rfl
            have hkl : (k : Int) < L.length := by omega
            have e1 : IntKind.i64.wrap (nn - wanted) = nn - wanted := IntWalk.i64_in _ (by omega)
            have e2 : IntKind.i64.wrap (wanted - nn) = wanted - nn := IntWalk.i64_in _ (by omega)
            have e3 : IntKind.i64.wrap (nd - wanted) = nd - wanted := IntWalk.i64_in _ (by omega)
            have e4 : IntKind.i64.wrap (wanted - nd) = wanted - nd := IntWalk.i64_in _ (by omega)
            have HTV0 := Go.Lib.hid (HTa.out.below hw)
            clear hw
            go_upto_region 20 with fail
            refine wp_region_held_drew (S := fun w' => w'.cell? ⟨qa, 0, none⟩ = some (.slice Ax x.f.length cx) ∧ w'.cell? ⟨qa, 1, none⟩ = some (.slice Bx x.r.length dx) ∧ w'.cell? ⟨qa, 2, none⟩ = some (.int .i64 x.n) ∧ w'.cell? ⟨ob, oo + k, none⟩ = some (.slice (some ⟨eb, eo, none⟩) 2 ed) ∧ w'.cell? ⟨eb, eo, none⟩ = some (.int .i64 (gg.1 : Nat)) ∧ w'.cell? ⟨eb, eo + 1, none⟩ = some (.int .i64 (gg.2 : Nat))) (by kernel_rfl) (by exact ⟨ha0, ha1, ha2, hob, he0, he1⟩) (fun hHeld => ?_)
            change wpAnyH _ _ _ _ _ _ _ _ (wr.drewN 1)
            have HTV := Go.Lib.hid (HTV0.out.below (below_drewN (Below.refl wr.heap.size wr) 1))
            have HQV := Go.Lib.hid (below_drewN HQ.out 1)
            have hHeld2 : (wr.drewN 1).cell? ⟨qa, 0, none⟩ = some (.slice Ax x.f.length cx) ∧ (wr.drewN 1).cell? ⟨qa, 1, none⟩ = some (.slice Bx x.r.length dx) ∧ (wr.drewN 1).cell? ⟨qa, 2, none⟩ = some (.int .i64 x.n) ∧ (wr.drewN 1).cell? ⟨ob, oo + k, none⟩ = some (.slice (some ⟨eb, eo, none⟩) 2 ed) ∧ (wr.drewN 1).cell? ⟨eb, eo, none⟩ = some (.int .i64 (gg.1 : Nat)) ∧ (wr.drewN 1).cell? ⟨eb, eo + 1, none⟩ = some (.int .i64 (gg.2 : Nat)) := ⟨ha0, ha1, ha2, hob, he0, he1⟩
            clear ha0 ha1 ha2 hob he0 he1
            generalize wr.drewN 1 = V at *
            obtain ⟨ha0, ha1, ha2, hob, he0, he1⟩ := hHeld2
            have hHeld2 := (⟨ha0, ha1, ha2, hob, he0, he1⟩ : V.cell? ⟨qa, 0, none⟩ = some (.slice Ax x.f.length cx) ∧ V.cell? ⟨qa, 1, none⟩ = some (.slice Bx x.r.length dx) ∧ V.cell? ⟨qa, 2, none⟩ = some (.int .i64 x.n) ∧ V.cell? ⟨ob, oo + k, none⟩ = some (.slice (some ⟨eb, eo, none⟩) 2 ed) ∧ V.cell? ⟨eb, eo, none⟩ = some (.int .i64 (gg.1 : Nat)) ∧ V.cell? ⟨eb, eo + 1, none⟩ = some (.int .i64 (gg.2 : Nat)))
            refine wpAnyH_take (i := 0) (v := ?vg1) rfl (by kernel_rfl) (by kernel_rfl) (by kernel_rfl) (fun _ _ _ h => h) (Or.inl ⟨by rfl, ?hyg1⟩) (by assumption) ?restg1
            case hyg1 => (intro w hSw; (try dsimp only at hSw); go_simp; try with_reducible rfl)
            try simp only [List.getElem_toArray, List.getElem_cons_succ, List.getElem_cons_zero, Act.put, List.setIfInBounds_toArray, List.set_cons_zero, List.set_cons_succ]
            refine wpAnyH_take (i := 1) (v := ?vg2) rfl (by kernel_rfl) (by kernel_rfl) (by kernel_rfl) (fun _ _ _ h => h) (Or.inl ⟨by rfl, ?hyg2⟩) (by assumption) ?restg2
            case hyg2 => (intro w hSw; (try dsimp only at hSw); go_simp; try with_reducible rfl)
            try simp only [List.getElem_toArray, List.getElem_cons_succ, List.getElem_cons_zero, Act.put, List.setIfInBounds_toArray, List.set_cons_zero, List.set_cons_succ]
            refine wpAnyH_take (i := 2) (v := ?vg3) rfl (by kernel_rfl) (by kernel_rfl) (by kernel_rfl) (fun _ _ _ h => h) (Or.inl ⟨by rfl, ?hyg3⟩) (by assumption) ?restg3
            case hyg3 => (intro w hSw; (try dsimp only at hSw); go_simp; try with_reducible rfl)
            try simp only [List.getElem_toArray, List.getElem_cons_succ, List.getElem_cons_zero, Act.put, List.setIfInBounds_toArray, List.set_cons_zero, List.set_cons_succ]
            refine wpAnyH_take (i := 3) (v := ?vg4) rfl (by kernel_rfl) (by kernel_rfl) (by kernel_rfl) (fun _ _ _ h => h) (Or.inl ⟨by rfl, ?hyg4⟩) (by assumption) ?restg4
            case hyg4 => (intro w hSw; (try dsimp only at hSw); go_simp; try with_reducible rfl)
            try simp only [List.getElem_toArray, List.getElem_cons_succ, List.getElem_cons_zero, Act.put, List.setIfInBounds_toArray, List.set_cons_zero, List.set_cons_succ]
            refine wpAnyH_take (i := 4) (v := ?vg5) rfl (by kernel_rfl) (by kernel_rfl) (by kernel_rfl) (fun _ _ _ h => h) (Or.inl ⟨by rfl, ?hyg5⟩) (by assumption) ?restg5
            case hyg5 => (intro w hSw; (try dsimp only at hSw); go_simp; try with_reducible rfl)
            try simp only [List.getElem_toArray, List.getElem_cons_succ, List.getElem_cons_zero, Act.put, List.setIfInBounds_toArray, List.set_cons_zero, List.set_cons_succ]
            refine wpAnyH_take (i := 5) (v := ?vg6) rfl (by kernel_rfl) (by kernel_rfl) (by kernel_rfl) (fun _ _ _ h => h) (Or.inl ⟨by rfl, ?hyg6⟩) (by assumption) ?restg6
            case hyg6 => (intro w hSw; (try dsimp only at hSw); go_simp; try with_reducible rfl)
            try simp only [List.getElem_toArray, List.getElem_cons_succ, List.getElem_cons_zero, Act.put, List.setIfInBounds_toArray, List.set_cons_zero, List.set_cons_succ]
            refine wpAnyH_take (i := 6) (v := ?vg7) rfl (by kernel_rfl) (by kernel_rfl) (by kernel_rfl) (fun _ _ _ h => h) (Or.inl ⟨by rfl, ?hyg7⟩) (by assumption) ?restg7
            case hyg7 => (intro w hSw; (try dsimp only at hSw); go_simp; try with_reducible rfl)
            try simp only [List.getElem_toArray, List.getElem_cons_succ, List.getElem_cons_zero, Act.put, List.setIfInBounds_toArray, List.set_cons_zero, List.set_cons_succ]
            refine wpAnyH_take (i := 7) (v := ?vg8) rfl (by kernel_rfl) (by kernel_rfl) (by kernel_rfl) (fun _ _ _ h => h) (Or.inl ⟨by rfl, ?hyg8⟩) (by assumption) ?restg8
            case hyg8 => (intro w hSw; (try dsimp only at hSw); go_simp; try with_reducible rfl)
            try simp only [List.getElem_toArray, List.getElem_cons_succ, List.getElem_cons_zero, Act.put, List.setIfInBounds_toArray, List.set_cons_zero, List.set_cons_succ]
            refine wpAnyH_take (i := 8) (v := ?vg9) rfl (by kernel_rfl) (by kernel_rfl) (by kernel_rfl) (fun _ _ _ h => h) (Or.inl ⟨by rfl, ?hyg9⟩) (by assumption) ?restg9
            case hyg9 => (intro w hSw; (try dsimp only at hSw); go_simp; try with_reducible rfl)
            try simp only [List.getElem_toArray, List.getElem_cons_succ, List.getElem_cons_zero, Act.put, List.setIfInBounds_toArray, List.set_cons_zero, List.set_cons_succ]
            refine wpAnyH_take (i := 9) (v := ?vg10) rfl (by kernel_rfl) (by kernel_rfl) (by kernel_rfl) (fun _ _ _ h => h) (Or.inl ⟨by rfl, ?hyg10⟩) (by assumption) ?restg10
            case hyg10 => (intro w hSw; (try dsimp only at hSw); go_simp; try with_reducible rfl)
            try simp only [List.getElem_toArray, List.getElem_cons_succ, List.getElem_cons_zero, Act.put, List.setIfInBounds_toArray, List.set_cons_zero, List.set_cons_succ]
            refine wpAnyH_take (i := 10) (v := ?vg11) rfl (by kernel_rfl) (by kernel_rfl) (by kernel_rfl) (fun _ _ _ h => h) (Or.inl ⟨by rfl, ?hyg11⟩) (by assumption) ?restg11
            case hyg11 => (intro w hSw; (try dsimp only at hSw); go_simp; try with_reducible rfl)
            try simp only [List.getElem_toArray, List.getElem_cons_succ, List.getElem_cons_zero, Act.put, List.setIfInBounds_toArray, List.set_cons_zero, List.set_cons_succ]
            refine wpAnyH_take (i := 11) (v := ?vg12) rfl (by kernel_rfl) (by kernel_rfl) (by kernel_rfl) (fun _ _ _ h => h) (Or.inl ⟨by rfl, ?hyg12⟩) (by assumption) ?restg12
            case hyg12 => (intro w hSw; (try dsimp only at hSw); go_simp; try with_reducible rfl)
            try simp only [List.getElem_toArray, List.getElem_cons_succ, List.getElem_cons_zero, Act.put, List.setIfInBounds_toArray, List.set_cons_zero, List.set_cons_succ]
            refine wpAnyH_take (i := 12) (v := ?vg13) rfl (by kernel_rfl) (by kernel_rfl) (by kernel_rfl) (fun _ _ _ h => h) (Or.inl ⟨by rfl, ?hyg13⟩) (by assumption) ?restg13
            case hyg13 => (intro w hSw; (try dsimp only at hSw); go_simp; try with_reducible rfl)
            try simp only [List.getElem_toArray, List.getElem_cons_succ, List.getElem_cons_zero, Act.put, List.setIfInBounds_toArray, List.set_cons_zero, List.set_cons_succ]
            refine wpAnyH_ready (rs := [13]) (by kernel_rfl) (by simp) ?_
            refine AllReadyH.cons rfl (fun K hK => ?_) AllReadyH.nil
            go_simp
            (go_at_call 22; refine (HDK.out _ HTV.out).mono ?_; rintro _ wc ⟨rfl, bc⟩)
            refine hK.out _ _ ?_ (fun hHeld => ?_)
            · exact ⟨(bc.cell (p := ⟨qa, 0, none⟩) (cell_in ha0)).trans ha0, (bc.cell (p := ⟨qa, 1, none⟩) (cell_in ha1)).trans ha1, (bc.cell (p := ⟨qa, 2, none⟩) (cell_in ha2)).trans ha2, (bc.cell (p := ⟨ob, oo + k, none⟩) (cell_in hob)).trans hob, (bc.cell (p := ⟨eb, eo, none⟩) (cell_in he0)).trans he0, (bc.cell (p := ⟨eb, eo + 1, none⟩) (cell_in he1)).trans he1⟩
            clear hK K
            try simp only [List.getElem_toArray, List.getElem_cons_succ, List.getElem_cons_zero, Act.put, List.setIfInBounds_toArray, List.set_cons_zero, List.set_cons_succ]
            refine wpAnyH_take (i := 14) (v := ?vg14) rfl (by kernel_rfl) (by kernel_rfl) (by kernel_rfl) (fun _ _ _ h => h) (Or.inl ⟨by rfl, ?hyg14⟩) (by assumption) ?restg14
            case hyg14 => (intro w hSw; (try dsimp only at hSw); go_simp; try with_reducible rfl)
            try simp only [List.getElem_toArray, List.getElem_cons_succ, List.getElem_cons_zero, Act.put, List.setIfInBounds_toArray, List.set_cons_zero, List.set_cons_succ]
            refine wpAnyH_take (i := 15) (v := ?vg15) rfl (by kernel_rfl) (by kernel_rfl) (by kernel_rfl) (fun _ _ _ h => h) (Or.inl ⟨by rfl, ?hyg15⟩) (by assumption) ?restg15
            case hyg15 => (intro w hSw; (try dsimp only at hSw); go_simp; try with_reducible rfl)
            try simp only [List.getElem_toArray, List.getElem_cons_succ, List.getElem_cons_zero, Act.put, List.setIfInBounds_toArray, List.set_cons_zero, List.set_cons_succ]
            refine wpAnyH_take (i := 16) (v := ?vg16) rfl (by kernel_rfl) (by kernel_rfl) (by kernel_rfl) (fun _ _ _ h => h) (Or.inl ⟨by rfl, ?hyg16⟩) (by assumption) ?restg16
            case hyg16 => (intro w hSw; (try dsimp only at hSw); go_simp; try with_reducible rfl)
            try simp only [List.getElem_toArray, List.getElem_cons_succ, List.getElem_cons_zero, Act.put, List.setIfInBounds_toArray, List.set_cons_zero, List.set_cons_succ]
            refine wpAnyH_take (i := 17) (v := ?vg17) rfl (by kernel_rfl) (by kernel_rfl) (by kernel_rfl) (fun _ _ _ h => h) (Or.inl ⟨by rfl, ?hyg17⟩) (by assumption) ?restg17
            case hyg17 => (intro w hSw; (try dsimp only at hSw); go_simp; try with_reducible rfl)
            try simp only [List.getElem_toArray, List.getElem_cons_succ, List.getElem_cons_zero, Act.put, List.setIfInBounds_toArray, List.set_cons_zero, List.set_cons_succ]
            refine wpAnyH_take (i := 18) (v := ?vg18) rfl (by kernel_rfl) (by kernel_rfl) (by kernel_rfl) (fun _ _ _ h => h) (Or.inl ⟨by rfl, ?hyg18⟩) (by assumption) ?restg18
            case hyg18 => (intro w hSw; (try dsimp only at hSw); go_simp; try with_reducible rfl)
            try simp only [List.getElem_toArray, List.getElem_cons_succ, List.getElem_cons_zero, Act.put, List.setIfInBounds_toArray, List.set_cons_zero, List.set_cons_succ]
            refine wpAnyH_done (by kernel_rfl) ?_ _
            have HBN := Go.Lib.hid (HQV.out.trans (bc.mono HQV.out.size))
            clear bc ha0 ha1 ha2 hob he0 he1 hHeld2 hHeld
            go_wp2_with fail
            go_roundw
            case rel => exact ⟨k + 1, by omega, by go_num, by rw [HLK.out], HBN.out⟩
            case measure => simp [intOf]; omega
          case neg =>
            obtain rfl : k = L.length := by omega
            have HWB := Go.Lib.hid (HW.out.trans (hw.mono HW.out.size))
            clear hw
            have ha0 : wr.cell? ⟨qa, 0, none⟩ = some (.slice Ax x.f.length cx) := HXB.out.at_ 0 _ rfl
            have ha1 : wr.cell? ⟨qa, 1, none⟩ = some (.slice Bx x.r.length dx) := HXB.out.at_ 1 _ rfl
            have hprod : (x.f.length : Int) * x.r.length = ((x.f.length * x.r.length : Nat) : Int) := by simp
            have e1 : IntKind.i64.wrap ((x.f.length : Int) * x.r.length) = (L.length : Int) := by rw [hprod, ← HLQ.out]; exact IntWalk.i64_in _ (by omega)
            clear hprod hfl hrl hone
            go_wp2_with fail
            go_ret
            exact ⟨rfl, HWB.out⟩

set_option maxRecDepth 100000 in
theorem lifted (os : Os) (started : os.Started) (H : Type) (enc : TypeId × Value → H) :
    ReturnsInHanded {} Try.checked os 3 .any (Rows.fnGearsSpec.pre6 enc Try.prog Try.f3 Rows.fnGearsRow.domain false) (Rows.fnGearsSpec.post enc Try.prog Try.f3 false true false false) := by
  refine returnsInHanded_of_change_sized (C := Try.checked) own started (by kernel_rfl) Try.func3
    (ChangeSpec.witness6 (enc := enc) (C := Try.checked) false ⟨#[], #[.slice none 0 0], []⟩ 8 (by kernel_rfl) (by kernel_rfl) (by kernel_rfl) (by kernel_rfl)) ?_
  intro W base args ds gs before hval0 hW hcnd hsz0 _
  have hsz : (DataW.weightsEach Try.prog (Try.f3.params.toList ++ Rows.fnGearsSpec.plain.varTypes Try.prog) (ds ++ gs)).all (· ≤ reachBytes) = true := hsz0
  clear hsz0
  have hval : ∀ (j : Nat) t v, Try.f3.params[j]? = some t → args[j]? = some v → Value.okWide Try.prog W .any base t v := hval0
  clear hval0
  have hW' := hW
  obtain ⟨p, q, hA0, hV, rfl, hfz, hnd⟩ := hW
  have hA : DataW.TrodAll enc Try.prog W 0 (fun _ => true) true Try.f3.params.toList args.toList ds p := hA0
  rw [Try.params3] at hA hval hsz
  obtain ⟨v0, vs0, d0, ds0, p0, q0, hargs, rfl, rfl, h0, r0⟩ := trodAll_cons hA
  obtain ⟨rfl, rfl, rfl⟩ := trodAll_nil r0
  obtain rfl : args = #[v0] := by cases args; simp_all
  obtain ⟨rfl, rfl⟩ := trodVars_none hV
  obtain ⟨a0, len0, cap0, rfl⟩ := okWide_slice Try.underlying22 (hval 0 22 v0 rfl rfl)
  have k0 := h0
  have lt0 : ∀ x ∈ p0, x.block < W.heap.size := by obtain ⟨m, hm⟩ := k0; exact DataW.trod_lt m _ _ _ hm
  obtain ⟨⟨z0, rd0, sz0⟩, hlc0, hp0⟩ := open_list_bytes h0
  have reach0 : len0 * 1 ≤ 140737488351232 := by
    rcases hp0 with hp0 | ⟨E0, S0, rfl, hl0⟩
    · omega
    · have := sized_slice hsz (j := 0) (t := 22) (e := 5) rfl rfl Try.underlying22
      rw [show Try.prog.bytesOf 5 = 1 by kernel_rfl] at this
      simp only [reachBytes] at this
      omega
  clear hA0
  refine (walk a0 len0 cap0 z0 W rd0 reach0 sz0).mono fun e W' ⟨he, bel⟩ => ?_
  subst he
  exact ⟨_, rfl, _, _, _, [], _, [], hW', trodAll_mk1 (shut_bool Try.underlying4 _), (trodAll_cons_mk (Below.trod laidOut (by kernel_rfl) (of_decide_eq_true (by kernel_rfl)) k0 bel lt0) trodAll_mk0), rfl, bel.frame _, fun h => by cases h⟩

theorem over : Rows.fnGearsRow.holds Try.pinned (OpenSpec.ofChange Rows.fnGearsSpec) :=
  OpenClaim.holds_of_wide 3 Try.f3 rfl rfl rfl rfl rfl rfl rfl ⟨rfl, rfl, rfl, rfl, rfl⟩ rfl rfl rfl rfl rfl (by kernel_rfl) Try.func3 (by kernel_rfl)
    (of_decide_eq_true (by kernel_rfl)) (by unfold Func.isWrapper; first | (rw [if_pos (by decide +kernel)]; kernel_rfl) | (rw [if_neg (by decide +kernel)]; exact ⟨rfl, rfl⟩))
    (fun os started H enc _ => lifted os started H enc)

theorem proved : Rows.FnGearsSaid := over
end Go.Proofs.Ytifblmcocikopaa.fnGears
