/- A greater cadence is never slower, and the cadence for a speed reaches it. -/
import Derived.Test.YtifblmcocikopaaRows
import Derived.Test.YtifblmcocikopaaGearImpl
import Derived.Test.YtifblmcocikopaaGearL
import Derived.Test.YtifblmcocikopaaDrawTr4
import Derived.Test.YtifblmcocikopaaBig
import Derived.Test.YtifblmcocikopaaOpenB
import Derived.WalkKit
import Derived.ProofKit
import Derived.OpenShut
import Derived.ShutString
import Derived.SizedLaws
namespace Go.Proofs.Ytifblmcocikopaa.fnSpeeds
open Go.ChangeShapes Go.WideShapes Go.ChangeAt Go.RowKit
open Go.ChangeMaps (open_string shut_string)
set_option linter.unusedVariables false

set_option linter.unusedSimpArgs false
set_option maxRecDepth 100000 in
set_option maxHeartbeats 16000000 in
theorem walk (A : Option Addr) (n cap : Nat) (bs : List Int) (w : World) (h : Rd w 0 w.heap.size A n (byts bs)) (hn : n * 1 ≤ 140737488351232) (hs : ∀ z ∈ bs, 0 ≤ z ∧ z ≤ 255) :
    Calls Try.prog 5 #[.slice A n cap] w fun e w' => e = .returned (.bool true) ∧ Below w.heap.size w w' := by
  have HB := Go.Lib.hid (big_ A n cap w)
  by_cases hbig : (4096 : Int) < n
  · go_enter Try.func5, Try.ntmps5
    go_wp2_with fail
    refine HB.out.mono ?_
    rintro e w' ⟨rfl, rfl⟩
    go_wp2_with fail
    go_ret
    exact ⟨rfl, Below.refl _ _⟩
  · have hb2 := big_ A n cap w
    rw [decide_eq_false hbig] at hb2
    have HB2 := Go.Lib.hid hb2
    have HRD := Go.Lib.hid (fun w1 (hb : Below w.heap.size w w1) => (h.below hb (Nat.le_refl _)).mono (Nat.le_refl _) hb.size)
    have HW := Go.Lib.hid (Below.refl w.heap.size w)
    clear hb2 HB hbig h
    have hnn : n ≤ 140737488355328 := by omega
    clear hn
    go_enter Try.func5, Try.ntmps5
    go_wp2_with fail
    refine HB2.out.mono ?_
    rintro e w' ⟨rfl, rfl⟩
    have HD := Go.Lib.hid (drawCadenceFor A n cap bs _ (HRD.out _ HW.out) hs hnn)
    go_wp2_with fail
    refine HD.out.mono ?_
    rintro _ w1 ⟨x, Ax, cx, Bx, dx, f, r, sp, rfl, t1, b1⟩
    have HW := Go.Lib.hid (HW.out.trans (b1.mono HW.out.size))
    have HTa := Go.Lib.hid t1
    unfold trainV at *
    clear t1 b1 HD
    go_upto_region 4 with fail
    refine wp_gen (R := fun W => Box W w1.heap.size (trainC x Ax cx Bx dx) ∧ Below w1.heap.size w1 W) ⟨boxT_box x Ax cx Bx dx w1, boxT_below x Ax cx Bx dx w1⟩ ?_
    rintro w2 ⟨hx, b2⟩
    have HTa := Go.Lib.hid (HTa.out.below b2)
    have HW := Go.Lib.hid (HW.out.trans (b2.mono HW.out.size))
    have HXa := Go.Lib.hid hx
    clear hx b2
    obtain ⟨qa, hq⟩ : ∃ q, w1.heap.size = q := ⟨_, rfl⟩
    rw [hq] at HXa
    try simp only [hq]
    clear hq
    obtain ⟨c, q, hC⟩ : ∃ c q, cadR x f r sp = (c, q) := ⟨_, _, rfl⟩
    have HC1 := Go.Lib.hid (fun w0 T0 => implCadFor x Ax cx Bx dx f r sp w0 T0)
    have HC2 := Go.Lib.hid (fun w0 T0 => specCadFor x Ax cx Bx dx f r sp w0 T0)
    rw [hC] at HC1 HC2
    have HRE := Go.Lib.hid (fun (h : q = 0) => cad_reach (x := x) (f := f) (r := r) (s := sp) (c := c) (by rw [hC, h]))
    have HSX := Go.Lib.hid (fun m w0 T0 => implSpeedAt x Ax cx Bx dx f r m w0 T0)
    clear hC
    unfold trainV at *
    have ha0 : w2.cell? ⟨qa, 0, none⟩ = some (.slice Ax x.f.length cx) := HXa.out.at_ 0 _ rfl
    have ha1 : w2.cell? ⟨qa, 1, none⟩ = some (.slice Bx x.r.length dx) := HXa.out.at_ 1 _ rfl
    have ha2 : w2.cell? ⟨qa, 2, none⟩ = some (.int .i64 x.n) := HXa.out.at_ 2 _ rfl
    go_wp2_with fail
    refine (HC1.out _ HTa.out).mono ?_
    rintro _ w3 ⟨rfl, b3⟩
    clear ha0 ha1 ha2
    have HTa := Go.Lib.hid (HTa.out.below b3)
    have HXa := Go.Lib.hid (HXa.out.below b3)
    have HW := Go.Lib.hid (HW.out.trans (b3.mono HW.out.size))
    clear b3
    have ha0 : w3.cell? ⟨qa, 0, none⟩ = some (.slice Ax x.f.length cx) := HXa.out.at_ 0 _ rfl
    have ha1 : w3.cell? ⟨qa, 1, none⟩ = some (.slice Bx x.r.length dx) := HXa.out.at_ 1 _ rfl
    have ha2 : w3.cell? ⟨qa, 2, none⟩ = some (.int .i64 x.n) := HXa.out.at_ 2 _ rfl
    go_wp2_with fail
    refine (HC2.out _ HTa.out).mono ?_
    rintro _ w4 ⟨rfl, b4⟩
    clear ha0 ha1 ha2
    have HTa := Go.Lib.hid (HTa.out.below b4)
    have HXa := Go.Lib.hid (HXa.out.below b4)
    have HW := Go.Lib.hid (HW.out.trans (b4.mono HW.out.size))
    clear b4
    have HD := Go.Lib.hid (drawSpeedAt A n cap bs _ (HRD.out _ HW.out) hs hnn)
    go_wp2_with fail
    refine HD.out.mono ?_
    rintro _ w5 ⟨y, Ay, cy, By, dy, f2, r2, m, rfl, t5, b5⟩
    have HTa := Go.Lib.hid (HTa.out.below b5)
    have HXa := Go.Lib.hid (HXa.out.below b5)
    have HW := Go.Lib.hid (HW.out.trans (b5.mono HW.out.size))
    have HTb := Go.Lib.hid t5
    unfold trainV at *
    clear t5 b5 HD
    go_upto_region 7 with fail
    refine wp_gen (R := fun W => Box W w5.heap.size (trainC y Ay cy By dy) ∧ Below w5.heap.size w5 W) ⟨boxT_box y Ay cy By dy w5, boxT_below y Ay cy By dy w5⟩ ?_
    rintro w6 ⟨hx, b6⟩
    have HTa := Go.Lib.hid (HTa.out.below b6)
    have HXa := Go.Lib.hid (HXa.out.below b6)
    have HTb := Go.Lib.hid (HTb.out.below b6)
    have HW := Go.Lib.hid (HW.out.trans (b6.mono HW.out.size))
    have HXb := Go.Lib.hid hx
    clear hx b6
    obtain ⟨qb, hq⟩ : ∃ q, w5.heap.size = q := ⟨_, rfl⟩
    rw [hq] at HXb
    try simp only [hq]
    clear hq
    obtain ⟨v, p, hS⟩ : ∃ v p, speedR y f2 r2 m = (v, p) := ⟨_, _, rfl⟩
    have HS1 := Go.Lib.hid (fun w0 T0 => implSpeedAt y Ay cy By dy f2 r2 m w0 T0)
    have HS2 := Go.Lib.hid (fun w0 T0 => specSpeedAt y Ay cy By dy f2 r2 m w0 T0)
    rw [hS] at HS1 HS2
    have HNX := Go.Lib.hid (fun (h : p = 0) => speed_next (x := y) (f := f2) (r := r2) (n := m) (s := v) (by rw [hS, h]))
    have HSY := Go.Lib.hid (fun m w0 T0 => implSpeedAt y Ay cy By dy f2 r2 m w0 T0)
    clear hS
    unfold trainV at *
    have ha0 : w6.cell? ⟨qa, 0, none⟩ = some (.slice Ax x.f.length cx) := HXa.out.at_ 0 _ rfl
    have ha1 : w6.cell? ⟨qa, 1, none⟩ = some (.slice Bx x.r.length dx) := HXa.out.at_ 1 _ rfl
    have ha2 : w6.cell? ⟨qa, 2, none⟩ = some (.int .i64 x.n) := HXa.out.at_ 2 _ rfl
    have hb0 : w6.cell? ⟨qb, 0, none⟩ = some (.slice Ay y.f.length cy) := HXb.out.at_ 0 _ rfl
    have hb1 : w6.cell? ⟨qb, 1, none⟩ = some (.slice By y.r.length dy) := HXb.out.at_ 1 _ rfl
    have hb2 : w6.cell? ⟨qb, 2, none⟩ = some (.int .i64 y.n) := HXb.out.at_ 2 _ rfl
    go_wp2_with fail
    refine (HS1.out _ HTb.out).mono ?_
    rintro _ w7 ⟨rfl, b7⟩
    clear ha0 ha1 ha2 hb0 hb1 hb2
    have HTa := Go.Lib.hid (HTa.out.below b7)
    have HXa := Go.Lib.hid (HXa.out.below b7)
    have HTb := Go.Lib.hid (HTb.out.below b7)
    have HXb := Go.Lib.hid (HXb.out.below b7)
    have HW := Go.Lib.hid (HW.out.trans (b7.mono HW.out.size))
    clear b7
    have ha0 : w7.cell? ⟨qa, 0, none⟩ = some (.slice Ax x.f.length cx) := HXa.out.at_ 0 _ rfl
    have ha1 : w7.cell? ⟨qa, 1, none⟩ = some (.slice Bx x.r.length dx) := HXa.out.at_ 1 _ rfl
    have ha2 : w7.cell? ⟨qa, 2, none⟩ = some (.int .i64 x.n) := HXa.out.at_ 2 _ rfl
    have hb0 : w7.cell? ⟨qb, 0, none⟩ = some (.slice Ay y.f.length cy) := HXb.out.at_ 0 _ rfl
    have hb1 : w7.cell? ⟨qb, 1, none⟩ = some (.slice By y.r.length dy) := HXb.out.at_ 1 _ rfl
    have hb2 : w7.cell? ⟨qb, 2, none⟩ = some (.int .i64 y.n) := HXb.out.at_ 2 _ rfl
    go_wp2_with fail
    refine (HS2.out _ HTb.out).mono ?_
    rintro _ w8 ⟨rfl, b8⟩
    clear ha0 ha1 ha2 hb0 hb1 hb2
    have HTa := Go.Lib.hid (HTa.out.below b8)
    have HXa := Go.Lib.hid (HXa.out.below b8)
    have HTb := Go.Lib.hid (HTb.out.below b8)
    have HXb := Go.Lib.hid (HXb.out.below b8)
    have HW := Go.Lib.hid (HW.out.trans (b8.mono HW.out.size))
    clear b8
    have hq1 : (q != q) = false := by simp
    have hq2 : (p != p) = false := by simp
    have hq3 : (c != c) = false := by simp
    have hq4 : (v != v) = false := by simp
    by_cases hp : p = 0 ∧ m < 200
    case pos =>
      obtain ⟨rfl, hm⟩ := hp
      obtain ⟨hm0, mo, hmo, hle⟩ := HNX.out rfl hm
      have em : IntKind.i64.wrap (m + 1) = m + 1 := IntWalk.i64_in _ (by omega)
      have HM := Go.Lib.hid (HSY.out (m + 1))
      rw [hmo] at HM
      have hnl2 : ¬ mo < v := by omega
      clear hmo hle
      have ha0 : w8.cell? ⟨qa, 0, none⟩ = some (.slice Ax x.f.length cx) := HXa.out.at_ 0 _ rfl
      have ha1 : w8.cell? ⟨qa, 1, none⟩ = some (.slice Bx x.r.length dx) := HXa.out.at_ 1 _ rfl
      have ha2 : w8.cell? ⟨qa, 2, none⟩ = some (.int .i64 x.n) := HXa.out.at_ 2 _ rfl
      have hb0 : w8.cell? ⟨qb, 0, none⟩ = some (.slice Ay y.f.length cy) := HXb.out.at_ 0 _ rfl
      have hb1 : w8.cell? ⟨qb, 1, none⟩ = some (.slice By y.r.length dy) := HXb.out.at_ 1 _ rfl
      have hb2 : w8.cell? ⟨qb, 2, none⟩ = some (.int .i64 y.n) := HXb.out.at_ 2 _ rfl
      go_wp2_with fail
      refine (HM.out _ HTb.out).mono ?_
      rintro _ w9 ⟨rfl, b9⟩
      clear ha0 ha1 ha2 hb0 hb1 hb2
      have HTa := Go.Lib.hid (HTa.out.below b9)
      have HXa := Go.Lib.hid (HXa.out.below b9)
      have HTb := Go.Lib.hid (HTb.out.below b9)
      have HXb := Go.Lib.hid (HXb.out.below b9)
      have HW := Go.Lib.hid (HW.out.trans (b9.mono HW.out.size))
      clear b9
      by_cases hq : q = 0
      case neg =>
        have hqb : (q != 0) = true := by simpa using hq
        have ha0 : w9.cell? ⟨qa, 0, none⟩ = some (.slice Ax x.f.length cx) := HXa.out.at_ 0 _ rfl
        have ha1 : w9.cell? ⟨qa, 1, none⟩ = some (.slice Bx x.r.length dx) := HXa.out.at_ 1 _ rfl
        have ha2 : w9.cell? ⟨qa, 2, none⟩ = some (.int .i64 x.n) := HXa.out.at_ 2 _ rfl
        have hb0 : w9.cell? ⟨qb, 0, none⟩ = some (.slice Ay y.f.length cy) := HXb.out.at_ 0 _ rfl
        have hb1 : w9.cell? ⟨qb, 1, none⟩ = some (.slice By y.r.length dy) := HXb.out.at_ 1 _ rfl
        have hb2 : w9.cell? ⟨qb, 2, none⟩ = some (.int .i64 y.n) := HXb.out.at_ 2 _ rfl
        go_wp2_with fail
        go_ret
        exact ⟨rfl, HW.out⟩
      case pos =>
        subst hq
        obtain ⟨hc0, hc1, ⟨u, hu, hle⟩, hless⟩ := HRE.out rfl
        have HR1 := Go.Lib.hid (HSX.out c)
        rw [hu] at HR1
        have hnl : ¬ u < sp := by omega
        have HLS := Go.Lib.hid hless
        clear hu hless hle
        have ha0 : w9.cell? ⟨qa, 0, none⟩ = some (.slice Ax x.f.length cx) := HXa.out.at_ 0 _ rfl
        have ha1 : w9.cell? ⟨qa, 1, none⟩ = some (.slice Bx x.r.length dx) := HXa.out.at_ 1 _ rfl
        have ha2 : w9.cell? ⟨qa, 2, none⟩ = some (.int .i64 x.n) := HXa.out.at_ 2 _ rfl
        have hb0 : w9.cell? ⟨qb, 0, none⟩ = some (.slice Ay y.f.length cy) := HXb.out.at_ 0 _ rfl
        have hb1 : w9.cell? ⟨qb, 1, none⟩ = some (.slice By y.r.length dy) := HXb.out.at_ 1 _ rfl
        have hb2 : w9.cell? ⟨qb, 2, none⟩ = some (.int .i64 y.n) := HXb.out.at_ 2 _ rfl
        go_wp2_with fail
        refine (HR1.out _ HTa.out).mono ?_
        rintro _ w10 ⟨rfl, b10⟩
        clear ha0 ha1 ha2 hb0 hb1 hb2
        have HTa := Go.Lib.hid (HTa.out.below b10)
        have HXa := Go.Lib.hid (HXa.out.below b10)
        have HTb := Go.Lib.hid (HTb.out.below b10)
        have HXb := Go.Lib.hid (HXb.out.below b10)
        have HW := Go.Lib.hid (HW.out.trans (b10.mono HW.out.size))
        clear b10
        by_cases h0 : c = 0
        case pos =>
          subst h0
          have ha0 : w10.cell? ⟨qa, 0, none⟩ = some (.slice Ax x.f.length cx) := HXa.out.at_ 0 _ rfl
          have ha1 : w10.cell? ⟨qa, 1, none⟩ = some (.slice Bx x.r.length dx) := HXa.out.at_ 1 _ rfl
          have ha2 : w10.cell? ⟨qa, 2, none⟩ = some (.int .i64 x.n) := HXa.out.at_ 2 _ rfl
          have hb0 : w10.cell? ⟨qb, 0, none⟩ = some (.slice Ay y.f.length cy) := HXb.out.at_ 0 _ rfl
          have hb1 : w10.cell? ⟨qb, 1, none⟩ = some (.slice By y.r.length dy) := HXb.out.at_ 1 _ rfl
          have hb2 : w10.cell? ⟨qb, 2, none⟩ = some (.int .i64 y.n) := HXb.out.at_ 2 _ rfl
          go_wp2_with fail
          go_ret
          exact ⟨rfl, HW.out⟩
        case neg =>
          obtain ⟨e, he, hlt⟩ := HLS.out h0
          have ew : IntKind.i64.wrap (c - 1) = c - 1 := IntWalk.i64_in _ (by omega)
          have HR2 := Go.Lib.hid (HSX.out (c - 1))
          rw [he] at HR2
          have hcb : (c == 0) = false := by simpa using h0
          clear he
          clear h0 hc0 hc1
          have ha0 : w10.cell? ⟨qa, 0, none⟩ = some (.slice Ax x.f.length cx) := HXa.out.at_ 0 _ rfl
          have ha1 : w10.cell? ⟨qa, 1, none⟩ = some (.slice Bx x.r.length dx) := HXa.out.at_ 1 _ rfl
          have ha2 : w10.cell? ⟨qa, 2, none⟩ = some (.int .i64 x.n) := HXa.out.at_ 2 _ rfl
          have hb0 : w10.cell? ⟨qb, 0, none⟩ = some (.slice Ay y.f.length cy) := HXb.out.at_ 0 _ rfl
          have hb1 : w10.cell? ⟨qb, 1, none⟩ = some (.slice By y.r.length dy) := HXb.out.at_ 1 _ rfl
          have hb2 : w10.cell? ⟨qb, 2, none⟩ = some (.int .i64 y.n) := HXb.out.at_ 2 _ rfl
          go_wp2_with fail
          refine (HR2.out _ HTa.out).mono ?_
          rintro _ w11 ⟨rfl, b11⟩
          clear ha0 ha1 ha2 hb0 hb1 hb2
          have HTa := Go.Lib.hid (HTa.out.below b11)
          have HXa := Go.Lib.hid (HXa.out.below b11)
          have HTb := Go.Lib.hid (HTb.out.below b11)
          have HXb := Go.Lib.hid (HXb.out.below b11)
          have HW := Go.Lib.hid (HW.out.trans (b11.mono HW.out.size))
          clear b11
          have ha0 : w11.cell? ⟨qa, 0, none⟩ = some (.slice Ax x.f.length cx) := HXa.out.at_ 0 _ rfl
          have ha1 : w11.cell? ⟨qa, 1, none⟩ = some (.slice Bx x.r.length dx) := HXa.out.at_ 1 _ rfl
          have ha2 : w11.cell? ⟨qa, 2, none⟩ = some (.int .i64 x.n) := HXa.out.at_ 2 _ rfl
          have hb0 : w11.cell? ⟨qb, 0, none⟩ = some (.slice Ay y.f.length cy) := HXb.out.at_ 0 _ rfl
          have hb1 : w11.cell? ⟨qb, 1, none⟩ = some (.slice By y.r.length dy) := HXb.out.at_ 1 _ rfl
          have hb2 : w11.cell? ⟨qb, 2, none⟩ = some (.int .i64 y.n) := HXb.out.at_ 2 _ rfl
          go_wp2_with fail
          go_ret
          exact ⟨rfl, HW.out⟩
    case neg =>
      have hb : (decide (p = 0) && decide (m < 200)) = false := by rw [← Bool.not_eq_true]; simpa using hp
      by_cases hp0 : p = 0
      case pos =>
        subst hp0
        have hm : ¬ m < 200 := fun h => hp ⟨rfl, h⟩
        clear hp hb
        by_cases hq : q = 0
        case neg =>
          have hqb : (q != 0) = true := by simpa using hq
          have ha0 : w8.cell? ⟨qa, 0, none⟩ = some (.slice Ax x.f.length cx) := HXa.out.at_ 0 _ rfl
          have ha1 : w8.cell? ⟨qa, 1, none⟩ = some (.slice Bx x.r.length dx) := HXa.out.at_ 1 _ rfl
          have ha2 : w8.cell? ⟨qa, 2, none⟩ = some (.int .i64 x.n) := HXa.out.at_ 2 _ rfl
          have hb0 : w8.cell? ⟨qb, 0, none⟩ = some (.slice Ay y.f.length cy) := HXb.out.at_ 0 _ rfl
          have hb1 : w8.cell? ⟨qb, 1, none⟩ = some (.slice By y.r.length dy) := HXb.out.at_ 1 _ rfl
          have hb2 : w8.cell? ⟨qb, 2, none⟩ = some (.int .i64 y.n) := HXb.out.at_ 2 _ rfl
          go_wp2_with fail
          go_ret
          exact ⟨rfl, HW.out⟩
        case pos =>
          subst hq
          obtain ⟨hc0, hc1, ⟨u, hu, hle⟩, hless⟩ := HRE.out rfl
          have HR1 := Go.Lib.hid (HSX.out c)
          rw [hu] at HR1
          have hnl : ¬ u < sp := by omega
          have HLS := Go.Lib.hid hless
          clear hu hless hle
          have ha0 : w8.cell? ⟨qa, 0, none⟩ = some (.slice Ax x.f.length cx) := HXa.out.at_ 0 _ rfl
          have ha1 : w8.cell? ⟨qa, 1, none⟩ = some (.slice Bx x.r.length dx) := HXa.out.at_ 1 _ rfl
          have ha2 : w8.cell? ⟨qa, 2, none⟩ = some (.int .i64 x.n) := HXa.out.at_ 2 _ rfl
          have hb0 : w8.cell? ⟨qb, 0, none⟩ = some (.slice Ay y.f.length cy) := HXb.out.at_ 0 _ rfl
          have hb1 : w8.cell? ⟨qb, 1, none⟩ = some (.slice By y.r.length dy) := HXb.out.at_ 1 _ rfl
          have hb2 : w8.cell? ⟨qb, 2, none⟩ = some (.int .i64 y.n) := HXb.out.at_ 2 _ rfl
          go_wp2_with fail
          refine (HR1.out _ HTa.out).mono ?_
          rintro _ w12 ⟨rfl, b12⟩
          clear ha0 ha1 ha2 hb0 hb1 hb2
          have HTa := Go.Lib.hid (HTa.out.below b12)
          have HXa := Go.Lib.hid (HXa.out.below b12)
          have HTb := Go.Lib.hid (HTb.out.below b12)
          have HXb := Go.Lib.hid (HXb.out.below b12)
          have HW := Go.Lib.hid (HW.out.trans (b12.mono HW.out.size))
          clear b12
          by_cases h0 : c = 0
          case pos =>
            subst h0
            have ha0 : w12.cell? ⟨qa, 0, none⟩ = some (.slice Ax x.f.length cx) := HXa.out.at_ 0 _ rfl
            have ha1 : w12.cell? ⟨qa, 1, none⟩ = some (.slice Bx x.r.length dx) := HXa.out.at_ 1 _ rfl
            have ha2 : w12.cell? ⟨qa, 2, none⟩ = some (.int .i64 x.n) := HXa.out.at_ 2 _ rfl
            have hb0 : w12.cell? ⟨qb, 0, none⟩ = some (.slice Ay y.f.length cy) := HXb.out.at_ 0 _ rfl
            have hb1 : w12.cell? ⟨qb, 1, none⟩ = some (.slice By y.r.length dy) := HXb.out.at_ 1 _ rfl
            have hb2 : w12.cell? ⟨qb, 2, none⟩ = some (.int .i64 y.n) := HXb.out.at_ 2 _ rfl
            go_wp2_with fail
            go_ret
            exact ⟨rfl, HW.out⟩
          case neg =>
            obtain ⟨e, he, hlt⟩ := HLS.out h0
            have ew : IntKind.i64.wrap (c - 1) = c - 1 := IntWalk.i64_in _ (by omega)
            have HR2 := Go.Lib.hid (HSX.out (c - 1))
            rw [he] at HR2
            have hcb : (c == 0) = false := by simpa using h0
            clear he
            clear h0 hc0 hc1
            have ha0 : w12.cell? ⟨qa, 0, none⟩ = some (.slice Ax x.f.length cx) := HXa.out.at_ 0 _ rfl
            have ha1 : w12.cell? ⟨qa, 1, none⟩ = some (.slice Bx x.r.length dx) := HXa.out.at_ 1 _ rfl
            have ha2 : w12.cell? ⟨qa, 2, none⟩ = some (.int .i64 x.n) := HXa.out.at_ 2 _ rfl
            have hb0 : w12.cell? ⟨qb, 0, none⟩ = some (.slice Ay y.f.length cy) := HXb.out.at_ 0 _ rfl
            have hb1 : w12.cell? ⟨qb, 1, none⟩ = some (.slice By y.r.length dy) := HXb.out.at_ 1 _ rfl
            have hb2 : w12.cell? ⟨qb, 2, none⟩ = some (.int .i64 y.n) := HXb.out.at_ 2 _ rfl
            go_wp2_with fail
            refine (HR2.out _ HTa.out).mono ?_
            rintro _ w13 ⟨rfl, b13⟩
            clear ha0 ha1 ha2 hb0 hb1 hb2
            have HTa := Go.Lib.hid (HTa.out.below b13)
            have HXa := Go.Lib.hid (HXa.out.below b13)
            have HTb := Go.Lib.hid (HTb.out.below b13)
            have HXb := Go.Lib.hid (HXb.out.below b13)
            have HW := Go.Lib.hid (HW.out.trans (b13.mono HW.out.size))
            clear b13
            have ha0 : w13.cell? ⟨qa, 0, none⟩ = some (.slice Ax x.f.length cx) := HXa.out.at_ 0 _ rfl
            have ha1 : w13.cell? ⟨qa, 1, none⟩ = some (.slice Bx x.r.length dx) := HXa.out.at_ 1 _ rfl
            have ha2 : w13.cell? ⟨qa, 2, none⟩ = some (.int .i64 x.n) := HXa.out.at_ 2 _ rfl
            have hb0 : w13.cell? ⟨qb, 0, none⟩ = some (.slice Ay y.f.length cy) := HXb.out.at_ 0 _ rfl
            have hb1 : w13.cell? ⟨qb, 1, none⟩ = some (.slice By y.r.length dy) := HXb.out.at_ 1 _ rfl
            have hb2 : w13.cell? ⟨qb, 2, none⟩ = some (.int .i64 y.n) := HXb.out.at_ 2 _ rfl
            go_wp2_with fail
            go_ret
            exact ⟨rfl, HW.out⟩
      case neg =>
        have hpb : (p == 0) = false := by simpa using hp0
        clear hp hb
        by_cases hq : q = 0
        case neg =>
          have hqb : (q != 0) = true := by simpa using hq
          have ha0 : w8.cell? ⟨qa, 0, none⟩ = some (.slice Ax x.f.length cx) := HXa.out.at_ 0 _ rfl
          have ha1 : w8.cell? ⟨qa, 1, none⟩ = some (.slice Bx x.r.length dx) := HXa.out.at_ 1 _ rfl
          have ha2 : w8.cell? ⟨qa, 2, none⟩ = some (.int .i64 x.n) := HXa.out.at_ 2 _ rfl
          have hb0 : w8.cell? ⟨qb, 0, none⟩ = some (.slice Ay y.f.length cy) := HXb.out.at_ 0 _ rfl
          have hb1 : w8.cell? ⟨qb, 1, none⟩ = some (.slice By y.r.length dy) := HXb.out.at_ 1 _ rfl
          have hb2 : w8.cell? ⟨qb, 2, none⟩ = some (.int .i64 y.n) := HXb.out.at_ 2 _ rfl
          go_wp2_with fail
          go_ret
          exact ⟨rfl, HW.out⟩
        case pos =>
          subst hq
          obtain ⟨hc0, hc1, ⟨u, hu, hle⟩, hless⟩ := HRE.out rfl
          have HR1 := Go.Lib.hid (HSX.out c)
          rw [hu] at HR1
          have hnl : ¬ u < sp := by omega
          have HLS := Go.Lib.hid hless
          clear hu hless hle
          have ha0 : w8.cell? ⟨qa, 0, none⟩ = some (.slice Ax x.f.length cx) := HXa.out.at_ 0 _ rfl
          have ha1 : w8.cell? ⟨qa, 1, none⟩ = some (.slice Bx x.r.length dx) := HXa.out.at_ 1 _ rfl
          have ha2 : w8.cell? ⟨qa, 2, none⟩ = some (.int .i64 x.n) := HXa.out.at_ 2 _ rfl
          have hb0 : w8.cell? ⟨qb, 0, none⟩ = some (.slice Ay y.f.length cy) := HXb.out.at_ 0 _ rfl
          have hb1 : w8.cell? ⟨qb, 1, none⟩ = some (.slice By y.r.length dy) := HXb.out.at_ 1 _ rfl
          have hb2 : w8.cell? ⟨qb, 2, none⟩ = some (.int .i64 y.n) := HXb.out.at_ 2 _ rfl
          go_wp2_with fail
          refine (HR1.out _ HTa.out).mono ?_
          rintro _ w14 ⟨rfl, b14⟩
          clear ha0 ha1 ha2 hb0 hb1 hb2
          have HTa := Go.Lib.hid (HTa.out.below b14)
          have HXa := Go.Lib.hid (HXa.out.below b14)
          have HTb := Go.Lib.hid (HTb.out.below b14)
          have HXb := Go.Lib.hid (HXb.out.below b14)
          have HW := Go.Lib.hid (HW.out.trans (b14.mono HW.out.size))
          clear b14
          by_cases h0 : c = 0
          case pos =>
            subst h0
            have ha0 : w14.cell? ⟨qa, 0, none⟩ = some (.slice Ax x.f.length cx) := HXa.out.at_ 0 _ rfl
            have ha1 : w14.cell? ⟨qa, 1, none⟩ = some (.slice Bx x.r.length dx) := HXa.out.at_ 1 _ rfl
            have ha2 : w14.cell? ⟨qa, 2, none⟩ = some (.int .i64 x.n) := HXa.out.at_ 2 _ rfl
            have hb0 : w14.cell? ⟨qb, 0, none⟩ = some (.slice Ay y.f.length cy) := HXb.out.at_ 0 _ rfl
            have hb1 : w14.cell? ⟨qb, 1, none⟩ = some (.slice By y.r.length dy) := HXb.out.at_ 1 _ rfl
            have hb2 : w14.cell? ⟨qb, 2, none⟩ = some (.int .i64 y.n) := HXb.out.at_ 2 _ rfl
            go_wp2_with fail
            go_ret
            exact ⟨rfl, HW.out⟩
          case neg =>
            obtain ⟨e, he, hlt⟩ := HLS.out h0
            have ew : IntKind.i64.wrap (c - 1) = c - 1 := IntWalk.i64_in _ (by omega)
            have HR2 := Go.Lib.hid (HSX.out (c - 1))
            rw [he] at HR2
            have hcb : (c == 0) = false := by simpa using h0
            clear he
            clear h0 hc0 hc1
            have ha0 : w14.cell? ⟨qa, 0, none⟩ = some (.slice Ax x.f.length cx) := HXa.out.at_ 0 _ rfl
            have ha1 : w14.cell? ⟨qa, 1, none⟩ = some (.slice Bx x.r.length dx) := HXa.out.at_ 1 _ rfl
            have ha2 : w14.cell? ⟨qa, 2, none⟩ = some (.int .i64 x.n) := HXa.out.at_ 2 _ rfl
            have hb0 : w14.cell? ⟨qb, 0, none⟩ = some (.slice Ay y.f.length cy) := HXb.out.at_ 0 _ rfl
            have hb1 : w14.cell? ⟨qb, 1, none⟩ = some (.slice By y.r.length dy) := HXb.out.at_ 1 _ rfl
            have hb2 : w14.cell? ⟨qb, 2, none⟩ = some (.int .i64 y.n) := HXb.out.at_ 2 _ rfl
            go_wp2_with fail
            refine (HR2.out _ HTa.out).mono ?_
            rintro _ w15 ⟨rfl, b15⟩
            clear ha0 ha1 ha2 hb0 hb1 hb2
            have HTa := Go.Lib.hid (HTa.out.below b15)
            have HXa := Go.Lib.hid (HXa.out.below b15)
            have HTb := Go.Lib.hid (HTb.out.below b15)
            have HXb := Go.Lib.hid (HXb.out.below b15)
            have HW := Go.Lib.hid (HW.out.trans (b15.mono HW.out.size))
            clear b15
            have ha0 : w15.cell? ⟨qa, 0, none⟩ = some (.slice Ax x.f.length cx) := HXa.out.at_ 0 _ rfl
            have ha1 : w15.cell? ⟨qa, 1, none⟩ = some (.slice Bx x.r.length dx) := HXa.out.at_ 1 _ rfl
            have ha2 : w15.cell? ⟨qa, 2, none⟩ = some (.int .i64 x.n) := HXa.out.at_ 2 _ rfl
            have hb0 : w15.cell? ⟨qb, 0, none⟩ = some (.slice Ay y.f.length cy) := HXb.out.at_ 0 _ rfl
            have hb1 : w15.cell? ⟨qb, 1, none⟩ = some (.slice By y.r.length dy) := HXb.out.at_ 1 _ rfl
            have hb2 : w15.cell? ⟨qb, 2, none⟩ = some (.int .i64 y.n) := HXb.out.at_ 2 _ rfl
            go_wp2_with fail
            go_ret
            exact ⟨rfl, HW.out⟩

set_option maxRecDepth 100000 in
theorem lifted (os : Os) (started : os.Started) (H : Type) (enc : TypeId × Value → H) :
    ReturnsInHanded {} Try.checked os 5 .any (Rows.fnSpeedsSpec.pre6 enc Try.prog Try.f5 Rows.fnSpeedsRow.domain false) (Rows.fnSpeedsSpec.post enc Try.prog Try.f5 false true false false) := by
  refine returnsInHanded_of_change_sized (C := Try.checked) own started (by kernel_rfl) Try.func5
    (ChangeSpec.witness6 (enc := enc) (C := Try.checked) false ⟨#[], #[.slice none 0 0], []⟩ 8 (by kernel_rfl) (by kernel_rfl) (by kernel_rfl) (by kernel_rfl)) ?_
  intro W base args ds gs before hval0 hW hcnd hsz0 _
  have hsz : (DataW.weightsEach Try.prog (Try.f5.params.toList ++ Rows.fnSpeedsSpec.plain.varTypes Try.prog) (ds ++ gs)).all (· ≤ reachBytes) = true := hsz0
  clear hsz0
  have hval : ∀ (j : Nat) t v, Try.f5.params[j]? = some t → args[j]? = some v → Value.okWide Try.prog W .any base t v := hval0
  clear hval0
  have hW' := hW
  obtain ⟨p, q, hA0, hV, rfl, hfz, hnd⟩ := hW
  have hA : DataW.TrodAll enc Try.prog W 0 (fun _ => true) true Try.f5.params.toList args.toList ds p := hA0
  rw [Try.params5] at hA hval hsz
  obtain ⟨v0, vs0, d0, ds0, p0, q0, hargs, rfl, rfl, h0, r0⟩ := trodAll_cons hA
  obtain ⟨rfl, rfl, rfl⟩ := trodAll_nil r0
  obtain rfl : args = #[v0] := by cases args; simp_all
  obtain ⟨rfl, rfl⟩ := trodVars_none hV
  obtain ⟨a0, len0, cap0, rfl⟩ := okWide_slice Try.underlying22 (hval 0 22 v0 rfl rfl)
  have k0 := h0
  have lt0 : ∀ x ∈ p0, x.block < W.heap.size := by obtain ⟨m, hm⟩ := k0; exact DataW.trod_lt m _ _ _ hm
  obtain ⟨⟨z0, rd0, sz0⟩, hlc0, hp0⟩ := open_list_bytes h0
  have reach0 : len0 * 1 ≤ 140737488351232 := by
    rcases hp0 with hp0 | ⟨E0, S0, rfl, hl0⟩
    · omega
    · have := sized_slice hsz (j := 0) (t := 22) (e := 5) rfl rfl Try.underlying22
      rw [show Try.prog.bytesOf 5 = 1 by kernel_rfl] at this
      simp only [reachBytes] at this
      omega
  clear hA0
  refine (walk a0 len0 cap0 z0 W rd0 reach0 sz0).mono fun e W' ⟨he, bel⟩ => ?_
  subst he
  exact ⟨_, rfl, _, _, _, [], _, [], hW', trodAll_mk1 (shut_bool Try.underlying4 _), (trodAll_cons_mk (Below.trod laidOut (by kernel_rfl) (of_decide_eq_true (by kernel_rfl)) k0 bel lt0) trodAll_mk0), rfl, bel.frame _, fun h => by cases h⟩

theorem over : Rows.fnSpeedsRow.holds Try.pinned (OpenSpec.ofChange Rows.fnSpeedsSpec) :=
  OpenClaim.holds_of_wide 5 Try.f5 rfl rfl rfl rfl rfl rfl rfl ⟨rfl, rfl, rfl, rfl, rfl⟩ rfl rfl rfl rfl rfl (by kernel_rfl) Try.func5 (by kernel_rfl)
    (of_decide_eq_true (by kernel_rfl)) (by unfold Func.isWrapper; first | (rw [if_pos (by decide +kernel)]; kernel_rfl) | (rw [if_neg (by decide +kernel)]; exact ⟨rfl, rfl⟩))
    (fun os started H enc _ => lifted os started H enc)

theorem proved : Rows.FnSpeedsSaid := over
end Go.Proofs.Ytifblmcocikopaa.fnSpeeds
