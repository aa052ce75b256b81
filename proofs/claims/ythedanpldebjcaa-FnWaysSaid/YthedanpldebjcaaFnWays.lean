/- A shortest way leads where it should, and back there is one that is as long. -/
import Derived.Test.YthedanpldebjcaaRows
import Derived.Test.YthedanpldebjcaaMgWays5
import Derived.Test.YthedanpldebjcaaShImplC
import Derived.Test.YthedanpldebjcaaShP3
import Derived.Test.YthedanpldebjcaaDrawSh2
import Derived.Test.YthedanpldebjcaaMgWays6
import Derived.Test.YthedanpldebjcaaMgWays1
import Derived.Test.YthedanpldebjcaaLikesI
import Derived.Test.YthedanpldebjcaaInts
import Derived.WalkKit
import Derived.ProofKit
import Derived.OpenShut
import Derived.ShutString
import Derived.SizedLaws
namespace Go.Proofs.Ythedanpldebjcaa.fnWays
open Go.ChangeShapes Go.WideShapes Go.ChangeAt Go.RowKit
open Go.ChangeMaps (open_string shut_string)
set_option linter.unusedVariables false

set_option linter.unusedSimpArgs false
set_option maxRecDepth 100000 in
set_option maxHeartbeats 16000000 in
theorem walk (A : Option Addr) (n cap : Nat) (bs : List Int) (w : World) (h : Rd w 0 w.heap.size A n (byts bs)) (hn : n * 1 ≤ 140737488351232) (hs : ∀ z ∈ bs, 0 ≤ z ∧ z ≤ 255) :
    Calls Try.prog 3 #[.slice A n cap] w fun e w' => e = .returned (.bool true) ∧ Below w.heap.size w w' := by
  have HB := Go.Lib.hid (big_ A n cap w)
  by_cases hbig : (4096 : Int) < n
  · go_enter Try.func3, Try.ntmps3
    go_wp2_with fail
    refine HB.out.mono ?_
    rintro e w' ⟨rfl, rfl⟩
    go_wp2_with fail
    go_ret
    exact ⟨rfl, Below.refl _ _⟩
  · have hb2 := big_ A n cap w
    rw [decide_eq_false hbig] at hb2
    have HB2 := Go.Lib.hid hb2
    have HRD := Go.Lib.hid (fun w1 (hb : Below w.heap.size w w1) => (h.below hb (Nat.le_refl _)).mono (Nat.le_refl _) hb.size)
    have HW := Go.Lib.hid (Below.refl w.heap.size w)
    clear hb2 HB hbig h
    have hnn : n ≤ 140737488355328 := by omega
    clear hn
    go_enter Try.func3, Try.ntmps3
    go_wp2_with fail
    refine HB2.out.mono ?_
    rintro e w' ⟨rfl, rfl⟩
    have HD := Go.Lib.hid (drawShortest A n cap bs _ (HRD.out _ HW.out) hs hnn)
    go_wp2_with fail
    refine HD.out.mono ?_
    rintro _ w1 ⟨x, Ax, cx, Bx, dx, lm, f, r, tf, tr, rfl, t1, b1⟩
    have HW := Go.Lib.hid (HW.out.trans (b1.mono HW.out.size))
    have HTa := Go.Lib.hid t1
    unfold trainV at *
    clear t1 b1 HD
    go_upto_region 4 with fail
    refine wp_gen (R := fun W => Box W w1.heap.size (trainC x Ax cx Bx dx) ∧ Below w1.heap.size w1 W) ⟨boxT_box x Ax cx Bx dx w1, boxT_below x Ax cx Bx dx w1⟩ ?_
    rintro w2 ⟨hx, b2⟩
    have HTa := Go.Lib.hid (HTa.out.below b2)
    have HW := Go.Lib.hid (HW.out.trans (b2.mono HW.out.size))
    have HXa := Go.Lib.hid hx
    clear hx b2
    obtain ⟨qa, hq⟩ : ∃ q, w1.heap.size = q := ⟨_, rfl⟩
    rw [hq] at HXa
    try simp only [hq]
    clear hq
    obtain ⟨ws, z, hR⟩ : ∃ ws z, shortR x lm f r tf tr = (ws, z) := ⟨_, _, rfl⟩
    have hfew : ws.length ≤ 1000000 := by
      have h := shortR_few x lm f r tf tr
      rw [hR] at h
      exact h
    have HS1 := Go.Lib.hid (fun w0 T0 => implShort x Ax cx Bx dx lm f r tf tr w0 T0)
    have HS2 := Go.Lib.hid (fun w0 T0 => specShort x Ax cx Bx dx lm f r tf tr w0 T0)
    rw [hR] at HS1 HS2
    have HLW := Go.Lib.hid (fun (h : z = 0) => short_law (x := x) (lm := lm) (f := f) (r := r) (tf := tf) (tr := tr) (w := ws) (by rw [hR, h]))
    have HSX := Go.Lib.hid (fun a b m w0 T0 => implShift x Ax cx Bx dx lm a b m w0 T0)
    have HBK := Go.Lib.hid (fun w0 T0 => implShort x Ax cx Bx dx lm tf tr f r w0 T0)
    clear hR
    unfold trainV at *
    have ha0 : w2.cell? ⟨qa, 0, none⟩ = some (.slice Ax x.f.length cx) := HXa.out.at_ 0 _ rfl
    have ha1 : w2.cell? ⟨qa, 1, none⟩ = some (.slice Bx x.r.length dx) := HXa.out.at_ 1 _ rfl
    have ha2 : w2.cell? ⟨qa, 2, none⟩ = some (.int .i64 x.n) := HXa.out.at_ 2 _ rfl
    go_wp2_with fail
    refine (HS1.out _ HTa.out).mono ?_
    rintro _ w3 ⟨As, cs, rfl, o3, b3⟩
    try dsimp only at o3
    clear ha0 ha1 ha2
    have HTa := Go.Lib.hid (HTa.out.below b3)
    have HXa := Go.Lib.hid (HXa.out.below b3)
    have HW := Go.Lib.hid (HW.out.trans (b3.mono HW.out.size))
    have HLs := Go.Lib.hid (lst0 o3 (by omega))
    clear o3 b3
    have ha0 : w3.cell? ⟨qa, 0, none⟩ = some (.slice Ax x.f.length cx) := HXa.out.at_ 0 _ rfl
    have ha1 : w3.cell? ⟨qa, 1, none⟩ = some (.slice Bx x.r.length dx) := HXa.out.at_ 1 _ rfl
    have ha2 : w3.cell? ⟨qa, 2, none⟩ = some (.int .i64 x.n) := HXa.out.at_ 2 _ rfl
    go_wp2_with fail
    refine (HS2.out _ HTa.out).mono ?_
    rintro _ w4 ⟨At, ct, rfl, o4, b4⟩
    try dsimp only at o4
    clear ha0 ha1 ha2
    have HTa := Go.Lib.hid (HTa.out.below b4)
    have HXa := Go.Lib.hid (HXa.out.below b4)
    have HLs := Go.Lib.hid (HLs.out.below b4)
    have HW := Go.Lib.hid (HW.out.trans (b4.mono HW.out.size))
    have HLt := Go.Lib.hid (lst0 o4 (by omega))
    clear o4 b4
    have HD := Go.Lib.hid (drawShift A n cap bs _ (HRD.out _ HW.out) hs hnn)
    go_wp2_with fail
    refine HD.out.mono ?_
    rintro _ w5 ⟨y, Ay, cy, By, dy, l, a, b, m, rfl, t5, b5⟩
    have HTa := Go.Lib.hid (HTa.out.below b5)
    have HXa := Go.Lib.hid (HXa.out.below b5)
    have HLs := Go.Lib.hid (HLs.out.below b5)
    have HLt := Go.Lib.hid (HLt.out.below b5)
    have HW := Go.Lib.hid (HW.out.trans (b5.mono HW.out.size))
    have HTb := Go.Lib.hid t5
    unfold trainV at *
    clear t5 b5 HD
    go_upto_region 7 with fail
    refine wp_gen (R := fun W => Box W w5.heap.size (trainC y Ay cy By dy) ∧ Below w5.heap.size w5 W) ⟨boxT_box y Ay cy By dy w5, boxT_below y Ay cy By dy w5⟩ ?_
    rintro w6 ⟨hx, b6⟩
    have HTa := Go.Lib.hid (HTa.out.below b6)
    have HXa := Go.Lib.hid (HXa.out.below b6)
    have HLs := Go.Lib.hid (HLs.out.below b6)
    have HLt := Go.Lib.hid (HLt.out.below b6)
    have HTb := Go.Lib.hid (HTb.out.below b6)
    have HW := Go.Lib.hid (HW.out.trans (b6.mono HW.out.size))
    have HXb := Go.Lib.hid hx
    clear hx b6
    obtain ⟨qb, hq⟩ : ∃ q, w5.heap.size = q := ⟨_, rfl⟩
    rw [hq] at HXb
    try simp only [hq]
    clear hq
    obtain ⟨p, q, u, hM⟩ : ∃ p q u, shiftR y l a b m = (p, q, u) := ⟨_, _, _, rfl⟩
    have HM1 := Go.Lib.hid (fun w0 T0 => implShift y Ay cy By dy l a b m w0 T0)
    have HM2 := Go.Lib.hid (fun w0 T0 => specShift y Ay cy By dy l a b m w0 T0)
    rw [hM] at HM1 HM2
    try dsimp only at HM1 HM2
    have HLM := Go.Lib.hid (fun (h : u = 0) => (⟨shift_law (x := y) (lm := l) (f := a) (r := b) (m := m) (p := p) (q := q) (by rw [hM, h]), shift_bd (x := y) (lm := l) (f := a) (r := b) (m := m) (p := p) (q := q) (by rw [hM, h])⟩ : _ ∧ _))
    have HCX := Go.Lib.hid (fun w0 T0 => implCross y Ay cy By dy l p q w0 T0)
    clear hM
    unfold trainV at *
    have ha0 : w6.cell? ⟨qa, 0, none⟩ = some (.slice Ax x.f.length cx) := HXa.out.at_ 0 _ rfl
    have ha1 : w6.cell? ⟨qa, 1, none⟩ = some (.slice Bx x.r.length dx) := HXa.out.at_ 1 _ rfl
    have ha2 : w6.cell? ⟨qa, 2, none⟩ = some (.int .i64 x.n) := HXa.out.at_ 2 _ rfl
    have hb0 : w6.cell? ⟨qb, 0, none⟩ = some (.slice Ay y.f.length cy) := HXb.out.at_ 0 _ rfl
    have hb1 : w6.cell? ⟨qb, 1, none⟩ = some (.slice By y.r.length dy) := HXb.out.at_ 1 _ rfl
    have hb2 : w6.cell? ⟨qb, 2, none⟩ = some (.int .i64 y.n) := HXb.out.at_ 2 _ rfl
    go_wp2_with fail
    refine (HM1.out _ HTb.out).mono ?_
    rintro _ w7 ⟨rfl, b7⟩
    clear ha0 ha1 ha2 hb0 hb1 hb2
    have HTa := Go.Lib.hid (HTa.out.below b7)
    have HXa := Go.Lib.hid (HXa.out.below b7)
    have HLs := Go.Lib.hid (HLs.out.below b7)
    have HLt := Go.Lib.hid (HLt.out.below b7)
    have HTb := Go.Lib.hid (HTb.out.below b7)
    have HXb := Go.Lib.hid (HXb.out.below b7)
    have HW := Go.Lib.hid (HW.out.trans (b7.mono HW.out.size))
    clear b7
    have ha0 : w7.cell? ⟨qa, 0, none⟩ = some (.slice Ax x.f.length cx) := HXa.out.at_ 0 _ rfl
    have ha1 : w7.cell? ⟨qa, 1, none⟩ = some (.slice Bx x.r.length dx) := HXa.out.at_ 1 _ rfl
    have ha2 : w7.cell? ⟨qa, 2, none⟩ = some (.int .i64 x.n) := HXa.out.at_ 2 _ rfl
    have hb0 : w7.cell? ⟨qb, 0, none⟩ = some (.slice Ay y.f.length cy) := HXb.out.at_ 0 _ rfl
    have hb1 : w7.cell? ⟨qb, 1, none⟩ = some (.slice By y.r.length dy) := HXb.out.at_ 1 _ rfl
    have hb2 : w7.cell? ⟨qb, 2, none⟩ = some (.int .i64 y.n) := HXb.out.at_ 2 _ rfl
    go_wp2_with fail
    refine (HM2.out _ HTb.out).mono ?_
    rintro _ w8 ⟨rfl, b8⟩
    clear ha0 ha1 ha2 hb0 hb1 hb2
    have HTa := Go.Lib.hid (HTa.out.below b8)
    have HXa := Go.Lib.hid (HXa.out.below b8)
    have HLs := Go.Lib.hid (HLs.out.below b8)
    have HLt := Go.Lib.hid (HLt.out.below b8)
    have HTb := Go.Lib.hid (HTb.out.below b8)
    have HXb := Go.Lib.hid (HXb.out.below b8)
    have HW := Go.Lib.hid (HW.out.trans (b8.mono HW.out.size))
    clear b8
    have hq0 : (z != z) = false := by simp
    have hq1 : (u != u) = false := by simp
    have hq2 : (p != p) = false := by simp
    have hq3 : (q != q) = false := by simp
    have ha0 : w8.cell? ⟨qa, 0, none⟩ = some (.slice Ax x.f.length cx) := HXa.out.at_ 0 _ rfl
    have ha1 : w8.cell? ⟨qa, 1, none⟩ = some (.slice Bx x.r.length dx) := HXa.out.at_ 1 _ rfl
    have ha2 : w8.cell? ⟨qa, 2, none⟩ = some (.int .i64 x.n) := HXa.out.at_ 2 _ rfl
    have hb0 : w8.cell? ⟨qb, 0, none⟩ = some (.slice Ay y.f.length cy) := HXb.out.at_ 0 _ rfl
    have hb1 : w8.cell? ⟨qb, 1, none⟩ = some (.slice By y.r.length dy) := HXb.out.at_ 1 _ rfl
    have hb2 : w8.cell? ⟨qb, 2, none⟩ = some (.int .i64 y.n) := HXb.out.at_ 2 _ rfl
    have HE := Go.Lib.hid (likeInts_same _ _ _ cs ct _ _ _ _ _ _ HLs.out.rd HLt.out.rd (by omega))
    go_wp2_with fail
    refine HE.out.mono ?_
    rintro _ w9 ⟨rfl, x9, e9⟩
    have b9 := below_of_drewN e9
    clear ha0 ha1 ha2 hb0 hb1 hb2
    have HTa := Go.Lib.hid (HTa.out.below b9)
    have HXa := Go.Lib.hid (HXa.out.below b9)
    have HLs := Go.Lib.hid (HLs.out.below b9)
    have HLt := Go.Lib.hid (HLt.out.below b9)
    have HTb := Go.Lib.hid (HTb.out.below b9)
    have HXb := Go.Lib.hid (HXb.out.below b9)
    have HW := Go.Lib.hid (HW.out.trans (b9.mono HW.out.size))
    clear b9 e9 HE
    by_cases hu : u = 0
    case pos =>
      subst hu
      obtain ⟨⟨hcr, hmx⟩, hba, hbb⟩ := HLM.out rfl
      rw [hcr] at HCX
      try dsimp only [GivesBI] at HCX
      have hp1 : p - a ≤ 1 ∧ a - p ≤ 1 ∧ q - b ≤ 1 ∧ b - q ≤ 1 := by omega
      obtain ⟨d1, hd1⟩ : ∃ d, p - a = d := ⟨_, rfl⟩
      obtain ⟨d2, hd2⟩ : ∃ d, a - p = d := ⟨_, rfl⟩
      obtain ⟨d3, hd3⟩ : ∃ d, q - b = d := ⟨_, rfl⟩
      obtain ⟨d4, hd4⟩ : ∃ d, b - q = d := ⟨_, rfl⟩
      have e1 : IntKind.i64.wrap (p - a) = d1 := (IntWalk.i64_in _ (by omega)).trans hd1
      have e2 : IntKind.i64.wrap (a - p) = d2 := (IntWalk.i64_in _ (by omega)).trans hd2
      have e3 : IntKind.i64.wrap (q - b) = d3 := (IntWalk.i64_in _ (by omega)).trans hd3
      have e4 : IntKind.i64.wrap (b - q) = d4 := (IntWalk.i64_in _ (by omega)).trans hd4
      rw [hd1, hd2, hd3, hd4] at hmx
      have e5 : IntKind.i64.wrap (max d1 d2 + max d3 d4) = 1 := by rw [hmx]; rfl
      have hmi : ∀ a b : Int, (if a < b then b else a) = max a b := fun a b => by split <;> omega
      clear hcr hba hbb hp1 hd1 hd2 hd3 hd4 hmx
      have ha0 : w9.cell? ⟨qa, 0, none⟩ = some (.slice Ax x.f.length cx) := HXa.out.at_ 0 _ rfl
      have ha1 : w9.cell? ⟨qa, 1, none⟩ = some (.slice Bx x.r.length dx) := HXa.out.at_ 1 _ rfl
      have ha2 : w9.cell? ⟨qa, 2, none⟩ = some (.int .i64 x.n) := HXa.out.at_ 2 _ rfl
      have hb0 : w9.cell? ⟨qb, 0, none⟩ = some (.slice Ay y.f.length cy) := HXb.out.at_ 0 _ rfl
      have hb1 : w9.cell? ⟨qb, 1, none⟩ = some (.slice By y.r.length dy) := HXb.out.at_ 1 _ rfl
      have hb2 : w9.cell? ⟨qb, 2, none⟩ = some (.int .i64 y.n) := HXb.out.at_ 2 _ rfl
      go_wp2_with fail
      refine (HCX.out _ HTb.out).mono ?_
      rintro _ w10 ⟨rfl, b10⟩
      clear ha0 ha1 ha2 hb0 hb1 hb2
      have HTa := Go.Lib.hid (HTa.out.below b10)
      have HXa := Go.Lib.hid (HXa.out.below b10)
      have HLs := Go.Lib.hid (HLs.out.below b10)
      have HLt := Go.Lib.hid (HLt.out.below b10)
      have HTb := Go.Lib.hid (HTb.out.below b10)
      have HXb := Go.Lib.hid (HXb.out.below b10)
      have HW := Go.Lib.hid (HW.out.trans (b10.mono HW.out.size))
      clear b10
      by_cases hz : z = 0
      case neg =>
        have hzb : (z != 0) = true := by simpa using hz
        have ha0 : w10.cell? ⟨qa, 0, none⟩ = some (.slice Ax x.f.length cx) := HXa.out.at_ 0 _ rfl
        have ha1 : w10.cell? ⟨qa, 1, none⟩ = some (.slice Bx x.r.length dx) := HXa.out.at_ 1 _ rfl
        have ha2 : w10.cell? ⟨qa, 2, none⟩ = some (.int .i64 x.n) := HXa.out.at_ 2 _ rfl
        have hb0 : w10.cell? ⟨qb, 0, none⟩ = some (.slice Ay y.f.length cy) := HXb.out.at_ 0 _ rfl
        have hb1 : w10.cell? ⟨qb, 1, none⟩ = some (.slice By y.r.length dy) := HXb.out.at_ 1 _ rfl
        have hb2 : w10.cell? ⟨qb, 2, none⟩ = some (.int .i64 y.n) := HXb.out.at_ 2 _ rfl
        go_wp2_with fail
        go_ret
        exact ⟨rfl, HW.out⟩
      case pos =>
        subst hz
        obtain ⟨hwalk, hstep, v, hv, hvl⟩ := HLW.out rfl
        rw [hv] at HBK
        have HST := Go.Lib.hid hstep
        have HWK := Go.Lib.hid hwalk
        have HP0 := Go.Lib.hid (show walkG (f, r) (ws.take 0) = (f, r) from rfl)
        clear hv hstep hwalk
        have ha0 : w10.cell? ⟨qa, 0, none⟩ = some (.slice Ax x.f.length cx) := HXa.out.at_ 0 _ rfl
        have ha1 : w10.cell? ⟨qa, 1, none⟩ = some (.slice Bx x.r.length dx) := HXa.out.at_ 1 _ rfl
        have ha2 : w10.cell? ⟨qa, 2, none⟩ = some (.int .i64 x.n) := HXa.out.at_ 2 _ rfl
        have hb0 : w10.cell? ⟨qb, 0, none⟩ = some (.slice Ay y.f.length cy) := HXb.out.at_ 0 _ rfl
        have hb1 : w10.cell? ⟨qb, 1, none⟩ = some (.slice By y.r.length dy) := HXb.out.at_ 1 _ rfl
        have hb2 : w10.cell? ⟨qb, 2, none⟩ = some (.int .i64 y.n) := HXb.out.at_ 2 _ rfl
        go_wp2_with fail
        clear ha0 ha1 ha2 hb0 hb1 hb2
        go_loopw [26, 27, 28] (fun nf nr i wr => ∃ k : Nat, k ≤ ws.length ∧ i = .int .i64 k ∧ nf = .int .i64 (walkG (f, r) (ws.take k)).1 ∧ nr = .int .i64 (walkG (f, r) (ws.take k)).2 ∧ Below w10.heap.size w10 wr) (fun _ _ i _ => ws.length - (intOf i).toNat)
        case atStart => exact ⟨0, Nat.zero_le _, rfl, by rw [HP0.out], by rw [HP0.out], Below.refl _ _⟩
        case round =>
          obtain ⟨k, hk, rfl, rfl, rfl, hbr⟩ := hrel
          have HBR := Go.Lib.hid hbr
          have HXR := Go.Lib.hid (HXa.out.below hbr)
          have HTR := Go.Lib.hid (HTa.out.below hbr)
          have ha0 : wr.cell? ⟨qa, 0, none⟩ = some (.slice Ax x.f.length cx) := HXR.out.at_ 0 _ rfl
          have ha1 : wr.cell? ⟨qa, 1, none⟩ = some (.slice Bx x.r.length dx) := HXR.out.at_ 1 _ rfl
          have ha2 : wr.cell? ⟨qa, 2, none⟩ = some (.int .i64 x.n) := HXR.out.at_ 2 _ rfl
          by_cases hlt : k < ws.length
          case pos =>
            obtain ⟨pb, po, hAp, hpb, hcc⟩ := (HLs.out.below hbr).at_ hlt
            subst hAp
            have hcell := hcc k hlt
            have hki : (k : Int) < ws.length := by omega
            have hstep := HST.out k hlt
            have HSK := Go.Lib.hid (fun w0 T0 => HSX.out (walkG (f, r) (ws.take k)).1 (walkG (f, r) (ws.take k)).2 (ws.getD k 0) w0 T0)
            rw [hstep] at HSK
            try dsimp only at HSK
            clear hcc hstep hbr
            generalize ws.getD k 0 = mv at *
            generalize walkG (f, r) (ws.take k) = P0 at *
            obtain ⟨P1, hP1⟩ : ∃ P1, walkG (f, r) (ws.take (k + 1)) = P1 := ⟨_, rfl⟩
            rw [hP1] at HSK
            have HP1 := Go.Lib.hid hP1
            clear hP1
            have HTD := Go.Lib.hid (HTR.out.below (show Below wr.heap.size wr wr.drew from below_drewN (Below.refl _ _) 1))
            have hql : qa < wr.drew.heap.size := HXR.out.lt
            have hpl : pb < wr.drew.heap.size := hpb
            go_upto_region 21 with fail
            refine wp_region_held_drew (S := fun w' => w'.cell? ⟨qa, 0, none⟩ = some (.slice Ax x.f.length cx) ∧ w'.cell? ⟨qa, 1, none⟩ = some (.slice Bx x.r.length dx) ∧ w'.cell? ⟨qa, 2, none⟩ = some (.int .i64 x.n) ∧ w'.cell? ⟨pb, po + k, none⟩ = some (.int .i64 mv)) (by kernel_rfl) (by exact ⟨ha0, ha1, ha2, hcell⟩) (fun hHeld => ?_)
            refine wpAnyH_take (i := 0) (v := ?vw11) rfl (by kernel_rfl) (by kernel_rfl) (by kernel_rfl) (fun _ _ _ h => h) (Or.inl ⟨by rfl, ?hyw11⟩) (by assumption) ?restw11
            case hyw11 => (intro w hSw; (try dsimp only at hSw); go_simp; try with_reducible rfl)
            try simp only [List.getElem_toArray, List.getElem_cons_succ, List.getElem_cons_zero, Act.put, List.setIfInBounds_toArray, List.set_cons_zero, List.set_cons_succ]
            refine wpAnyH_take (i := 1) (v := ?vw12) rfl (by kernel_rfl) (by kernel_rfl) (by kernel_rfl) (fun _ _ _ h => h) (Or.inl ⟨by rfl, ?hyw12⟩) (by assumption) ?restw12
            case hyw12 => (intro w hSw; (try dsimp only at hSw); go_simp; try with_reducible rfl)
            try simp only [List.getElem_toArray, List.getElem_cons_succ, List.getElem_cons_zero, Act.put, List.setIfInBounds_toArray, List.set_cons_zero, List.set_cons_succ]
            refine wpAnyH_take (i := 2) (v := ?vw13) rfl (by kernel_rfl) (by kernel_rfl) (by kernel_rfl) (fun _ _ _ h => h) (Or.inl ⟨by rfl, ?hyw13⟩) (by assumption) ?restw13
            case hyw13 => (intro w hSw; (try dsimp only at hSw); go_simp; try with_reducible rfl)
            try simp only [List.getElem_toArray, List.getElem_cons_succ, List.getElem_cons_zero, Act.put, List.setIfInBounds_toArray, List.set_cons_zero, List.set_cons_succ]
            refine wpAnyH_take (i := 3) (v := ?vw14) rfl (by kernel_rfl) (by kernel_rfl) (by kernel_rfl) (fun _ _ _ h => h) (Or.inl ⟨by rfl, ?hyw14⟩) (by assumption) ?restw14
            case hyw14 => (intro w hSw; (try dsimp only at hSw); go_simp; try with_reducible rfl)
            try simp only [List.getElem_toArray, List.getElem_cons_succ, List.getElem_cons_zero, Act.put, List.setIfInBounds_toArray, List.set_cons_zero, List.set_cons_succ]
            refine wpAnyH_take (i := 4) (v := ?vw15) rfl (by kernel_rfl) (by kernel_rfl) (by kernel_rfl) (fun _ _ _ h => h) (Or.inl ⟨by rfl, ?hyw15⟩) (by assumption) ?restw15
            case hyw15 => (intro w hSw; (try dsimp only at hSw); go_simp; try with_reducible rfl)
            try simp only [List.getElem_toArray, List.getElem_cons_succ, List.getElem_cons_zero, Act.put, List.setIfInBounds_toArray, List.set_cons_zero, List.set_cons_succ]
            refine wpAnyH_take (i := 5) (v := ?vw16) rfl (by kernel_rfl) (by kernel_rfl) (by kernel_rfl) (fun _ _ _ h => h) (Or.inl ⟨by rfl, ?hyw16⟩) (by assumption) ?restw16
            case hyw16 => (intro w hSw; (try dsimp only at hSw); go_simp; try with_reducible rfl)
            try simp only [List.getElem_toArray, List.getElem_cons_succ, List.getElem_cons_zero, Act.put, List.setIfInBounds_toArray, List.set_cons_zero, List.set_cons_succ]
            refine wpAnyH_take (i := 6) (v := ?vw17) rfl (by kernel_rfl) (by kernel_rfl) (by kernel_rfl) (fun _ _ _ h => h) (Or.inl ⟨by rfl, ?hyw17⟩) (by assumption) ?restw17
            case hyw17 => (intro w hSw; (try dsimp only at hSw); go_simp; try with_reducible rfl)
            try simp only [List.getElem_toArray, List.getElem_cons_succ, List.getElem_cons_zero, Act.put, List.setIfInBounds_toArray, List.set_cons_zero, List.set_cons_succ]
            refine wpAnyH_take (i := 7) (v := ?vw18) rfl (by kernel_rfl) (by kernel_rfl) (by kernel_rfl) (fun _ _ _ h => h) (Or.inl ⟨by rfl, ?hyw18⟩) (by assumption) ?restw18
            case hyw18 => (intro w hSw; (try dsimp only at hSw); go_simp; try with_reducible rfl)
            try simp only [List.getElem_toArray, List.getElem_cons_succ, List.getElem_cons_zero, Act.put, List.setIfInBounds_toArray, List.set_cons_zero, List.set_cons_succ]
            refine wpAnyH_ready (rs := [8]) (by kernel_rfl) (by simp) ?_
            refine AllReadyH.cons rfl (fun K hK => ?_) AllReadyH.nil
            go_simp
            (go_at_call 19; refine (HSK.out _ HTD.out).mono ?_; rintro _ wc ⟨rfl, bc⟩)
            refine hK.out _ _ ?_ (fun hHeld => ?_)
            · exact ⟨(bc.cell (p := ⟨qa, 0, none⟩) hql).trans hHeld.1, (bc.cell (p := ⟨qa, 1, none⟩) hql).trans hHeld.2.1, (bc.cell (p := ⟨qa, 2, none⟩) hql).trans hHeld.2.2.1, (bc.cell (p := ⟨pb, po + k, none⟩) hpl).trans hHeld.2.2.2⟩
            clear hK K
            try simp only [List.getElem_toArray, List.getElem_cons_succ, List.getElem_cons_zero, Act.put, List.setIfInBounds_toArray, List.set_cons_zero, List.set_cons_succ]
            refine wpAnyH_take (i := 9) (v := ?vw19) rfl (by kernel_rfl) (by kernel_rfl) (by kernel_rfl) (fun _ _ _ h => h) (Or.inl ⟨by rfl, ?hyw19⟩) (by assumption) ?restw19
            case hyw19 => (intro w hSw; (try dsimp only at hSw); go_simp; try with_reducible rfl)
            try simp only [List.getElem_toArray, List.getElem_cons_succ, List.getElem_cons_zero, Act.put, List.setIfInBounds_toArray, List.set_cons_zero, List.set_cons_succ]
            refine wpAnyH_take (i := 10) (v := ?vw110) rfl (by kernel_rfl) (by kernel_rfl) (by kernel_rfl) (fun _ _ _ h => h) (Or.inl ⟨by rfl, ?hyw110⟩) (by assumption) ?restw110
            case hyw110 => (intro w hSw; (try dsimp only at hSw); go_simp; try with_reducible rfl)
            try simp only [List.getElem_toArray, List.getElem_cons_succ, List.getElem_cons_zero, Act.put, List.setIfInBounds_toArray, List.set_cons_zero, List.set_cons_succ]
            refine wpAnyH_take (i := 11) (v := ?vw111) rfl (by kernel_rfl) (by kernel_rfl) (by kernel_rfl) (fun _ _ _ h => h) (Or.inl ⟨by rfl, ?hyw111⟩) (by assumption) ?restw111
            case hyw111 => (intro w hSw; (try dsimp only at hSw); go_simp; try with_reducible rfl)
            try simp only [List.getElem_toArray, List.getElem_cons_succ, List.getElem_cons_zero, Act.put, List.setIfInBounds_toArray, List.set_cons_zero, List.set_cons_succ]
            refine wpAnyH_take (i := 12) (v := ?vw112) rfl (by kernel_rfl) (by kernel_rfl) (by kernel_rfl) (fun _ _ _ h => h) (Or.inl ⟨by rfl, ?hyw112⟩) (by assumption) ?restw112
            case hyw112 => (intro w hSw; (try dsimp only at hSw); go_simp; try with_reducible rfl)
            try simp only [List.getElem_toArray, List.getElem_cons_succ, List.getElem_cons_zero, Act.put, List.setIfInBounds_toArray, List.set_cons_zero, List.set_cons_succ]
            refine wpAnyH_take (i := 13) (v := ?vw113) rfl (by kernel_rfl) (by kernel_rfl) (by kernel_rfl) (fun _ _ _ h => h) (Or.inl ⟨by rfl, ?hyw113⟩) (by assumption) ?restw113
            case hyw113 => (intro w hSw; (try dsimp only at hSw); go_simp; try with_reducible rfl)
            try simp only [List.getElem_toArray, List.getElem_cons_succ, List.getElem_cons_zero, Act.put, List.setIfInBounds_toArray, List.set_cons_zero, List.set_cons_succ]
            refine wpAnyH_take (i := 14) (v := ?vw114) rfl (by kernel_rfl) (by kernel_rfl) (by kernel_rfl) (fun _ _ _ h => h) (Or.inl ⟨by rfl, ?hyw114⟩) (by assumption) ?restw114
            case hyw114 => (intro w hSw; (try dsimp only at hSw); go_simp; try with_reducible rfl)
            try simp only [List.getElem_toArray, List.getElem_cons_succ, List.getElem_cons_zero, Act.put, List.setIfInBounds_toArray, List.set_cons_zero, List.set_cons_succ]
            refine wpAnyH_take (i := 15) (v := ?vw115) rfl (by kernel_rfl) (by kernel_rfl) (by kernel_rfl) (fun _ _ _ h => h) (Or.inl ⟨by rfl, ?hyw115⟩) (by assumption) ?restw115
            case hyw115 => (intro w hSw; (try dsimp only at hSw); go_simp; try with_reducible rfl)
            try simp only [List.getElem_toArray, List.getElem_cons_succ, List.getElem_cons_zero, Act.put, List.setIfInBounds_toArray, List.set_cons_zero, List.set_cons_succ]
            refine wpAnyH_done (by kernel_rfl) ?_ _
            have HBN := Go.Lib.hid (show Below w10.heap.size w10 wc from HBR.out.trans (((show Below wr.heap.size wr wr.drew from below_drewN (Below.refl _ _) 1).trans bc).mono HBR.out.size))
            clear hHeld bc ha0 ha1 ha2 hcell
            go_wp2_with fail
            go_roundw
            case rel => exact ⟨k + 1, by omega, by go_num, by rw [HP1.out], by rw [HP1.out], HBN.out⟩
            case measure => simp [intOf]; omega
          case neg =>
            obtain rfl : k = ws.length := by omega
            rw [List.take_length, HWK.out]
            have hni : ¬ ((ws.length : Nat) : Int) < ws.length := by omega
            have HWB := Go.Lib.hid (HW.out.trans (hbr.mono HW.out.size))
            clear hbr
            go_wp2_with fail
            refine (HBK.out _ HTR.out).mono ?_
            rintro _ w9 ⟨A9, c9, rfl, o9, b9⟩
            try dsimp only
            have HWE := Go.Lib.hid (HWB.out.trans (b9.mono HWB.out.size))
            have hle : ((v.length : Int) == (ws.length : Int)) = true := by rw [hvl]; simp
            clear o9 b9 ha0 ha1 ha2 hvl
            go_wp2_with fail
            go_ret
            exact ⟨rfl, HWE.out⟩
    case neg =>
      have hub : (u == 0) = false := by simpa using hu
      clear hu
      by_cases hz : z = 0
      case neg =>
        have hzb : (z != 0) = true := by simpa using hz
        have ha0 : w9.cell? ⟨qa, 0, none⟩ = some (.slice Ax x.f.length cx) := HXa.out.at_ 0 _ rfl
        have ha1 : w9.cell? ⟨qa, 1, none⟩ = some (.slice Bx x.r.length dx) := HXa.out.at_ 1 _ rfl
        have ha2 : w9.cell? ⟨qa, 2, none⟩ = some (.int .i64 x.n) := HXa.out.at_ 2 _ rfl
        have hb0 : w9.cell? ⟨qb, 0, none⟩ = some (.slice Ay y.f.length cy) := HXb.out.at_ 0 _ rfl
        have hb1 : w9.cell? ⟨qb, 1, none⟩ = some (.slice By y.r.length dy) := HXb.out.at_ 1 _ rfl
        have hb2 : w9.cell? ⟨qb, 2, none⟩ = some (.int .i64 y.n) := HXb.out.at_ 2 _ rfl
        go_wp2_with fail
        go_ret
        exact ⟨rfl, HW.out⟩
      case pos =>
        subst hz
        obtain ⟨hwalk, hstep, v, hv, hvl⟩ := HLW.out rfl
        rw [hv] at HBK
        have HST := Go.Lib.hid hstep
        have HWK := Go.Lib.hid hwalk
        have HP0 := Go.Lib.hid (show walkG (f, r) (ws.take 0) = (f, r) from rfl)
        clear hv hstep hwalk
        have ha0 : w9.cell? ⟨qa, 0, none⟩ = some (.slice Ax x.f.length cx) := HXa.out.at_ 0 _ rfl
        have ha1 : w9.cell? ⟨qa, 1, none⟩ = some (.slice Bx x.r.length dx) := HXa.out.at_ 1 _ rfl
        have ha2 : w9.cell? ⟨qa, 2, none⟩ = some (.int .i64 x.n) := HXa.out.at_ 2 _ rfl
        have hb0 : w9.cell? ⟨qb, 0, none⟩ = some (.slice Ay y.f.length cy) := HXb.out.at_ 0 _ rfl
        have hb1 : w9.cell? ⟨qb, 1, none⟩ = some (.slice By y.r.length dy) := HXb.out.at_ 1 _ rfl
        have hb2 : w9.cell? ⟨qb, 2, none⟩ = some (.int .i64 y.n) := HXb.out.at_ 2 _ rfl
        go_wp2_with fail
        clear ha0 ha1 ha2 hb0 hb1 hb2
        go_loopw [26, 27, 28] (fun nf nr i wr => ∃ k : Nat, k ≤ ws.length ∧ i = .int .i64 k ∧ nf = .int .i64 (walkG (f, r) (ws.take k)).1 ∧ nr = .int .i64 (walkG (f, r) (ws.take k)).2 ∧ Below w9.heap.size w9 wr) (fun _ _ i _ => ws.length - (intOf i).toNat)
        case atStart => exact ⟨0, Nat.zero_le _, rfl, by rw [HP0.out], by rw [HP0.out], Below.refl _ _⟩
        case round =>
          obtain ⟨k, hk, rfl, rfl, rfl, hbr⟩ := hrel
          have HBR := Go.Lib.hid hbr
          have HXR := Go.Lib.hid (HXa.out.below hbr)
          have HTR := Go.Lib.hid (HTa.out.below hbr)
          have ha0 : wr.cell? ⟨qa, 0, none⟩ = some (.slice Ax x.f.length cx) := HXR.out.at_ 0 _ rfl
          have ha1 : wr.cell? ⟨qa, 1, none⟩ = some (.slice Bx x.r.length dx) := HXR.out.at_ 1 _ rfl
          have ha2 : wr.cell? ⟨qa, 2, none⟩ = some (.int .i64 x.n) := HXR.out.at_ 2 _ rfl
          by_cases hlt : k < ws.length
          case pos =>
            obtain ⟨pb, po, hAp, hpb, hcc⟩ := (HLs.out.below hbr).at_ hlt
            subst hAp
            have hcell := hcc k hlt
            have hki : (k : Int) < ws.length := by omega
            have hstep := HST.out k hlt
            have HSK := Go.Lib.hid (fun w0 T0 => HSX.out (walkG (f, r) (ws.take k)).1 (walkG (f, r) (ws.take k)).2 (ws.getD k 0) w0 T0)
            rw [hstep] at HSK
            try dsimp only at HSK
            clear hcc hstep hbr
            generalize ws.getD k 0 = mv at *
            generalize walkG (f, r) (ws.take k) = P0 at *
            obtain ⟨P1, hP1⟩ : ∃ P1, walkG (f, r) (ws.take (k + 1)) = P1 := ⟨_, rfl⟩
            rw [hP1] at HSK
            have HP1 := Go.Lib.hid hP1
            clear hP1
            have HTD := Go.Lib.hid (HTR.out.below (show Below wr.heap.size wr wr.drew from below_drewN (Below.refl _ _) 1))
            have hql : qa < wr.drew.heap.size := HXR.out.lt
            have hpl : pb < wr.drew.heap.size := hpb
            go_upto_region 21 with fail
            refine wp_region_held_drew (S := fun w' => w'.cell? ⟨qa, 0, none⟩ = some (.slice Ax x.f.length cx) ∧ w'.cell? ⟨qa, 1, none⟩ = some (.slice Bx x.r.length dx) ∧ w'.cell? ⟨qa, 2, none⟩ = some (.int .i64 x.n) ∧ w'.cell? ⟨pb, po + k, none⟩ = some (.int .i64 mv)) (by kernel_rfl) (by exact ⟨ha0, ha1, ha2, hcell⟩) (fun hHeld => ?_)
            refine wpAnyH_take (i := 0) (v := ?vw21) rfl (by kernel_rfl) (by kernel_rfl) (by kernel_rfl) (fun _ _ _ h => h) (Or.inl ⟨by rfl, ?hyw21⟩) (by assumption) ?restw21
            case hyw21 => (intro w hSw; (try dsimp only at hSw); go_simp; try with_reducible rfl)
            try simp only [List.getElem_toArray, List.getElem_cons_succ, List.getElem_cons_zero, Act.put, List.setIfInBounds_toArray, List.set_cons_zero, List.set_cons_succ]
            refine wpAnyH_take (i := 1) (v := ?vw22) rfl (by kernel_rfl) (by kernel_rfl) (by kernel_rfl) (fun _ _ _ h => h) (Or.inl ⟨by rfl, ?hyw22⟩) (by assumption) ?restw22
            case hyw22 => (intro w hSw; (try dsimp only at hSw); go_simp; try with_reducible rfl)
            try simp only [List.getElem_toArray, List.getElem_cons_succ, List.getElem_cons_zero, Act.put, List.setIfInBounds_toArray, List.set_cons_zero, List.set_cons_succ]
            refine wpAnyH_take (i := 2) (v := ?vw23) rfl (by kernel_rfl) (by kernel_rfl) (by kernel_rfl) (fun _ _ _ h => h) (Or.inl ⟨by rfl, ?hyw23⟩) (by assumption) ?restw23
            case hyw23 => (intro w hSw; (try dsimp only at hSw); go_simp; try with_reducible rfl)
            try simp only [List.getElem_toArray, List.getElem_cons_succ, List.getElem_cons_zero, Act.put, List.setIfInBounds_toArray, List.set_cons_zero, List.set_cons_succ]
            refine wpAnyH_take (i := 3) (v := ?vw24) rfl (by kernel_rfl) (by kernel_rfl) (by kernel_rfl) (fun _ _ _ h => h) (Or.inl ⟨by rfl, ?hyw24⟩) (by assumption) ?restw24
            case hyw24 => (intro w hSw; (try dsimp only at hSw); go_simp; try with_reducible rfl)
            try simp only [List.getElem_toArray, List.getElem_cons_succ, List.getElem_cons_zero, Act.put, List.setIfInBounds_toArray, List.set_cons_zero, List.set_cons_succ]
            refine wpAnyH_take (i := 4) (v := ?vw25) rfl (by kernel_rfl) (by kernel_rfl) (by kernel_rfl) (fun _ _ _ h => h) (Or.inl ⟨by rfl, ?hyw25⟩) (by assumption) ?restw25
            case hyw25 => (intro w hSw; (try dsimp only at hSw); go_simp; try with_reducible rfl)
            try simp only [List.getElem_toArray, List.getElem_cons_succ, List.getElem_cons_zero, Act.put, List.setIfInBounds_toArray, List.set_cons_zero, List.set_cons_succ]
            refine wpAnyH_take (i := 5) (v := ?vw26) rfl (by kernel_rfl) (by kernel_rfl) (by kernel_rfl) (fun _ _ _ h => h) (Or.inl ⟨by rfl, ?hyw26⟩) (by assumption) ?restw26
            case hyw26 => (intro w hSw; (try dsimp only at hSw); go_simp; try with_reducible rfl)
            try simp only [List.getElem_toArray, List.getElem_cons_succ, List.getElem_cons_zero, Act.put, List.setIfInBounds_toArray, List.set_cons_zero, List.set_cons_succ]
            refine wpAnyH_take (i := 6) (v := ?vw27) rfl (by kernel_rfl) (by kernel_rfl) (by kernel_rfl) (fun _ _ _ h => h) (Or.inl ⟨by rfl, ?hyw27⟩) (by assumption) ?restw27
            case hyw27 => (intro w hSw; (try dsimp only at hSw); go_simp; try with_reducible rfl)
            try simp only [List.getElem_toArray, List.getElem_cons_succ, List.getElem_cons_zero, Act.put, List.setIfInBounds_toArray, List.set_cons_zero, List.set_cons_succ]
            refine wpAnyH_take (i := 7) (v := ?vw28) rfl (by kernel_rfl) (by kernel_rfl) (by kernel_rfl) (fun _ _ _ h => h) (Or.inl ⟨by rfl, ?hyw28⟩) (by assumption) ?restw28
            case hyw28 => (intro w hSw; (try dsimp only at hSw); go_simp; try with_reducible rfl)
            try simp only [List.getElem_toArray, List.getElem_cons_succ, List.getElem_cons_zero, Act.put, List.setIfInBounds_toArray, List.set_cons_zero, List.set_cons_succ]
            refine wpAnyH_ready (rs := [8]) (by kernel_rfl) (by simp) ?_
            refine AllReadyH.cons rfl (fun K hK => ?_) AllReadyH.nil
            go_simp
            (go_at_call 19; refine (HSK.out _ HTD.out).mono ?_; rintro _ wc ⟨rfl, bc⟩)
            refine hK.out _ _ ?_ (fun hHeld => ?_)
            · exact ⟨(bc.cell (p := ⟨qa, 0, none⟩) hql).trans hHeld.1, (bc.cell (p := ⟨qa, 1, none⟩) hql).trans hHeld.2.1, (bc.cell (p := ⟨qa, 2, none⟩) hql).trans hHeld.2.2.1, (bc.cell (p := ⟨pb, po + k, none⟩) hpl).trans hHeld.2.2.2⟩
            clear hK K
            try simp only [List.getElem_toArray, List.getElem_cons_succ, List.getElem_cons_zero, Act.put, List.setIfInBounds_toArray, List.set_cons_zero, List.set_cons_succ]
            refine wpAnyH_take (i := 9) (v := ?vw29) rfl (by kernel_rfl) (by kernel_rfl) (by kernel_rfl) (fun _ _ _ h => h) (Or.inl ⟨by rfl, ?hyw29⟩) (by assumption) ?restw29
            case hyw29 => (intro w hSw; (try dsimp only at hSw); go_simp; try with_reducible rfl)
            try simp only [List.getElem_toArray, List.getElem_cons_succ, List.getElem_cons_zero, Act.put, List.setIfInBounds_toArray, List.set_cons_zero, List.set_cons_succ]
            refine wpAnyH_take (i := 10) (v := ?vw210) rfl (by kernel_rfl) (by kernel_rfl) (by kernel_rfl) (fun _ _ _ h => h) (Or.inl ⟨by rfl, ?hyw210⟩) (by assumption) ?restw210
            case hyw210 => (intro w hSw; (try dsimp only at hSw); go_simp; try with_reducible rfl)
            try simp only [List.getElem_toArray, List.getElem_cons_succ, List.getElem_cons_zero, Act.put, List.setIfInBounds_toArray, List.set_cons_zero, List.set_cons_succ]
            refine wpAnyH_take (i := 11) (v := ?vw211) rfl (by kernel_rfl) (by kernel_rfl) (by kernel_rfl) (fun _ _ _ h => h) (Or.inl ⟨by rfl, ?hyw211⟩) (by assumption) ?restw211
            case hyw211 => (intro w hSw; (try dsimp only at hSw); go_simp; try with_reducible rfl)
            try simp only [List.getElem_toArray, List.getElem_cons_succ, List.getElem_cons_zero, Act.put, List.setIfInBounds_toArray, List.set_cons_zero, List.set_cons_succ]
            refine wpAnyH_take (i := 12) (v := ?vw212) rfl (by kernel_rfl) (by kernel_rfl) (by kernel_rfl) (fun _ _ _ h => h) (Or.inl ⟨by rfl, ?hyw212⟩) (by assumption) ?restw212
            case hyw212 => (intro w hSw; (try dsimp only at hSw); go_simp; try with_reducible rfl)
            try simp only [List.getElem_toArray, List.getElem_cons_succ, List.getElem_cons_zero, Act.put, List.setIfInBounds_toArray, List.set_cons_zero, List.set_cons_succ]
            refine wpAnyH_take (i := 13) (v := ?vw213) rfl (by kernel_rfl) (by kernel_rfl) (by kernel_rfl) (fun _ _ _ h => h) (Or.inl ⟨by rfl, ?hyw213⟩) (by assumption) ?restw213
            case hyw213 => (intro w hSw; (try dsimp only at hSw); go_simp; try with_reducible rfl)
            try simp only [List.getElem_toArray, List.getElem_cons_succ, List.getElem_cons_zero, Act.put, List.setIfInBounds_toArray, List.set_cons_zero, List.set_cons_succ]
            refine wpAnyH_take (i := 14) (v := ?vw214) rfl (by kernel_rfl) (by kernel_rfl) (by kernel_rfl) (fun _ _ _ h => h) (Or.inl ⟨by rfl, ?hyw214⟩) (by assumption) ?restw214
            case hyw214 => (intro w hSw; (try dsimp only at hSw); go_simp; try with_reducible rfl)
            try simp only [List.getElem_toArray, List.getElem_cons_succ, List.getElem_cons_zero, Act.put, List.setIfInBounds_toArray, List.set_cons_zero, List.set_cons_succ]
            refine wpAnyH_take (i := 15) (v := ?vw215) rfl (by kernel_rfl) (by kernel_rfl) (by kernel_rfl) (fun _ _ _ h => h) (Or.inl ⟨by rfl, ?hyw215⟩) (by assumption) ?restw215
            case hyw215 => (intro w hSw; (try dsimp only at hSw); go_simp; try with_reducible rfl)
            try simp only [List.getElem_toArray, List.getElem_cons_succ, List.getElem_cons_zero, Act.put, List.setIfInBounds_toArray, List.set_cons_zero, List.set_cons_succ]
            refine wpAnyH_done (by kernel_rfl) ?_ _
            have HBN := Go.Lib.hid (show Below w9.heap.size w9 wc from HBR.out.trans (((show Below wr.heap.size wr wr.drew from below_drewN (Below.refl _ _) 1).trans bc).mono HBR.out.size))
            clear hHeld bc ha0 ha1 ha2 hcell
            go_wp2_with fail
            go_roundw
            case rel => exact ⟨k + 1, by omega, by go_num, by rw [HP1.out], by rw [HP1.out], HBN.out⟩
            case measure => simp [intOf]; omega
          case neg =>
            obtain rfl : k = ws.length := by omega
            rw [List.take_length, HWK.out]
            have hni : ¬ ((ws.length : Nat) : Int) < ws.length := by omega
            have HWB := Go.Lib.hid (HW.out.trans (hbr.mono HW.out.size))
            clear hbr
            go_wp2_with fail
            refine (HBK.out _ HTR.out).mono ?_
            rintro _ w9 ⟨A9, c9, rfl, o9, b9⟩
            try dsimp only
            have HWE := Go.Lib.hid (HWB.out.trans (b9.mono HWB.out.size))
            have hle : ((v.length : Int) == (ws.length : Int)) = true := by rw [hvl]; simp
            clear o9 b9 ha0 ha1 ha2 hvl
            go_wp2_with fail
            go_ret
            exact ⟨rfl, HWE.out⟩

set_option maxRecDepth 100000 in
theorem lifted (os : Os) (started : os.Started) (H : Type) (enc : TypeId × Value → H) :
    ReturnsInHanded {} Try.checked os 3 .any (Rows.fnWaysSpec.pre6 enc Try.prog Try.f3 Rows.fnWaysRow.domain false) (Rows.fnWaysSpec.post enc Try.prog Try.f3 false true false false) := by
  refine returnsInHanded_of_change_sized (C := Try.checked) own started (by kernel_rfl) Try.func3
    (ChangeSpec.witness6 (enc := enc) (C := Try.checked) false ⟨#[], #[.slice none 0 0], []⟩ 8 (by kernel_rfl) (by kernel_rfl) (by kernel_rfl) (by kernel_rfl)) ?_
  intro W base args ds gs before hval0 hW hcnd hsz0 _
  have hsz : (DataW.weightsEach Try.prog (Try.f3.params.toList ++ Rows.fnWaysSpec.plain.varTypes Try.prog) (ds ++ gs)).all (· ≤ reachBytes) = true := hsz0
  clear hsz0
  have hval : ∀ (j : Nat) t v, Try.f3.params[j]? = some t → args[j]? = some v → Value.okWide Try.prog W .any base t v := hval0
  clear hval0
  have hW' := hW
  obtain ⟨p, q, hA0, hV, rfl, hfz, hnd⟩ := hW
  have hA : DataW.TrodAll enc Try.prog W 0 (fun _ => true) true Try.f3.params.toList args.toList ds p := hA0
  rw [Try.params3] at hA hval hsz
  obtain ⟨v0, vs0, d0, ds0, p0, q0, hargs, rfl, rfl, h0, r0⟩ := trodAll_cons hA
  obtain ⟨rfl, rfl, rfl⟩ := trodAll_nil r0
  obtain rfl : args = #[v0] := by cases args; simp_all
  obtain ⟨rfl, rfl⟩ := trodVars_none hV
  obtain ⟨a0, len0, cap0, rfl⟩ := okWide_slice Try.underlying22 (hval 0 22 v0 rfl rfl)
  have k0 := h0
  have lt0 : ∀ x ∈ p0, x.block < W.heap.size := by obtain ⟨m, hm⟩ := k0; exact DataW.trod_lt m _ _ _ hm
  obtain ⟨⟨z0, rd0, sz0⟩, hlc0, hp0⟩ := open_list_bytes h0
  have reach0 : len0 * 1 ≤ 140737488351232 := by
    rcases hp0 with hp0 | ⟨E0, S0, rfl, hl0⟩
    · omega
    · have := sized_slice hsz (j := 0) (t := 22) (e := 5) rfl rfl Try.underlying22
      rw [show Try.prog.bytesOf 5 = 1 by kernel_rfl] at this
      simp only [reachBytes] at this
      omega
  clear hA0
  refine (walk a0 len0 cap0 z0 W rd0 reach0 sz0).mono fun e W' ⟨he, bel⟩ => ?_
  subst he
  exact ⟨_, rfl, _, _, _, [], _, [], hW', trodAll_mk1 (shut_bool Try.underlying4 _), (trodAll_cons_mk (Below.trod laidOut (by kernel_rfl) (of_decide_eq_true (by kernel_rfl)) k0 bel lt0) trodAll_mk0), rfl, bel.frame _, fun h => by cases h⟩

theorem over : Rows.fnWaysRow.holds Try.pinned (OpenSpec.ofChange Rows.fnWaysSpec) :=
  OpenClaim.holds_of_wide 3 Try.f3 rfl rfl rfl rfl rfl rfl rfl ⟨rfl, rfl, rfl, rfl, rfl⟩ rfl rfl rfl rfl rfl (by kernel_rfl) Try.func3 (by kernel_rfl)
    (of_decide_eq_true (by kernel_rfl)) (by unfold Func.isWrapper; first | (rw [if_pos (by decide +kernel)]; kernel_rfl) | (rw [if_neg (by decide +kernel)]; exact ⟨rfl, rfl⟩))
    (fun os started H enc _ => lifted os started H enc)

theorem proved : Rows.FnWaysSaid := over
end Go.Proofs.Ythedanpldebjcaa.fnWays
