/- A chain with the links that are told suffices, and with two less it does not: with the program's own functions, at every code. -/
import Derived.Test.YtilepehlmjohbaaRows
import Derived.Test.YtilepehlmjohbaaChainImpl
import Derived.Test.YtilepehlmjohbaaPlainChainL
import Derived.Test.YtilepehlmjohbaaDrawCh
import Derived.Test.YtilepehlmjohbaaBig
import Derived.Test.YtilepehlmjohbaaOpenB
import Derived.WalkKit
import Derived.ProofKit
import Derived.OpenShut
import Derived.ShutString
import Derived.SizedLaws
namespace Go.Proofs.Ytilepehlmjohbaa.fnLinks
open Go.ChangeShapes Go.WideShapes Go.ChangeAt Go.RowKit
open Go.ChangeMaps (open_string shut_string)
set_option linter.unusedVariables false

set_option linter.unusedSimpArgs false
set_option maxRecDepth 100000 in
set_option maxHeartbeats 16000000 in
theorem walk (A : Option Addr) (n cap : Nat) (bs : List Int) (w : World) (h : Rd w 0 w.heap.size A n (byts bs)) (hn : n * 1 ≤ 140737488351232) (hs : ∀ z ∈ bs, 0 ≤ z ∧ z ≤ 255) :
    Calls Try.prog 3 #[.slice A n cap] w fun e w' => e = .returned (.bool true) ∧ Below w.heap.size w w' := by
  have HB := Go.Lib.hid (big_ A n cap w)
  by_cases hbig : (4096 : Int) < n
  · go_enter Try.func3, Try.ntmps3
    go_wp2_with fail
    refine HB.out.mono ?_
    rintro e w' ⟨rfl, rfl⟩
    go_wp2_with fail
    go_ret
    exact ⟨rfl, Below.refl _ _⟩
  · have hb2 := big_ A n cap w
    rw [decide_eq_false hbig] at hb2
    have HB2 := Go.Lib.hid hb2
    have HRD := Go.Lib.hid (fun w1 (hb : Below w.heap.size w w1) => (h.below hb (Nat.le_refl _)).mono (Nat.le_refl _) hb.size)
    have HW := Go.Lib.hid (Below.refl w.heap.size w)
    clear hb2 HB hbig h
    have hnn : n ≤ 140737488355328 := by omega
    clear hn
    go_enter Try.func3, Try.ntmps3
    go_wp2_with fail
    refine HB2.out.mono ?_
    rintro e w' ⟨rfl, rfl⟩
    have HD := Go.Lib.hid (drawLinksFor A n cap bs _ (HRD.out _ HW.out) hs hnn)
    go_wp2_with fail
    refine (HD.out).mono ?_
    rintro _ w1 ⟨st, f, r, rfl, b1⟩
    have HW := Go.Lib.hid (HW.out.trans (b1.mono HW.out.size))
    clear b1
    clear HD
    obtain ⟨l, q, hL⟩ : ∃ l q, linksR st f r = (l, q) := ⟨_, _, rfl⟩
    obtain ⟨nd, p, hN⟩ : ∃ nd p, needR st f r = (nd, p) := ⟨_, _, rfl⟩
    have HL1 := Go.Lib.hid (fun w0 => implLinksFor st f r w0)
    have HL2 := Go.Lib.hid (fun w0 => specLinksFor st f r w0)
    have HN1 := Go.Lib.hid (fun w0 => implNeedOf st f r w0)
    have HN2 := Go.Lib.hid (fun w0 => specNeedOf st f r w0)
    rw [hL] at HL1 HL2
    rw [hN] at HN1 HN2
    have HLL := Go.Lib.hid (fun (h : q = 0) => links_law (s := st) (f := f) (r := r) (l := l) (by rw [hL, h]))
    rw [hN] at HLL
    clear hL hN
    try dsimp only [Gives2] at HL1 HL2 HN1 HN2
    go_wp2_with fail
    refine (HL1.out _).mono ?_
    rintro _ w2 ⟨rfl, b2⟩
    have HW := Go.Lib.hid (HW.out.trans (b2.mono HW.out.size))
    clear b2
    go_wp2_with fail
    refine (HL2.out _).mono ?_
    rintro _ w3 ⟨rfl, b3⟩
    have HW := Go.Lib.hid (HW.out.trans (b3.mono HW.out.size))
    clear b3
    go_wp2_with fail
    refine (HN1.out _).mono ?_
    rintro _ w4 ⟨rfl, b4⟩
    have HW := Go.Lib.hid (HW.out.trans (b4.mono HW.out.size))
    clear b4
    go_wp2_with fail
    refine (HN2.out _).mono ?_
    rintro _ w5 ⟨rfl, b5⟩
    have HW := Go.Lib.hid (HW.out.trans (b5.mono HW.out.size))
    clear b5
    have HD := Go.Lib.hid (drawStayFor A n cap bs _ (HRD.out _ HW.out) hs hnn)
    go_wp2_with fail
    refine (HD.out).mono ?_
    rintro _ w6 ⟨a, b, c, rfl, b6⟩
    have HW := Go.Lib.hid (HW.out.trans (b6.mono HW.out.size))
    clear b6
    clear HD
    obtain ⟨t, u, hS⟩ : ∃ t u, stayR a b c = (t, u) := ⟨_, _, rfl⟩
    have HS1 := Go.Lib.hid (fun w0 => implStayFor a b c w0)
    have HS2 := Go.Lib.hid (fun w0 => specStayFor a b c w0)
    have HNB := Go.Lib.hid (fun s w0 => implNeedOf s b c w0)
    rw [hS] at HS1 HS2
    have HSL := Go.Lib.hid (fun (h : u = 0) => stay_law (a := a) (f := b) (r := c) (s := t) (by rw [hS, h]))
    clear hS
    try dsimp only [Gives2] at HS1 HS2
    go_wp2_with fail
    refine (HS1.out _).mono ?_
    rintro _ w7 ⟨rfl, b7⟩
    have HW := Go.Lib.hid (HW.out.trans (b7.mono HW.out.size))
    clear b7
    go_wp2_with fail
    refine (HS2.out _).mono ?_
    rintro _ w8 ⟨rfl, b8⟩
    have HW := Go.Lib.hid (HW.out.trans (b8.mono HW.out.size))
    clear b8
    have HD := Go.Lib.hid (drawCutLinks A n cap bs _ (HRD.out _ HW.out) hs hnn)
    go_wp2_with fail
    refine (HD.out).mono ?_
    rintro _ w9 ⟨x, y, rfl, b9⟩
    have HW := Go.Lib.hid (HW.out.trans (b9.mono HW.out.size))
    clear b9
    clear HD
    obtain ⟨e, v, hC⟩ : ∃ e v, cutR x y = (e, v) := ⟨_, _, rfl⟩
    have HC1 := Go.Lib.hid (fun w0 => implCut x y w0)
    have HC2 := Go.Lib.hid (fun w0 => specCut x y w0)
    rw [hC] at HC1 HC2
    have HCL := Go.Lib.hid (fun (h : v = 0) => cut_law (x := x) (y := y) (c := e) (by rw [hC, h]))
    clear hC
    try dsimp only [Gives2] at HC1 HC2
    go_wp2_with fail
    refine (HC1.out _).mono ?_
    rintro _ w10 ⟨rfl, b10⟩
    have HW := Go.Lib.hid (HW.out.trans (b10.mono HW.out.size))
    clear b10
    go_wp2_with fail
    refine (HC2.out _).mono ?_
    rintro _ w11 ⟨rfl, b11⟩
    have HW := Go.Lib.hid (HW.out.trans (b11.mono HW.out.size))
    clear b11
    have hq0 : (l != l) = false := by simp
    have hq1 : (q != q) = false := by simp
    have hq2 : (nd != nd) = false := by simp
    have hq3 : (p != p) = false := by simp
    have hq4 : (t != t) = false := by simp
    have hq5 : (u != u) = false := by simp
    have hq6 : (e != e) = false := by simp
    have hq7 : (v != v) = false := by simp
    go_upto_if 143 with fail
    clear hq0 hq1 hq2 hq3 hq4 hq5 hq6 hq7
    go_cut [] (fun wx => Below w.heap.size w wx)
    case first =>
      by_cases hu : u = 0
      case pos =>
        subst hu
        obtain ⟨⟨a0, a1⟩, ⟨t0, t1⟩, ⟨n1, hn1, hle1⟩, hmore⟩ := HSL.out rfl
        have HB1 := Go.Lib.hid (HNB.out t)
        rw [hn1] at HB1
        have ea : IntKind.i64.wrap (1000 * a) = 1000 * a := IntWalk.i64_in _ (by omega)
        have hng : ¬ 1000 * a < n1 := by omega
        have HMO := Go.Lib.hid hmore
        clear hn1 hmore hle1
        try dsimp only [Gives2] at HB1
        go_wp2_with fail
        refine (HB1.out _).mono ?_
        rintro _ w12 ⟨rfl, b12⟩
        have HW := Go.Lib.hid (HW.out.trans (b12.mono HW.out.size))
        clear b12
        by_cases h6 : t < 6000
        case pos =>
          obtain ⟨n2, hn2, hlt2⟩ := HMO.out h6
          have et : IntKind.i64.wrap (t + 1) = t + 1 := IntWalk.i64_in _ (by omega)
          have HB2 := Go.Lib.hid (HNB.out (t + 1))
          rw [hn2] at HB2
          have hng2 : ¬ n2 ≤ 1000 * a := by omega
          clear hn2 hlt2
          try dsimp only [Gives2] at HB2
          go_wp2_with fail
          refine (HB2.out _).mono ?_
          rintro _ w13 ⟨rfl, b13⟩
          have HW := Go.Lib.hid (HW.out.trans (b13.mono HW.out.size))
          clear b13
          go_wp2_with fail
          go_meet
          exact HW.out
        case neg =>
          go_wp2_with fail
          go_meet
          exact HW.out
      case neg =>
        have hub : (u == 0) = false := by simpa using hu
        go_wp2_with fail
        go_meet
        exact HW.out
    case rest wx =>
      have HW := Go.Lib.hid hcut
      clear hcut
      by_cases hv : v = 0
      case pos =>
        subst hv
        obtain ⟨hyc, x0, x1, y0, y1⟩ := HCL.out rfl
        have ey : IntKind.i64.wrap (y + e) = x := (IntWalk.i64_in _ (by omega)).trans hyc
        clear hyc
        by_cases hq : q = 0
        case neg =>
          have hqb : (q != 0) = true := by simpa using hq
          go_wp2_with fail
          go_ret
          exact ⟨rfl, HW.out⟩
        case pos =>
          subst hq
          obtain ⟨n2, hn2, ⟨l0, l1⟩, h2, hle, hor⟩ := HLL.out rfl
          have hnn2 : nd = n2 := (Prod.mk.inj hn2).1
          subst hnn2
          have em : l.tmod 2 = 0 := by rw [tmod2 (by omega)]; exact h2
          have ew0 : IntKind.i64.wrap (0 : Int) = 0 := IntWalk.i64_in _ (by omega)
          have e1 : IntKind.i64.wrap (1000 * l) = 1000 * l := IntWalk.i64_in _ (by omega)
          have e2 : IntKind.i64.wrap (l - 2) = l - 2 := IntWalk.i64_in _ (by omega)
          have e3 : IntKind.i64.wrap (1000 * (l - 2)) = 1000 * (l - 2) := IntWalk.i64_in _ (by omega)
          by_cases h40 : l = 40
          case pos =>
            subst h40
            clear hn2 hor h2
            go_wp2_with fail
            go_ret
            exact ⟨rfl, HW.out⟩
          case neg =>
            have h41 : (l == 40) = false := by simpa using h40
            have hlt := hor.resolve_left h40
            clear hn2 hor h2 h40
            go_wp2_with fail
            go_ret
            exact ⟨rfl, HW.out⟩
      case neg =>
        have hvb : (v == 0) = false := by simpa using hv
        by_cases hq : q = 0
        case neg =>
          have hqb : (q != 0) = true := by simpa using hq
          go_wp2_with fail
          go_ret
          exact ⟨rfl, HW.out⟩
        case pos =>
          subst hq
          obtain ⟨n2, hn2, ⟨l0, l1⟩, h2, hle, hor⟩ := HLL.out rfl
          have hnn2 : nd = n2 := (Prod.mk.inj hn2).1
          subst hnn2
          have em : l.tmod 2 = 0 := by rw [tmod2 (by omega)]; exact h2
          have ew0 : IntKind.i64.wrap (0 : Int) = 0 := IntWalk.i64_in _ (by omega)
          have e1 : IntKind.i64.wrap (1000 * l) = 1000 * l := IntWalk.i64_in _ (by omega)
          have e2 : IntKind.i64.wrap (l - 2) = l - 2 := IntWalk.i64_in _ (by omega)
          have e3 : IntKind.i64.wrap (1000 * (l - 2)) = 1000 * (l - 2) := IntWalk.i64_in _ (by omega)
          by_cases h40 : l = 40
          case pos =>
            subst h40
            clear hn2 hor h2
            go_wp2_with fail
            go_ret
            exact ⟨rfl, HW.out⟩
          case neg =>
            have h41 : (l == 40) = false := by simpa using h40
            have hlt := hor.resolve_left h40
            clear hn2 hor h2 h40
            go_wp2_with fail
            go_ret
            exact ⟨rfl, HW.out⟩

set_option maxRecDepth 100000 in
theorem lifted (os : Os) (started : os.Started) (H : Type) (enc : TypeId × Value → H) :
    ReturnsInHanded {} Try.checked os 3 .any (Rows.fnLinksSpec.pre6 enc Try.prog Try.f3 Rows.fnLinksRow.domain false) (Rows.fnLinksSpec.post enc Try.prog Try.f3 false true false false) := by
  refine returnsInHanded_of_change_sized (C := Try.checked) own started (by kernel_rfl) Try.func3
    (ChangeSpec.witness6 (enc := enc) (C := Try.checked) false ⟨#[], #[.slice none 0 0], []⟩ 8 (by kernel_rfl) (by kernel_rfl) (by kernel_rfl) (by kernel_rfl)) ?_
  intro W base args ds gs before hval0 hW hcnd hsz0 _
  have hsz : (DataW.weightsEach Try.prog (Try.f3.params.toList ++ Rows.fnLinksSpec.plain.varTypes Try.prog) (ds ++ gs)).all (· ≤ reachBytes) = true := hsz0
  clear hsz0
  have hval : ∀ (j : Nat) t v, Try.f3.params[j]? = some t → args[j]? = some v → Value.okWide Try.prog W .any base t v := hval0
  clear hval0
  have hW' := hW
  obtain ⟨p, q, hA0, hV, rfl, hfz, hnd⟩ := hW
  have hA : DataW.TrodAll enc Try.prog W 0 (fun _ => true) true Try.f3.params.toList args.toList ds p := hA0
  rw [Try.params3] at hA hval hsz
  obtain ⟨v0, vs0, d0, ds0, p0, q0, hargs, rfl, rfl, h0, r0⟩ := trodAll_cons hA
  obtain ⟨rfl, rfl, rfl⟩ := trodAll_nil r0
  obtain rfl : args = #[v0] := by cases args; simp_all
  obtain ⟨rfl, rfl⟩ := trodVars_none hV
  obtain ⟨a0, len0, cap0, rfl⟩ := okWide_slice Try.underlying22 (hval 0 22 v0 rfl rfl)
  have k0 := h0
  have lt0 : ∀ x ∈ p0, x.block < W.heap.size := by obtain ⟨m, hm⟩ := k0; exact DataW.trod_lt m _ _ _ hm
  obtain ⟨⟨z0, rd0, sz0⟩, hlc0, hp0⟩ := open_list_bytes h0
  have reach0 : len0 * 1 ≤ 140737488351232 := by
    rcases hp0 with hp0 | ⟨E0, S0, rfl, hl0⟩
    · omega
    · have := sized_slice hsz (j := 0) (t := 22) (e := 5) rfl rfl Try.underlying22
      rw [show Try.prog.bytesOf 5 = 1 by kernel_rfl] at this
      simp only [reachBytes] at this
      omega
  clear hA0
  refine (walk a0 len0 cap0 z0 W rd0 reach0 sz0).mono fun e W' ⟨he, bel⟩ => ?_
  subst he
  exact ⟨_, rfl, _, _, _, [], _, [], hW', trodAll_mk1 (shut_bool Try.underlying4 _), (trodAll_cons_mk (Below.trod laidOut (by kernel_rfl) (of_decide_eq_true (by kernel_rfl)) k0 bel lt0) trodAll_mk0), rfl, bel.frame _, fun h => by cases h⟩

theorem over : Rows.fnLinksRow.holds Try.pinned (OpenSpec.ofChange Rows.fnLinksSpec) :=
  OpenClaim.holds_of_wide 3 Try.f3 rfl rfl rfl rfl rfl rfl rfl ⟨rfl, rfl, rfl, rfl, rfl⟩ rfl rfl rfl rfl rfl (by kernel_rfl) Try.func3 (by kernel_rfl)
    (of_decide_eq_true (by kernel_rfl)) (by unfold Func.isWrapper; first | (rw [if_pos (by decide +kernel)]; kernel_rfl) | (rw [if_neg (by decide +kernel)]; exact ⟨rfl, rfl⟩))
    (fun os started H enc _ => lifted os started H enc)

theorem proved : Rows.FnLinksSaid := over
end Go.Proofs.Ytilepehlmjohbaa.fnLinks
