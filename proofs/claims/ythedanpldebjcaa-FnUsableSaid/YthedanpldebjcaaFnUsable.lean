/- Usable gears are those that are not crossed, and no more are reached. -/
import Derived.Test.YthedanpldebjcaaRows
import Derived.Test.YthedanpldebjcaaMgUsable4
import Derived.Test.YthedanpldebjcaaDrawSh
import Derived.Test.YthedanpldebjcaaMgUsable7
import Derived.Test.YthedanpldebjcaaLikesI
import Derived.Test.YthedanpldebjcaaInts
import Derived.Test.YthedanpldebjcaaEqZ
import Derived.Test.YthedanpldebjcaaGrid2
import Derived.WalkKit
import Derived.ProofKit
import Derived.OpenShut
import Derived.ShutString
import Derived.SizedLaws
namespace Go.Proofs.Ythedanpldebjcaa.fnUsable
open Go.ChangeShapes Go.WideShapes Go.ChangeAt Go.RowKit
open Go.ChangeMaps (open_string shut_string)
set_option linter.unusedVariables false

set_option linter.unusedSimpArgs false
set_option maxRecDepth 100000 in
set_option maxHeartbeats 16000000 in
theorem walk (A : Option Addr) (n cap : Nat) (bs : List Int) (w : World) (h : Rd w 0 w.heap.size A n (byts bs)) (hn : n * 1 ≤ 140737488351232) (hs : ∀ z ∈ bs, 0 ≤ z ∧ z ≤ 255) :
    Calls Try.prog 4 #[.slice A n cap] w fun e w' => e = .returned (.bool true) ∧ Below w.heap.size w w' := by
  have HB := Go.Lib.hid (big_ A n cap w)
  by_cases hbig : (4096 : Int) < n
  · go_enter Try.func4, Try.ntmps4
    go_wp2_with fail
    refine HB.out.mono ?_
    rintro e w' ⟨rfl, rfl⟩
    go_wp2_with fail
    go_ret
    exact ⟨rfl, Below.refl _ _⟩
  · have hb2 := big_ A n cap w
    rw [decide_eq_false hbig] at hb2
    have HB2 := Go.Lib.hid hb2
    have HRD := Go.Lib.hid (fun w1 (hb : Below w.heap.size w w1) => (h.below hb (Nat.le_refl _)).mono (Nat.le_refl _) hb.size)
    have HW := Go.Lib.hid (Below.refl w.heap.size w)
    clear hb2 HB hbig h
    have hnn : n ≤ 140737488355328 := by omega
    clear hn
    go_enter Try.func4, Try.ntmps4
    go_wp2_with fail
    refine HB2.out.mono ?_
    rintro e w' ⟨rfl, rfl⟩
    have HD := Go.Lib.hid (drawReach A n cap bs _ (HRD.out _ HW.out) hs hnn)
    go_wp2_with fail
    refine HD.out.mono ?_
    rintro _ w1 ⟨x, Ax, cx, Bx, dx, lm, f, r, rfl, t1, b1⟩
    have HW := Go.Lib.hid (HW.out.trans (b1.mono HW.out.size))
    have HTa := Go.Lib.hid t1
    unfold trainV at *
    clear t1 b1 HD
    go_upto_region 4 with fail
    refine wp_gen (R := fun W => Box W w1.heap.size (trainC x Ax cx Bx dx) ∧ Below w1.heap.size w1 W) ⟨boxT_box x Ax cx Bx dx w1, boxT_below x Ax cx Bx dx w1⟩ ?_
    rintro w2 ⟨hx, b2⟩
    have HTa := Go.Lib.hid (HTa.out.below b2)
    have HW := Go.Lib.hid (HW.out.trans (b2.mono HW.out.size))
    have HXa := Go.Lib.hid hx
    clear hx b2
    obtain ⟨qa, hq⟩ : ∃ q, w1.heap.size = q := ⟨_, rfl⟩
    rw [hq] at HXa
    try simp only [hq]
    clear hq
    obtain ⟨nr, q, hR⟩ : ∃ nr q, reachR x lm f r = (nr, q) := ⟨_, _, rfl⟩
    obtain ⟨us, p, hU⟩ : ∃ us p, usableR x lm = (us, p) := ⟨_, _, rfl⟩
    obtain ⟨sh, v, hS⟩ : ∃ sh v, ringR x lm = (sh, v) := ⟨_, _, rfl⟩
    obtain ⟨cr, u, hC⟩ : ∃ cr u, crossR x lm f r = (cr, u) := ⟨_, _, rfl⟩
    have HR1 := Go.Lib.hid (fun w0 T0 => implReach x Ax cx Bx dx lm f r w0 T0)
    have HR2 := Go.Lib.hid (fun w0 T0 => specReach x Ax cx Bx dx lm f r w0 T0)
    have HU1 := Go.Lib.hid (fun w0 T0 => (implUsable x Ax cx Bx dx lm w0 T0).mono fun _ _ h => GivesG.rd11 h)
    have HU2 := Go.Lib.hid (fun w0 T0 => (specUsable x Ax cx Bx dx lm w0 T0).mono fun _ _ h => h.rd (Nat.le_trans (usableR_few x lm) (by omega)))
    have HS1 := Go.Lib.hid (fun w0 T0 => implRing x Ax cx Bx dx lm w0 T0)
    have HS2 := Go.Lib.hid (fun w0 T0 => specRing x Ax cx Bx dx lm w0 T0)
    have HC1 := Go.Lib.hid (fun w0 T0 => implCross x Ax cx Bx dx lm f r w0 T0)
    have HC2 := Go.Lib.hid (fun w0 T0 => specCross x Ax cx Bx dx lm f r w0 T0)
    obtain ⟨hvp, hu36, hlp, hlq, hlu⟩ := usable_all hR hU hS hC
    rw [hR] at HR1 HR2
    rw [hU] at HU1 HU2
    rw [hS] at HS1 HS2
    rw [hC] at HC1 HC2
    subst hvp
    have HLP := Go.Lib.hid hlp
    have HLQ := Go.Lib.hid hlq
    have HLU := Go.Lib.hid hlu
    clear hR hU hS hC hlp hlq hlu
    unfold trainV at *
    have ha0 : w2.cell? ⟨qa, 0, none⟩ = some (.slice Ax x.f.length cx) := HXa.out.at_ 0 _ rfl
    have ha1 : w2.cell? ⟨qa, 1, none⟩ = some (.slice Bx x.r.length dx) := HXa.out.at_ 1 _ rfl
    have ha2 : w2.cell? ⟨qa, 2, none⟩ = some (.int .i64 x.n) := HXa.out.at_ 2 _ rfl
    go_wp2_with fail
    refine (HR1.out _ HTa.out).mono ?_
    rintro _ w3 ⟨rfl, b3⟩
    clear ha0 ha1 ha2
    have HTa := Go.Lib.hid (HTa.out.below b3)
    have HXa := Go.Lib.hid (HXa.out.below b3)
    have HW := Go.Lib.hid (HW.out.trans (b3.mono HW.out.size))
    clear b3
    have ha0 : w3.cell? ⟨qa, 0, none⟩ = some (.slice Ax x.f.length cx) := HXa.out.at_ 0 _ rfl
    have ha1 : w3.cell? ⟨qa, 1, none⟩ = some (.slice Bx x.r.length dx) := HXa.out.at_ 1 _ rfl
    have ha2 : w3.cell? ⟨qa, 2, none⟩ = some (.int .i64 x.n) := HXa.out.at_ 2 _ rfl
    go_wp2_with fail
    refine (HR2.out _ HTa.out).mono ?_
    rintro _ w4 ⟨rfl, b4⟩
    clear ha0 ha1 ha2
    have HTa := Go.Lib.hid (HTa.out.below b4)
    have HXa := Go.Lib.hid (HXa.out.below b4)
    have HW := Go.Lib.hid (HW.out.trans (b4.mono HW.out.size))
    clear b4
    have ha0 : w4.cell? ⟨qa, 0, none⟩ = some (.slice Ax x.f.length cx) := HXa.out.at_ 0 _ rfl
    have ha1 : w4.cell? ⟨qa, 1, none⟩ = some (.slice Bx x.r.length dx) := HXa.out.at_ 1 _ rfl
    have ha2 : w4.cell? ⟨qa, 2, none⟩ = some (.int .i64 x.n) := HXa.out.at_ 2 _ rfl
    go_wp2_with fail
    refine (HU1.out _ HTa.out).mono ?_
    rintro _ w5 ⟨Au, cu, rfl, z5, b5⟩
    clear ha0 ha1 ha2
    have HTa := Go.Lib.hid (HTa.out.below b5)
    have HXa := Go.Lib.hid (HXa.out.below b5)
    have HW := Go.Lib.hid (HW.out.trans (b5.mono HW.out.size))
    have HZu := Go.Lib.hid z5
    clear z5 b5
    have ha0 : w5.cell? ⟨qa, 0, none⟩ = some (.slice Ax x.f.length cx) := HXa.out.at_ 0 _ rfl
    have ha1 : w5.cell? ⟨qa, 1, none⟩ = some (.slice Bx x.r.length dx) := HXa.out.at_ 1 _ rfl
    have ha2 : w5.cell? ⟨qa, 2, none⟩ = some (.int .i64 x.n) := HXa.out.at_ 2 _ rfl
    go_wp2_with fail
    refine (HU2.out _ HTa.out).mono ?_
    rintro _ w6 ⟨Ag, cg, rfl, z6, b6⟩
    clear ha0 ha1 ha2
    have HTa := Go.Lib.hid (HTa.out.below b6)
    have HXa := Go.Lib.hid (HXa.out.below b6)
    have HZu := Go.Lib.hid (HZu.out.below b6)
    have HW := Go.Lib.hid (HW.out.trans (b6.mono HW.out.size))
    have HZg := Go.Lib.hid z6
    clear z6 b6
    have ha0 : w6.cell? ⟨qa, 0, none⟩ = some (.slice Ax x.f.length cx) := HXa.out.at_ 0 _ rfl
    have ha1 : w6.cell? ⟨qa, 1, none⟩ = some (.slice Bx x.r.length dx) := HXa.out.at_ 1 _ rfl
    have ha2 : w6.cell? ⟨qa, 2, none⟩ = some (.int .i64 x.n) := HXa.out.at_ 2 _ rfl
    go_wp2_with fail
    refine (HS1.out _ HTa.out).mono ?_
    rintro _ w7 ⟨rfl, b7⟩
    clear ha0 ha1 ha2
    have HTa := Go.Lib.hid (HTa.out.below b7)
    have HXa := Go.Lib.hid (HXa.out.below b7)
    have HZu := Go.Lib.hid (HZu.out.below b7)
    have HZg := Go.Lib.hid (HZg.out.below b7)
    have HW := Go.Lib.hid (HW.out.trans (b7.mono HW.out.size))
    clear b7
    have ha0 : w7.cell? ⟨qa, 0, none⟩ = some (.slice Ax x.f.length cx) := HXa.out.at_ 0 _ rfl
    have ha1 : w7.cell? ⟨qa, 1, none⟩ = some (.slice Bx x.r.length dx) := HXa.out.at_ 1 _ rfl
    have ha2 : w7.cell? ⟨qa, 2, none⟩ = some (.int .i64 x.n) := HXa.out.at_ 2 _ rfl
    go_wp2_with fail
    refine (HS2.out _ HTa.out).mono ?_
    rintro _ w8 ⟨rfl, b8⟩
    clear ha0 ha1 ha2
    have HTa := Go.Lib.hid (HTa.out.below b8)
    have HXa := Go.Lib.hid (HXa.out.below b8)
    have HZu := Go.Lib.hid (HZu.out.below b8)
    have HZg := Go.Lib.hid (HZg.out.below b8)
    have HW := Go.Lib.hid (HW.out.trans (b8.mono HW.out.size))
    clear b8
    have ha0 : w8.cell? ⟨qa, 0, none⟩ = some (.slice Ax x.f.length cx) := HXa.out.at_ 0 _ rfl
    have ha1 : w8.cell? ⟨qa, 1, none⟩ = some (.slice Bx x.r.length dx) := HXa.out.at_ 1 _ rfl
    have ha2 : w8.cell? ⟨qa, 2, none⟩ = some (.int .i64 x.n) := HXa.out.at_ 2 _ rfl
    go_wp2_with fail
    refine (HC1.out _ HTa.out).mono ?_
    rintro _ w9 ⟨rfl, b9⟩
    clear ha0 ha1 ha2
    have HTa := Go.Lib.hid (HTa.out.below b9)
    have HXa := Go.Lib.hid (HXa.out.below b9)
    have HZu := Go.Lib.hid (HZu.out.below b9)
    have HZg := Go.Lib.hid (HZg.out.below b9)
    have HW := Go.Lib.hid (HW.out.trans (b9.mono HW.out.size))
    clear b9
    have ha0 : w9.cell? ⟨qa, 0, none⟩ = some (.slice Ax x.f.length cx) := HXa.out.at_ 0 _ rfl
    have ha1 : w9.cell? ⟨qa, 1, none⟩ = some (.slice Bx x.r.length dx) := HXa.out.at_ 1 _ rfl
    have ha2 : w9.cell? ⟨qa, 2, none⟩ = some (.int .i64 x.n) := HXa.out.at_ 2 _ rfl
    go_wp2_with fail
    refine (HC2.out _ HTa.out).mono ?_
    rintro _ w10 ⟨rfl, b10⟩
    clear ha0 ha1 ha2
    have HTa := Go.Lib.hid (HTa.out.below b10)
    have HXa := Go.Lib.hid (HXa.out.below b10)
    have HZu := Go.Lib.hid (HZu.out.below b10)
    have HZg := Go.Lib.hid (HZg.out.below b10)
    have HW := Go.Lib.hid (HW.out.trans (b10.mono HW.out.size))
    clear b10
    have hq0 : (nr != nr) = false := by simp
    have hq1 : (q != q) = false := by simp
    have hq2 : (v != v) = false := by simp
    have hq3 : (sh != sh) = false := by simp
    have hq4 : (cr != cr) = false := by simp
    have hq5 : (u != u) = false := by simp
    have ha0 : w10.cell? ⟨qa, 0, none⟩ = some (.slice Ax x.f.length cx) := HXa.out.at_ 0 _ rfl
    have ha1 : w10.cell? ⟨qa, 1, none⟩ = some (.slice Bx x.r.length dx) := HXa.out.at_ 1 _ rfl
    have ha2 : w10.cell? ⟨qa, 2, none⟩ = some (.int .i64 x.n) := HXa.out.at_ 2 _ rfl
    have HE := Go.Lib.hid (likeRowsZ Au Ag us.length cu cg us _ rfl HZu.out HZg.out)
    go_wp2_with fail
    refine HE.out.mono ?_
    rintro _ w11 ⟨rfl, x11, e11⟩
    have b11 := below_of_drewN e11
    clear ha0 ha1 ha2
    have HTa := Go.Lib.hid (HTa.out.below b11)
    have HXa := Go.Lib.hid (HXa.out.below b11)
    have HZu := Go.Lib.hid (HZu.out.below b11)
    have HZg := Go.Lib.hid (HZg.out.below b11)
    have HW := Go.Lib.hid (HW.out.trans (b11.mono HW.out.size))
    clear b11 e11 HE
    have HHR := Go.Lib.hid (fun w0 H0 => lawHasRow Au cu us f r w0 H0)
    have e2 : IntKind.i64.wrap (2 * (us.length : Int)) = 2 * (us.length : Int) := IntWalk.i64_in _ (by omega)
    by_cases hu : u = 0
    case pos =>
      subst hu
      obtain ⟨hp0, hhas⟩ := HLU.out rfl
      subst hp0
      have HHR := Go.Lib.hid (HHR.out _ HZu.out)
      rw [hhas] at HHR
      have hcb : (cr == !cr) = false := by cases cr <;> rfl
      clear hhas
      have ha0 : w11.cell? ⟨qa, 0, none⟩ = some (.slice Ax x.f.length cx) := HXa.out.at_ 0 _ rfl
      have ha1 : w11.cell? ⟨qa, 1, none⟩ = some (.slice Bx x.r.length dx) := HXa.out.at_ 1 _ rfl
      have ha2 : w11.cell? ⟨qa, 2, none⟩ = some (.int .i64 x.n) := HXa.out.at_ 2 _ rfl
      go_wp2_with fail
      refine HHR.out.mono ?_
      rintro _ _ ⟨rfl, rfl⟩
      by_cases hq : q = 0
      case pos =>
        subst hq
        obtain ⟨s0, s1⟩ := HLP.out (by first | rfl | trivial)
        have hsl : ¬ 2 * (us.length : Int) < sh := by omega
        obtain ⟨-, n1, n2⟩ := HLQ.out (by first | rfl | trivial)
        clear ha0 ha1 ha2
        have ha0 : w11.cell? ⟨qa, 0, none⟩ = some (.slice Ax x.f.length cx) := HXa.out.at_ 0 _ rfl
        have ha1 : w11.cell? ⟨qa, 1, none⟩ = some (.slice Bx x.r.length dx) := HXa.out.at_ 1 _ rfl
        have ha2 : w11.cell? ⟨qa, 2, none⟩ = some (.int .i64 x.n) := HXa.out.at_ 2 _ rfl
        go_wp2_with fail
        go_ret
        exact ⟨rfl, HW.out⟩
      case neg =>
        have hqb : (q != 0) = true := by simpa using hq
        obtain ⟨s0, s1⟩ := HLP.out (by first | rfl | trivial)
        have hsl : ¬ 2 * (us.length : Int) < sh := by omega
        clear ha0 ha1 ha2
        have ha0 : w11.cell? ⟨qa, 0, none⟩ = some (.slice Ax x.f.length cx) := HXa.out.at_ 0 _ rfl
        have ha1 : w11.cell? ⟨qa, 1, none⟩ = some (.slice Bx x.r.length dx) := HXa.out.at_ 1 _ rfl
        have ha2 : w11.cell? ⟨qa, 2, none⟩ = some (.int .i64 x.n) := HXa.out.at_ 2 _ rfl
        go_wp2_with fail
        go_ret
        exact ⟨rfl, HW.out⟩
    case neg =>
      have hub : (u == 0) = false := by simpa using hu
      have hq : ¬ q = 0 := fun h => hu (HLQ.out h).1
      have hqb : (q != 0) = true := by simpa using hq
      clear hu hq
      by_cases hp : v = 0
      case pos =>
        subst hp
        obtain ⟨s0, s1⟩ := HLP.out (by first | rfl | trivial)
        have hsl : ¬ 2 * (us.length : Int) < sh := by omega
        have ha0 : w11.cell? ⟨qa, 0, none⟩ = some (.slice Ax x.f.length cx) := HXa.out.at_ 0 _ rfl
        have ha1 : w11.cell? ⟨qa, 1, none⟩ = some (.slice Bx x.r.length dx) := HXa.out.at_ 1 _ rfl
        have ha2 : w11.cell? ⟨qa, 2, none⟩ = some (.int .i64 x.n) := HXa.out.at_ 2 _ rfl
        go_wp2_with fail
        go_ret
        exact ⟨rfl, HW.out⟩
      case neg =>
        have hpb : (v == 0) = false := by simpa using hp
        have ha0 : w11.cell? ⟨qa, 0, none⟩ = some (.slice Ax x.f.length cx) := HXa.out.at_ 0 _ rfl
        have ha1 : w11.cell? ⟨qa, 1, none⟩ = some (.slice Bx x.r.length dx) := HXa.out.at_ 1 _ rfl
        have ha2 : w11.cell? ⟨qa, 2, none⟩ = some (.int .i64 x.n) := HXa.out.at_ 2 _ rfl
        go_wp2_with fail
        go_ret
        exact ⟨rfl, HW.out⟩

set_option maxRecDepth 100000 in
theorem lifted (os : Os) (started : os.Started) (H : Type) (enc : TypeId × Value → H) :
    ReturnsInHanded {} Try.checked os 4 .any (Rows.fnUsableSpec.pre6 enc Try.prog Try.f4 Rows.fnUsableRow.domain false) (Rows.fnUsableSpec.post enc Try.prog Try.f4 false true false false) := by
  refine returnsInHanded_of_change_sized (C := Try.checked) own started (by kernel_rfl) Try.func4
    (ChangeSpec.witness6 (enc := enc) (C := Try.checked) false ⟨#[], #[.slice none 0 0], []⟩ 8 (by kernel_rfl) (by kernel_rfl) (by kernel_rfl) (by kernel_rfl)) ?_
  intro W base args ds gs before hval0 hW hcnd hsz0 _
  have hsz : (DataW.weightsEach Try.prog (Try.f4.params.toList ++ Rows.fnUsableSpec.plain.varTypes Try.prog) (ds ++ gs)).all (· ≤ reachBytes) = true := hsz0
  clear hsz0
  have hval : ∀ (j : Nat) t v, Try.f4.params[j]? = some t → args[j]? = some v → Value.okWide Try.prog W .any base t v := hval0
  clear hval0
  have hW' := hW
  obtain ⟨p, q, hA0, hV, rfl, hfz, hnd⟩ := hW
  have hA : DataW.TrodAll enc Try.prog W 0 (fun _ => true) true Try.f4.params.toList args.toList ds p := hA0
  rw [Try.params4] at hA hval hsz
  obtain ⟨v0, vs0, d0, ds0, p0, q0, hargs, rfl, rfl, h0, r0⟩ := trodAll_cons hA
  obtain ⟨rfl, rfl, rfl⟩ := trodAll_nil r0
  obtain rfl : args = #[v0] := by cases args; simp_all
  obtain ⟨rfl, rfl⟩ := trodVars_none hV
  obtain ⟨a0, len0, cap0, rfl⟩ := okWide_slice Try.underlying22 (hval 0 22 v0 rfl rfl)
  have k0 := h0
  have lt0 : ∀ x ∈ p0, x.block < W.heap.size := by obtain ⟨m, hm⟩ := k0; exact DataW.trod_lt m _ _ _ hm
  obtain ⟨⟨z0, rd0, sz0⟩, hlc0, hp0⟩ := open_list_bytes h0
  have reach0 : len0 * 1 ≤ 140737488351232 := by
    rcases hp0 with hp0 | ⟨E0, S0, rfl, hl0⟩
    · omega
    · have := sized_slice hsz (j := 0) (t := 22) (e := 5) rfl rfl Try.underlying22
      rw [show Try.prog.bytesOf 5 = 1 by kernel_rfl] at this
      simp only [reachBytes] at this
      omega
  clear hA0
  refine (walk a0 len0 cap0 z0 W rd0 reach0 sz0).mono fun e W' ⟨he, bel⟩ => ?_
  subst he
  exact ⟨_, rfl, _, _, _, [], _, [], hW', trodAll_mk1 (shut_bool Try.underlying4 _), (trodAll_cons_mk (Below.trod laidOut (by kernel_rfl) (of_decide_eq_true (by kernel_rfl)) k0 bel lt0) trodAll_mk0), rfl, bel.frame _, fun h => by cases h⟩

theorem over : Rows.fnUsableRow.holds Try.pinned (OpenSpec.ofChange Rows.fnUsableSpec) :=
  OpenClaim.holds_of_wide 4 Try.f4 rfl rfl rfl rfl rfl rfl rfl ⟨rfl, rfl, rfl, rfl, rfl⟩ rfl rfl rfl rfl rfl (by kernel_rfl) Try.func4 (by kernel_rfl)
    (of_decide_eq_true (by kernel_rfl)) (by unfold Func.isWrapper; first | (rw [if_pos (by decide +kernel)]; kernel_rfl) | (rw [if_neg (by decide +kernel)]; exact ⟨rfl, rfl⟩))
    (fun os started H enc _ => lifted os started H enc)

theorem proved : Rows.FnUsableSaid := over
end Go.Proofs.Ythedanpldebjcaa.fnUsable
