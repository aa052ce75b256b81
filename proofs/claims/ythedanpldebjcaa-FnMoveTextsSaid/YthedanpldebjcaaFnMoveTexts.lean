/- Moves are recovered from their text. -/
import Derived.Test.YthedanpldebjcaaRows
import Derived.Test.YthedanpldebjcaaDrawMv
import Derived.Test.YthedanpldebjcaaMvP
import Derived.Test.YthedanpldebjcaaBig
import Derived.Test.YthedanpldebjcaaOpenB
import Derived.Test.YthedanpldebjcaaLikesI
import Derived.Test.YthedanpldebjcaaInts
import Derived.WalkKit
import Derived.ProofKit
import Derived.OpenShut
import Derived.ShutString
import Derived.SizedLaws
namespace Go.Proofs.Ythedanpldebjcaa.fnMoveTexts
open Go.ChangeShapes Go.WideShapes Go.ChangeAt Go.RowKit
open Go.ChangeMaps (open_string shut_string)
set_option linter.unusedVariables false

set_option linter.unusedSimpArgs false
set_option maxRecDepth 100000 in
set_option maxHeartbeats 16000000 in
theorem walk (A : Option Addr) (n cap : Nat) (bs : List Int) (w : World) (h : Rd w 0 w.heap.size A n (byts bs)) (hn : n * 1 ≤ 140737488351232) (hs : ∀ z ∈ bs, 0 ≤ z ∧ z ≤ 255) :
    Calls Try.prog 5 #[.slice A n cap] w fun e w' => e = .returned (.bool true) ∧ Below w.heap.size w w' := by
  have HB := Go.Lib.hid (big_ A n cap w)
  by_cases hbig : (4096 : Int) < n
  · go_enter Try.func5, Try.ntmps5
    go_wp2_with fail
    refine HB.out.mono ?_
    rintro e w' ⟨rfl, rfl⟩
    go_wp2_with fail
    go_ret
    exact ⟨rfl, Below.refl _ _⟩
  · have hb2 := big_ A n cap w
    rw [decide_eq_false hbig] at hb2
    have HB2 := Go.Lib.hid hb2
    have HRD := Go.Lib.hid (fun w1 (hb : Below w.heap.size w w1) => (h.below hb (Nat.le_refl _)).mono (Nat.le_refl _) hb.size)
    have HW := Go.Lib.hid (Below.refl w.heap.size w)
    clear hb2 HB hbig h
    have hnn : n ≤ 140737488355328 := by omega
    clear hn
    go_enter Try.func5, Try.ntmps5
    go_wp2_with fail
    refine HB2.out.mono ?_
    rintro e w' ⟨rfl, rfl⟩
    have HD := Go.Lib.hid (drawMovesText A n cap bs _ (HRD.out _ HW.out) hs hnn)
    go_wp2_with fail
    refine HD.out.mono ?_
    rintro _ w100 ⟨zs, B, c, rfl, hzl, hL, b100⟩
    have HLx := Go.Lib.hid hL
    clear hL HD
    have HW := Go.Lib.hid (HW.out.trans (b100.mono HW.out.size))
    clear b100
    obtain ⟨tx, z, hR⟩ : ∃ tx z, mTextR zs = (tx, z) := ⟨_, _, rfl⟩
    have htl : tx.length ≤ 60 := by
      have h := mTextR_few zs
      rw [hR] at h
      exact h
    have HT1 := Go.Lib.hid (fun w0 L0 => implMovesText B c zs w0 L0)
    have HT2 := Go.Lib.hid (fun w0 L0 => specMovesText B c zs w0 L0)
    rw [hR] at HT1 HT2
    have HBK := Go.Lib.hid (fun (h : z = 0) => mText_back (w := zs) (t := tx) (by rw [hR, h]))
    have HIR := Go.Lib.hid (fun w0 => implReadMoves tx w0 (by omega))
    clear hR
    go_wp2_with fail
    refine (HT1.out _ HLx.out).mono ?_
    rintro _ w1 ⟨rfl, b1⟩
    have HLx := Go.Lib.hid (HLx.out.below b1)
    have HW := Go.Lib.hid (HW.out.trans (b1.mono HW.out.size))
    clear b1
    go_wp2_with fail
    refine (HT2.out _ HLx.out).mono ?_
    rintro _ w2 ⟨rfl, b2⟩
    have HLx := Go.Lib.hid (HLx.out.below b2)
    have HW := Go.Lib.hid (HW.out.trans (b2.mono HW.out.size))
    clear b2
    have HD := Go.Lib.hid (drawReadMoves A n cap bs _ (HRD.out _ HW.out) hs hnn)
    go_wp2_with fail
    refine HD.out.mono ?_
    rintro _ w101 ⟨l, rfl, hll, b101⟩
    clear HD
    have HLx := Go.Lib.hid (HLx.out.below b101)
    have HW := Go.Lib.hid (HW.out.trans (b101.mono HW.out.size))
    clear b101
    obtain ⟨ys, u, hS⟩ : ∃ ys u, mReadR l = (ys, u) := ⟨_, _, rfl⟩
    have hyl : ys.length ≤ 60 := by
      have h := mReadR_few l
      rw [hS] at h
      exact h
    have HR1 := Go.Lib.hid (fun w0 => implReadMoves l w0 hll)
    have HR2 := Go.Lib.hid (fun w0 => specReadMoves l w0 hll)
    rw [hS] at HR1 HR2
    have HRB := Go.Lib.hid (fun (h : u = 0) => mRead_back (w := ys) (t := l) (by rw [hS, h]))
    have HIT := Go.Lib.hid (fun D d w0 L0 => implMovesText D d ys w0 L0)
    clear hS hll
    go_wp2_with fail
    refine (HR1.out _).mono ?_
    rintro _ w3 ⟨Ay, cy, rfl, o3, b3⟩
    try dsimp only at o3
    have HLy := Go.Lib.hid (Ls.of o3.rd o3.le (by omega))
    clear o3
    have HLx := Go.Lib.hid (HLx.out.below b3)
    have HW := Go.Lib.hid (HW.out.trans (b3.mono HW.out.size))
    clear b3
    go_wp2_with fail
    refine (HR2.out _).mono ?_
    rintro _ w4 ⟨Ar, cr, rfl, o4, b4⟩
    try dsimp only at o4
    have HLr := Go.Lib.hid (Ls.of o4.rd o4.le (by omega))
    clear o4
    have HLx := Go.Lib.hid (HLx.out.below b4)
    have HLy := Go.Lib.hid (HLy.out.below b4)
    have HW := Go.Lib.hid (HW.out.trans (b4.mono HW.out.size))
    clear b4
    have hq0 : (z != z) = false := by simp
    have hq1 : (u != u) = false := by simp
    have HE := Go.Lib.hid (likeInts_same _ _ _ cy cr _ _ _ _ _ _ HLy.out.rd HLr.out.rd (by omega))
    go_wp2_with fail
    refine HE.out.mono ?_
    rintro _ w5 ⟨rfl, x5, e5⟩
    have b5 := below_of_drewN e5
    clear e5 HE
    have HLx := Go.Lib.hid (HLx.out.below b5)
    have HLy := Go.Lib.hid (HLy.out.below b5)
    have HLr := Go.Lib.hid (HLr.out.below b5)
    have HW := Go.Lib.hid (HW.out.trans (b5.mono HW.out.size))
    clear b5
    by_cases hu : u = 0
    case pos =>
      subst hu
      have hb := HRB.out rfl
      have HI2 := Go.Lib.hid (fun w0 L0 => HIT.out Ay cy w0 L0)
      rw [hb] at HI2
      clear hb
      go_wp2_with fail
      refine (HI2.out _ HLy.out).mono ?_
      rintro _ w6 ⟨rfl, b6⟩
      have HLx := Go.Lib.hid (HLx.out.below b6)
      have HLy := Go.Lib.hid (HLy.out.below b6)
      have HLr := Go.Lib.hid (HLr.out.below b6)
      have HW := Go.Lib.hid (HW.out.trans (b6.mono HW.out.size))
      clear b6
      by_cases hz : z = 0
      case neg =>
        have hzb : (z != 0) = true := by simpa using hz
        go_wp2_with fail
        go_ret
        exact ⟨rfl, HW.out⟩
      case pos =>
        subst hz
        have hb := HBK.out rfl
        rw [hb] at HIR
        clear hb
        go_wp2_with fail
        refine (HIR.out _).mono ?_
        rintro _ w7 ⟨Ak, ck, rfl, o7, b7⟩
        try dsimp only at o7
        have HLk := Go.Lib.hid (Ls.of o7.rd o7.le (by omega))
        clear o7
        have HLx := Go.Lib.hid (HLx.out.below b7)
        have HLy := Go.Lib.hid (HLy.out.below b7)
        have HLr := Go.Lib.hid (HLr.out.below b7)
        have HW := Go.Lib.hid (HW.out.trans (b7.mono HW.out.size))
        clear b7
        have HE := Go.Lib.hid (likeInts_same _ _ _ ck c _ _ _ _ _ _ HLk.out.rd HLx.out.rd (by omega))
        go_wp2_with fail
        refine HE.out.mono ?_
        rintro _ w8 ⟨rfl, x8, e8⟩
        have b8 := below_of_drewN e8
        clear e8 HE
        have HLx := Go.Lib.hid (HLx.out.below b8)
        have HLy := Go.Lib.hid (HLy.out.below b8)
        have HLr := Go.Lib.hid (HLr.out.below b8)
        have HLk := Go.Lib.hid (HLk.out.below b8)
        have HW := Go.Lib.hid (HW.out.trans (b8.mono HW.out.size))
        clear b8
        go_wp2_with fail
        go_ret
        exact ⟨rfl, HW.out⟩
    case neg =>
      have hub : (u == 0) = false := by simpa using hu
      clear hu
      by_cases hz : z = 0
      case neg =>
        have hzb : (z != 0) = true := by simpa using hz
        go_wp2_with fail
        go_ret
        exact ⟨rfl, HW.out⟩
      case pos =>
        subst hz
        have hb := HBK.out rfl
        rw [hb] at HIR
        clear hb
        go_wp2_with fail
        refine (HIR.out _).mono ?_
        rintro _ w6 ⟨Ak, ck, rfl, o6, b6⟩
        try dsimp only at o6
        have HLk := Go.Lib.hid (Ls.of o6.rd o6.le (by omega))
        clear o6
        have HLx := Go.Lib.hid (HLx.out.below b6)
        have HLy := Go.Lib.hid (HLy.out.below b6)
        have HLr := Go.Lib.hid (HLr.out.below b6)
        have HW := Go.Lib.hid (HW.out.trans (b6.mono HW.out.size))
        clear b6
        have HE := Go.Lib.hid (likeInts_same _ _ _ ck c _ _ _ _ _ _ HLk.out.rd HLx.out.rd (by omega))
        go_wp2_with fail
        refine HE.out.mono ?_
        rintro _ w7 ⟨rfl, x7, e7⟩
        have b7 := below_of_drewN e7
        clear e7 HE
        have HLx := Go.Lib.hid (HLx.out.below b7)
        have HLy := Go.Lib.hid (HLy.out.below b7)
        have HLr := Go.Lib.hid (HLr.out.below b7)
        have HLk := Go.Lib.hid (HLk.out.below b7)
        have HW := Go.Lib.hid (HW.out.trans (b7.mono HW.out.size))
        clear b7
        go_wp2_with fail
        go_ret
        exact ⟨rfl, HW.out⟩

set_option maxRecDepth 100000 in
theorem lifted (os : Os) (started : os.Started) (H : Type) (enc : TypeId × Value → H) :
    ReturnsInHanded {} Try.checked os 5 .any (Rows.fnMoveTextsSpec.pre6 enc Try.prog Try.f5 Rows.fnMoveTextsRow.domain false) (Rows.fnMoveTextsSpec.post enc Try.prog Try.f5 false true false false) := by
  refine returnsInHanded_of_change_sized (C := Try.checked) own started (by kernel_rfl) Try.func5
    (ChangeSpec.witness6 (enc := enc) (C := Try.checked) false ⟨#[], #[.slice none 0 0], []⟩ 8 (by kernel_rfl) (by kernel_rfl) (by kernel_rfl) (by kernel_rfl)) ?_
  intro W base args ds gs before hval0 hW hcnd hsz0 _
  have hsz : (DataW.weightsEach Try.prog (Try.f5.params.toList ++ Rows.fnMoveTextsSpec.plain.varTypes Try.prog) (ds ++ gs)).all (· ≤ reachBytes) = true := hsz0
  clear hsz0
  have hval : ∀ (j : Nat) t v, Try.f5.params[j]? = some t → args[j]? = some v → Value.okWide Try.prog W .any base t v := hval0
  clear hval0
  have hW' := hW
  obtain ⟨p, q, hA0, hV, rfl, hfz, hnd⟩ := hW
  have hA : DataW.TrodAll enc Try.prog W 0 (fun _ => true) true Try.f5.params.toList args.toList ds p := hA0
  rw [Try.params5] at hA hval hsz
  obtain ⟨v0, vs0, d0, ds0, p0, q0, hargs, rfl, rfl, h0, r0⟩ := trodAll_cons hA
  obtain ⟨rfl, rfl, rfl⟩ := trodAll_nil r0
  obtain rfl : args = #[v0] := by cases args; simp_all
  obtain ⟨rfl, rfl⟩ := trodVars_none hV
  obtain ⟨a0, len0, cap0, rfl⟩ := okWide_slice Try.underlying22 (hval 0 22 v0 rfl rfl)
  have k0 := h0
  have lt0 : ∀ x ∈ p0, x.block < W.heap.size := by obtain ⟨m, hm⟩ := k0; exact DataW.trod_lt m _ _ _ hm
  obtain ⟨⟨z0, rd0, sz0⟩, hlc0, hp0⟩ := open_list_bytes h0
  have reach0 : len0 * 1 ≤ 140737488351232 := by
    rcases hp0 with hp0 | ⟨E0, S0, rfl, hl0⟩
    · omega
    · have := sized_slice hsz (j := 0) (t := 22) (e := 5) rfl rfl Try.underlying22
      rw [show Try.prog.bytesOf 5 = 1 by kernel_rfl] at this
      simp only [reachBytes] at this
      omega
  clear hA0
  refine (walk a0 len0 cap0 z0 W rd0 reach0 sz0).mono fun e W' ⟨he, bel⟩ => ?_
  subst he
  exact ⟨_, rfl, _, _, _, [], _, [], hW', trodAll_mk1 (shut_bool Try.underlying4 _), (trodAll_cons_mk (Below.trod laidOut (by kernel_rfl) (of_decide_eq_true (by kernel_rfl)) k0 bel lt0) trodAll_mk0), rfl, bel.frame _, fun h => by cases h⟩

theorem over : Rows.fnMoveTextsRow.holds Try.pinned (OpenSpec.ofChange Rows.fnMoveTextsSpec) :=
  OpenClaim.holds_of_wide 5 Try.f5 rfl rfl rfl rfl rfl rfl rfl ⟨rfl, rfl, rfl, rfl, rfl⟩ rfl rfl rfl rfl rfl (by kernel_rfl) Try.func5 (by kernel_rfl)
    (of_decide_eq_true (by kernel_rfl)) (by unfold Func.isWrapper; first | (rw [if_pos (by decide +kernel)]; kernel_rfl) | (rw [if_neg (by decide +kernel)]; exact ⟨rfl, rfl⟩))
    (fun os started H enc _ => lifted os started H enc)

theorem proved : Rows.FnMoveTextsSaid := over
end Go.Proofs.Ythedanpldebjcaa.fnMoveTexts
