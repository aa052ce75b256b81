/- Steps that are 0 may be those of equal gears, and the range is that of the first and the last gear. -/
import Derived.Test.YtifblmcocikopaaRows
import Derived.Test.YtifblmcocikopaaGearImpl
import Derived.Test.YtifblmcocikopaaGearL
import Derived.Test.YtifblmcocikopaaDrawTr4
import Derived.Test.YtifblmcocikopaaBig
import Derived.Test.YtifblmcocikopaaOpenB
import Derived.Test.YtifblmcocikopaaLikesI
import Derived.Test.YtifblmcocikopaaInts
import Derived.Test.YtifblmcocikopaaEqZ
import Derived.Test.YtifblmcocikopaaGrid2
import Derived.WalkKit
import Derived.ProofKit
import Derived.OpenShut
import Derived.ShutString
import Derived.SizedLaws
namespace Go.Proofs.Ytifblmcocikopaa.fnGearSteps
open Go.ChangeShapes Go.WideShapes Go.ChangeAt Go.RowKit
open Go.ChangeMaps (open_string shut_string)
set_option linter.unusedVariables false

set_option linter.unusedSimpArgs false
set_option maxRecDepth 100000 in
set_option maxHeartbeats 16000000 in
theorem walk (A : Option Addr) (n cap : Nat) (bs : List Int) (w : World) (h : Rd w 0 w.heap.size A n (byts bs)) (hn : n * 1 ≤ 140737488351232) (hs : ∀ z ∈ bs, 0 ≤ z ∧ z ≤ 255) :
    Calls Try.prog 4 #[.slice A n cap] w fun e w' => e = .returned (.bool true) ∧ Below w.heap.size w w' := by
  have HB := Go.Lib.hid (big_ A n cap w)
  by_cases hbig : (4096 : Int) < n
  · go_enter Try.func4, Try.ntmps4
    go_wp2_with fail
    refine HB.out.mono ?_
    rintro e w' ⟨rfl, rfl⟩
    go_wp2_with fail
    go_ret
    exact ⟨rfl, Below.refl _ _⟩
  · have hb2 := big_ A n cap w
    rw [decide_eq_false hbig] at hb2
    have HB2 := Go.Lib.hid hb2
    have HRD := Go.Lib.hid (fun w1 (hb : Below w.heap.size w w1) => (h.below hb (Nat.le_refl _)).mono (Nat.le_refl _) hb.size)
    have HW := Go.Lib.hid (Below.refl w.heap.size w)
    clear hb2 HB hbig h
    have hnn : n ≤ 140737488355328 := by omega
    clear hn
    go_enter Try.func4, Try.ntmps4
    go_wp2_with fail
    refine HB2.out.mono ?_
    rintro e w' ⟨rfl, rfl⟩
    have HD := Go.Lib.hid (drawEqualGears A n cap bs _ (HRD.out _ HW.out) hs hnn)
    go_wp2_with fail
    refine HD.out.mono ?_
    rintro _ w1 ⟨x, Ax, cx, Bx, dx, rfl, t1, b1⟩
    have HW := Go.Lib.hid (HW.out.trans (b1.mono HW.out.size))
    have HTa := Go.Lib.hid t1
    unfold trainV at *
    clear t1 b1 HD
    go_upto_region 4 with fail
    refine wp_gen (R := fun W => Box W w1.heap.size (trainC x Ax cx Bx dx) ∧ Below w1.heap.size w1 W) ⟨boxT_box x Ax cx Bx dx w1, boxT_below x Ax cx Bx dx w1⟩ ?_
    rintro w2 ⟨hx, b2⟩
    have HTa := Go.Lib.hid (HTa.out.below b2)
    have HW := Go.Lib.hid (HW.out.trans (b2.mono HW.out.size))
    have HXa := Go.Lib.hid hx
    clear hx b2
    obtain ⟨qa, hq⟩ : ∃ q, w1.heap.size = q := ⟨_, rfl⟩
    rw [hq] at HXa
    try simp only [hq]
    clear hq
    obtain ⟨es, ss, rg, q, hE, hS, hR, hq, hok, hel, hsl⟩ := gear_steps x
    have HE1 := Go.Lib.hid (fun w0 T0 => (implEqual x Ax cx Bx dx w0 T0).mono fun _ _ h => h.rd)
    have HE2 := Go.Lib.hid (fun w0 T0 => (specEqual x Ax cx Bx dx w0 T0).mono fun _ _ h => h.rd (by rw [hE]; show es.length ≤ _; omega))
    have HS1 := Go.Lib.hid (fun w0 T0 => implSteps x Ax cx Bx dx w0 T0)
    have HS2 := Go.Lib.hid (fun w0 T0 => specSteps x Ax cx Bx dx w0 T0)
    have HR1 := Go.Lib.hid (fun w0 T0 => implRange x Ax cx Bx dx w0 T0)
    have HR2 := Go.Lib.hid (fun w0 T0 => specRange x Ax cx Bx dx w0 T0)
    rw [hE] at HE1 HE2
    rw [hS] at HS1 HS2
    rw [hR] at HR1 HR2
    have HOK := Go.Lib.hid hok
    clear hE hS hR hok
    unfold trainV at *
    have ha0 : w2.cell? ⟨qa, 0, none⟩ = some (.slice Ax x.f.length cx) := HXa.out.at_ 0 _ rfl
    have ha1 : w2.cell? ⟨qa, 1, none⟩ = some (.slice Bx x.r.length dx) := HXa.out.at_ 1 _ rfl
    have ha2 : w2.cell? ⟨qa, 2, none⟩ = some (.int .i64 x.n) := HXa.out.at_ 2 _ rfl
    go_wp2_with fail
    refine (HE1.out _ HTa.out).mono ?_
    rintro _ w3 ⟨Ae, ce, rfl, z3, b3⟩
    clear ha0 ha1 ha2
    have HTa := Go.Lib.hid (HTa.out.below b3)
    have HXa := Go.Lib.hid (HXa.out.below b3)
    have HW := Go.Lib.hid (HW.out.trans (b3.mono HW.out.size))
    have HZe := Go.Lib.hid z3
    clear z3 b3
    have ha0 : w3.cell? ⟨qa, 0, none⟩ = some (.slice Ax x.f.length cx) := HXa.out.at_ 0 _ rfl
    have ha1 : w3.cell? ⟨qa, 1, none⟩ = some (.slice Bx x.r.length dx) := HXa.out.at_ 1 _ rfl
    have ha2 : w3.cell? ⟨qa, 2, none⟩ = some (.int .i64 x.n) := HXa.out.at_ 2 _ rfl
    go_wp2_with fail
    refine (HE2.out _ HTa.out).mono ?_
    rintro _ w4 ⟨Ak, ck, rfl, z4, b4⟩
    clear ha0 ha1 ha2
    have HTa := Go.Lib.hid (HTa.out.below b4)
    have HXa := Go.Lib.hid (HXa.out.below b4)
    have HZe := Go.Lib.hid (HZe.out.below b4)
    have HW := Go.Lib.hid (HW.out.trans (b4.mono HW.out.size))
    have HZk := Go.Lib.hid z4
    clear z4 b4
    have ha0 : w4.cell? ⟨qa, 0, none⟩ = some (.slice Ax x.f.length cx) := HXa.out.at_ 0 _ rfl
    have ha1 : w4.cell? ⟨qa, 1, none⟩ = some (.slice Bx x.r.length dx) := HXa.out.at_ 1 _ rfl
    have ha2 : w4.cell? ⟨qa, 2, none⟩ = some (.int .i64 x.n) := HXa.out.at_ 2 _ rfl
    go_wp2_with fail
    refine (HS1.out _ HTa.out).mono ?_
    rintro _ w5 ⟨As, cs, rfl, o5, b5⟩
    try dsimp only at o5
    clear ha0 ha1 ha2
    have HTa := Go.Lib.hid (HTa.out.below b5)
    have HXa := Go.Lib.hid (HXa.out.below b5)
    have HZe := Go.Lib.hid (HZe.out.below b5)
    have HZk := Go.Lib.hid (HZk.out.below b5)
    have HW := Go.Lib.hid (HW.out.trans (b5.mono HW.out.size))
    have HLs := Go.Lib.hid (lst0 o5 (by omega))
    clear o5 b5
    have ha0 : w5.cell? ⟨qa, 0, none⟩ = some (.slice Ax x.f.length cx) := HXa.out.at_ 0 _ rfl
    have ha1 : w5.cell? ⟨qa, 1, none⟩ = some (.slice Bx x.r.length dx) := HXa.out.at_ 1 _ rfl
    have ha2 : w5.cell? ⟨qa, 2, none⟩ = some (.int .i64 x.n) := HXa.out.at_ 2 _ rfl
    go_wp2_with fail
    refine (HS2.out _ HTa.out).mono ?_
    rintro _ w6 ⟨At, ct, rfl, o6, b6⟩
    try dsimp only at o6
    clear ha0 ha1 ha2
    have HTa := Go.Lib.hid (HTa.out.below b6)
    have HXa := Go.Lib.hid (HXa.out.below b6)
    have HZe := Go.Lib.hid (HZe.out.below b6)
    have HZk := Go.Lib.hid (HZk.out.below b6)
    have HLs := Go.Lib.hid (HLs.out.below b6)
    have HW := Go.Lib.hid (HW.out.trans (b6.mono HW.out.size))
    have HLt := Go.Lib.hid (lst0 o6 (by omega))
    clear o6 b6
    have ha0 : w6.cell? ⟨qa, 0, none⟩ = some (.slice Ax x.f.length cx) := HXa.out.at_ 0 _ rfl
    have ha1 : w6.cell? ⟨qa, 1, none⟩ = some (.slice Bx x.r.length dx) := HXa.out.at_ 1 _ rfl
    have ha2 : w6.cell? ⟨qa, 2, none⟩ = some (.int .i64 x.n) := HXa.out.at_ 2 _ rfl
    go_wp2_with fail
    refine (HR1.out _ HTa.out).mono ?_
    rintro _ w7 ⟨rfl, b7⟩
    clear ha0 ha1 ha2
    have HTa := Go.Lib.hid (HTa.out.below b7)
    have HXa := Go.Lib.hid (HXa.out.below b7)
    have HZe := Go.Lib.hid (HZe.out.below b7)
    have HZk := Go.Lib.hid (HZk.out.below b7)
    have HLs := Go.Lib.hid (HLs.out.below b7)
    have HLt := Go.Lib.hid (HLt.out.below b7)
    have HW := Go.Lib.hid (HW.out.trans (b7.mono HW.out.size))
    clear b7
    have ha0 : w7.cell? ⟨qa, 0, none⟩ = some (.slice Ax x.f.length cx) := HXa.out.at_ 0 _ rfl
    have ha1 : w7.cell? ⟨qa, 1, none⟩ = some (.slice Bx x.r.length dx) := HXa.out.at_ 1 _ rfl
    have ha2 : w7.cell? ⟨qa, 2, none⟩ = some (.int .i64 x.n) := HXa.out.at_ 2 _ rfl
    go_wp2_with fail
    refine (HR2.out _ HTa.out).mono ?_
    rintro _ w8 ⟨rfl, b8⟩
    clear ha0 ha1 ha2
    have HTa := Go.Lib.hid (HTa.out.below b8)
    have HXa := Go.Lib.hid (HXa.out.below b8)
    have HZe := Go.Lib.hid (HZe.out.below b8)
    have HZk := Go.Lib.hid (HZk.out.below b8)
    have HLs := Go.Lib.hid (HLs.out.below b8)
    have HLt := Go.Lib.hid (HLt.out.below b8)
    have HW := Go.Lib.hid (HW.out.trans (b8.mono HW.out.size))
    clear b8
    have hq1 : (q != q) = false := by simp
    have hq2 : (rg != rg) = false := by simp
    have ha0 : w8.cell? ⟨qa, 0, none⟩ = some (.slice Ax x.f.length cx) := HXa.out.at_ 0 _ rfl
    have ha1 : w8.cell? ⟨qa, 1, none⟩ = some (.slice Bx x.r.length dx) := HXa.out.at_ 1 _ rfl
    have ha2 : w8.cell? ⟨qa, 2, none⟩ = some (.int .i64 x.n) := HXa.out.at_ 2 _ rfl
    have HE := Go.Lib.hid (likeRowsZ Ae Ak es.length ce ck es _ rfl HZe.out HZk.out)
    go_wp2_with fail
    refine HE.out.mono ?_
    rintro _ w9 ⟨rfl, x9, e9⟩
    have b9 := below_of_drewN e9
    clear ha0 ha1 ha2
    have HTa := Go.Lib.hid (HTa.out.below b9)
    have HXa := Go.Lib.hid (HXa.out.below b9)
    have HZe := Go.Lib.hid (HZe.out.below b9)
    have HZk := Go.Lib.hid (HZk.out.below b9)
    have HLs := Go.Lib.hid (HLs.out.below b9)
    have HLt := Go.Lib.hid (HLt.out.below b9)
    have HW := Go.Lib.hid (HW.out.trans (b9.mono HW.out.size))
    clear b9 e9 HE
    have ha0 : w9.cell? ⟨qa, 0, none⟩ = some (.slice Ax x.f.length cx) := HXa.out.at_ 0 _ rfl
    have ha1 : w9.cell? ⟨qa, 1, none⟩ = some (.slice Bx x.r.length dx) := HXa.out.at_ 1 _ rfl
    have ha2 : w9.cell? ⟨qa, 2, none⟩ = some (.int .i64 x.n) := HXa.out.at_ 2 _ rfl
    have HE := Go.Lib.hid (likeInts_same _ _ _ cs ct _ _ _ _ _ _ HLs.out.rd HLt.out.rd (by omega))
    go_wp2_with fail
    refine HE.out.mono ?_
    rintro _ w10 ⟨rfl, x10, e10⟩
    have b10 := below_of_drewN e10
    clear ha0 ha1 ha2
    have HTa := Go.Lib.hid (HTa.out.below b10)
    have HXa := Go.Lib.hid (HXa.out.below b10)
    have HZe := Go.Lib.hid (HZe.out.below b10)
    have HZk := Go.Lib.hid (HZk.out.below b10)
    have HLs := Go.Lib.hid (HLs.out.below b10)
    have HLt := Go.Lib.hid (HLt.out.below b10)
    have HW := Go.Lib.hid (HW.out.trans (b10.mono HW.out.size))
    clear b10 e10 HE
    by_cases h0 : q = 0
    case neg =>
      have hqb : (q != 0) = true := by simpa using h0
      have ha0 : w10.cell? ⟨qa, 0, none⟩ = some (.slice Ax x.f.length cx) := HXa.out.at_ 0 _ rfl
      have ha1 : w10.cell? ⟨qa, 1, none⟩ = some (.slice Bx x.r.length dx) := HXa.out.at_ 1 _ rfl
      have ha2 : w10.cell? ⟨qa, 2, none⟩ = some (.int .i64 x.n) := HXa.out.at_ 2 _ rfl
      go_wp2_with fail
      go_ret
      exact ⟨rfl, HW.out⟩
    case pos =>
      subst h0
      obtain ⟨hfl, hrl, hone, hlen, hpos, hzer, hbig⟩ := HOK.out rfl
      have HPO := Go.Lib.hid hpos
      have HZS := Go.Lib.hid (fun k (hk : k < ss.length) => zerosOf_succ hk)
      have HZL := Go.Lib.hid (fun k => zerosOf_le (ss.take k))
      have HZ0 := Go.Lib.hid (show zerosOf (ss.take 0) = 0 by simp [zerosOf])
      have HZN := Go.Lib.hid (show zerosOf (ss.take ss.length) = zerosOf ss by rw [List.take_length])
      clear hpos
      have ha0 : w10.cell? ⟨qa, 0, none⟩ = some (.slice Ax x.f.length cx) := HXa.out.at_ 0 _ rfl
      have ha1 : w10.cell? ⟨qa, 1, none⟩ = some (.slice Bx x.r.length dx) := HXa.out.at_ 1 _ rfl
      have ha2 : w10.cell? ⟨qa, 2, none⟩ = some (.int .i64 x.n) := HXa.out.at_ 2 _ rfl
      go_wp2_with fail
      clear ha0 ha1 ha2
      go_loopw [16, 17] (fun t i wr => ∃ k : Nat, k ≤ ss.length ∧ i = .int .i64 k ∧ t = .int .i64 (zerosOf (ss.take k) : Nat) ∧ Eqw w10 wr) (fun _ i _ => ss.length - (intOf i).toNat)
      case atStart => exact ⟨0, Nat.zero_le _, rfl, by rw [HZ0.out]; rfl, Eqw.refl _⟩
      case round =>
        obtain ⟨k, hk, rfl, rfl, hw⟩ := hrel
        have HQ := Go.Lib.hid hw
        by_cases hlt : k < ss.length
        case pos =>
          obtain ⟨pb, po, hAp, -, hcc⟩ := (HLs.out.eqw hw).at_ hlt
          subst hAp
          have hcell := hcc k hlt
          have HSU := Go.Lib.hid (HZS.out k hlt)
          have hx := HPO.out k hlt
          have hzl := HZL.out k
          rw [List.length_take] at hzl
          have hzb : zerosOf (ss.take k) ≤ 36 := by omega
          generalize ss.getD k 0 = y at *
          generalize zerosOf (ss.take k) = t at *
          have hkl : (k : Int) < ss.length := by omega
          have hyn : ¬ y < 0 := by omega
          clear hw hcc
          by_cases hy : y = 0
          case pos =>
            rw [if_pos hy] at HSU
            have et : IntKind.i64.wrap ((t : Int) + 1) = ((t + 1 : Nat) : Int) := (IntWalk.i64_in _ (by omega)).trans (by omega)
            subst hy
            clear hyn hx
            go_wp2_with fail
            go_roundw
            case rel => exact ⟨k + 1, by omega, by go_num, by rw [HSU.out]; first | rfl | simp, HQ.out⟩
            case measure => simp [intOf]; omega
          case neg =>
            rw [if_neg hy, Nat.add_zero] at HSU
            have hyb : (y == 0) = false := by simpa using hy
            go_wp2_with fail
            go_roundw
            case rel => exact ⟨k + 1, by omega, by go_num, by rw [HSU.out]; first | rfl | simp, HQ.out⟩
            case measure => simp [intOf]; omega
        case neg =>
          obtain rfl : k = ss.length := by omega
          rw [HZN.out]
          have HXB := Go.Lib.hid (HXa.out.below hw.below)
          have HWB := Go.Lib.hid (HW.out.trans (hw.below.mono HW.out.size))
          clear hw
          have ha0 : wr.cell? ⟨qa, 0, none⟩ = some (.slice Ax x.f.length cx) := HXB.out.at_ 0 _ rfl
          have ha1 : wr.cell? ⟨qa, 1, none⟩ = some (.slice Bx x.r.length dx) := HXB.out.at_ 1 _ rfl
          have hzle : (es.length : Int) ≤ (zerosOf ss : Nat) := by omega
          have hprod : (x.f.length : Int) * x.r.length = ((x.f.length * x.r.length : Nat) : Int) := by simp
          have hp36 : x.f.length * x.r.length ≤ 36 := Nat.le_trans (Nat.mul_le_mul hfl hrl) (by decide)
          have e1 : IntKind.i64.wrap ((x.f.length : Int) * x.r.length) = (ss.length : Int) + 1 := by rw [hprod]; exact (IntWalk.i64_in _ (by omega)).trans (by omega)
          have e2 : IntKind.i64.wrap ((ss.length : Int) + 1 - 1) = (ss.length : Int) := (IntWalk.i64_in _ (by omega)).trans (by omega)
          generalize zerosOf ss = zn at *
          clear hprod hp36 hlen hone hfl hrl
          go_wp2_with fail
          go_ret
          exact ⟨rfl, HWB.out⟩

set_option maxRecDepth 100000 in
theorem lifted (os : Os) (started : os.Started) (H : Type) (enc : TypeId × Value → H) :
    ReturnsInHanded {} Try.checked os 4 .any (Rows.fnGearStepsSpec.pre6 enc Try.prog Try.f4 Rows.fnGearStepsRow.domain false) (Rows.fnGearStepsSpec.post enc Try.prog Try.f4 false true false false) := by
  refine returnsInHanded_of_change_sized (C := Try.checked) own started (by kernel_rfl) Try.func4
    (ChangeSpec.witness6 (enc := enc) (C := Try.checked) false ⟨#[], #[.slice none 0 0], []⟩ 8 (by kernel_rfl) (by kernel_rfl) (by kernel_rfl) (by kernel_rfl)) ?_
  intro W base args ds gs before hval0 hW hcnd hsz0 _
  have hsz : (DataW.weightsEach Try.prog (Try.f4.params.toList ++ Rows.fnGearStepsSpec.plain.varTypes Try.prog) (ds ++ gs)).all (· ≤ reachBytes) = true := hsz0
  clear hsz0
  have hval : ∀ (j : Nat) t v, Try.f4.params[j]? = some t → args[j]? = some v → Value.okWide Try.prog W .any base t v := hval0
  clear hval0
  have hW' := hW
  obtain ⟨p, q, hA0, hV, rfl, hfz, hnd⟩ := hW
  have hA : DataW.TrodAll enc Try.prog W 0 (fun _ => true) true Try.f4.params.toList args.toList ds p := hA0
  rw [Try.params4] at hA hval hsz
  obtain ⟨v0, vs0, d0, ds0, p0, q0, hargs, rfl, rfl, h0, r0⟩ := trodAll_cons hA
  obtain ⟨rfl, rfl, rfl⟩ := trodAll_nil r0
  obtain rfl : args = #[v0] := by cases args; simp_all
  obtain ⟨rfl, rfl⟩ := trodVars_none hV
  obtain ⟨a0, len0, cap0, rfl⟩ := okWide_slice Try.underlying22 (hval 0 22 v0 rfl rfl)
  have k0 := h0
  have lt0 : ∀ x ∈ p0, x.block < W.heap.size := by obtain ⟨m, hm⟩ := k0; exact DataW.trod_lt m _ _ _ hm
  obtain ⟨⟨z0, rd0, sz0⟩, hlc0, hp0⟩ := open_list_bytes h0
  have reach0 : len0 * 1 ≤ 140737488351232 := by
    rcases hp0 with hp0 | ⟨E0, S0, rfl, hl0⟩
    · omega
    · have := sized_slice hsz (j := 0) (t := 22) (e := 5) rfl rfl Try.underlying22
      rw [show Try.prog.bytesOf 5 = 1 by kernel_rfl] at this
      simp only [reachBytes] at this
      omega
  clear hA0
  refine (walk a0 len0 cap0 z0 W rd0 reach0 sz0).mono fun e W' ⟨he, bel⟩ => ?_
  subst he
  exact ⟨_, rfl, _, _, _, [], _, [], hW', trodAll_mk1 (shut_bool Try.underlying4 _), (trodAll_cons_mk (Below.trod laidOut (by kernel_rfl) (of_decide_eq_true (by kernel_rfl)) k0 bel lt0) trodAll_mk0), rfl, bel.frame _, fun h => by cases h⟩

theorem over : Rows.fnGearStepsRow.holds Try.pinned (OpenSpec.ofChange Rows.fnGearStepsSpec) :=
  OpenClaim.holds_of_wide 4 Try.f4 rfl rfl rfl rfl rfl rfl rfl ⟨rfl, rfl, rfl, rfl, rfl⟩ rfl rfl rfl rfl rfl (by kernel_rfl) Try.func4 (by kernel_rfl)
    (of_decide_eq_true (by kernel_rfl)) (by unfold Func.isWrapper; first | (rw [if_pos (by decide +kernel)]; kernel_rfl) | (rw [if_neg (by decide +kernel)]; exact ⟨rfl, rfl⟩))
    (fun os started H enc _ => lifted os started H enc)

theorem proved : Rows.FnGearStepsSaid := over
end Go.Proofs.Ytifblmcocikopaa.fnGearSteps
