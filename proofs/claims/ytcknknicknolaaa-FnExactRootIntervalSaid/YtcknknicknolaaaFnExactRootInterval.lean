/- FnExactRootInterval holds: at every interval, impl.RootInterval answers as spec.RootInterval. -/
import Derived.Test.YtcknknicknolaaaRows
import Derived.Test.YtcknknicknolaaaHeld1
import Derived.Test.YtcknknicknolaaaRoot
import Derived.WalkKit
import Derived.ProofKit
import Derived.OpenShut
import Derived.ShutString
import Derived.SizedLaws
namespace Go.Proofs.Ytcknknicknolaaa.fnExactRootInterval
open Go.ChangeShapes Go.WideShapes Go.ChangeAt Go.RowKit
open Go.ChangeMaps (open_string shut_string)
set_option linter.unusedVariables false

set_option maxHeartbeats 1000000 in
theorem walk (a b : Int) (w : World) (_ha : (Lit.int .i64 a).wf = true) (_hb : (Lit.int .i64 b).wf = true) :
    Calls Try.prog 10 #[ivV a b] w fun e w' => e = .returned (.bool true) ∧ Below w.heap.size w w' := by
  have HS := Go.Lib.hid (specRootInterval a b)
  have HI := Go.Lib.hid (implRoot a b)
  generalize rootIv a b = r at HS HI
  obtain ⟨x, y, z⟩ := r
  clear _ha _hb
  go_enter Try.func10, Try.ntmps10
  go_upto_region 1 with fail
  have h00 : (w.alloc (.cells #[.int .i64 a, .int .i64 b] 42)).cell? ⟨w.heap.size, 0, none⟩ = some (.int .i64 a) := by simp [go_sem]
  have h01 : (w.alloc (.cells #[.int .i64 a, .int .i64 b] 42)).cell? ⟨w.heap.size, 1, none⟩ = some (.int .i64 b) := by simp [go_sem]
  have B0 : Below w.heap.size w (w.alloc (.cells #[.int .i64 a, .int .i64 b] 42)) := by go_grown
  have z0 : w.heap.size < (w.alloc (.cells #[.int .i64 a, .int .i64 b] 42)).heap.size := by simp
  generalize w.alloc (.cells #[.int .i64 a, .int .i64 b] 42) = w0 at h00 h01 B0 z0 ⊢
  have B0h := Go.Lib.hid B0
  clear B0
  go_cut [3, 4] (fun s5 s6 wx => PtrTo x y s5 wx ∧ s6 = .int .i64 z ∧ wx.cell? ⟨w.heap.size, 0, none⟩ = some (.int .i64 a) ∧ wx.cell? ⟨w.heap.size, 1, none⟩ = some (.int .i64 b) ∧ w.heap.size < wx.heap.size ∧ Below w0.heap.size w0 wx)
  case first =>
    go_wp2_with fail
    refine (toIv a b _).mono ?_
    rintro e w1 ⟨rfl, b1⟩
    go_wp2_with fail
    refine (HS.out _).mono ?_
    rintro e w2 ⟨rfl, b2⟩
    have K := Go.Lib.hid (keep2 (u := w0) (up b1 b2) ⟨h00, h01, z0, Below.refl _ _⟩)
    clear b1 b2
    go_wp2_with fail
    go_meet
    exact ⟨PtrTo.new, rfl, keep2 ((Below.refl _ _).alloc (Nat.le_refl _) _) K.out⟩
  case rest =>
    obtain ⟨p5, rfl, k00, k01, y0, bw⟩ := hcut
    have P5 := Go.Lib.hid p5
    have BW := Go.Lib.hid (up B0h.out bw)
    clear p5 bw h00 h01 z0 B0h
    go_upto_region 2 with fail
    go_cut [5, 6] (fun s7 s8 wx => PtrTo x y s7 wx ∧ s8 = .int .i64 z ∧ wx.cell? ⟨w.heap.size, 0, none⟩ = some (.int .i64 a) ∧ wx.cell? ⟨w.heap.size, 1, none⟩ = some (.int .i64 b) ∧ w.heap.size < wx.heap.size ∧ Below wc.heap.size wc wx)
    case first =>
      go_wp2_with fail
      refine (toIv a b _).mono ?_
      rintro e w1 ⟨rfl, b1⟩
      go_wp2_with fail
      refine (HI.out _).mono ?_
      rintro e w2 ⟨rfl, b2⟩
      have K := Go.Lib.hid (keep2 (u := wc) (up b1 b2) ⟨k00, k01, y0, Below.refl _ _⟩)
      clear b1 b2
      go_wp2_with fail
      go_meet
      exact ⟨PtrTo.new, rfl, keep2 ((Below.refl _ _).alloc (Nat.le_refl _) _) K.out⟩
    case rest =>
      obtain ⟨p7, rfl, -, -, -, bx⟩ := hcut
      have p5 := P5.out.below bx
      have BX := Go.Lib.hid (up BW.out bx)
      clear bx P5 BW k00 k01 y0
      obtain ⟨q5, rfl, c50, c51, d5⟩ := p5
      obtain ⟨q7, rfl, c70, c71, d7⟩ := p7
      go_wp2_with fail
      refine (eqIv x y _).mono ?_
      rintro e w3 ⟨rfl, b3⟩
      have B3 := Go.Lib.hid (up BX.out b3)
      clear c50 c51 d5 c70 c71 d7
      go_wp2_with fail
      go_ret
      exact ⟨rfl, B3.out⟩

set_option maxRecDepth 100000 in
theorem lifted (os : Os) (started : os.Started) (H : Type) (enc : TypeId × Value → H) :
    ReturnsInHanded {} Try.checked os 10 .any (Rows.fnExactRootIntervalSpec.pre6 enc Try.prog Try.f10 Rows.fnExactRootIntervalRow.domain false) (Rows.fnExactRootIntervalSpec.post enc Try.prog Try.f10 false true false false) := by
  refine returnsInHanded_of_change_sized (C := Try.checked) own started (by kernel_rfl) Try.func10
    (ChangeSpec.witness6 (enc := enc) (C := Try.checked) false ⟨#[], #[.agg #[.int .i64 0, .int .i64 0]], []⟩ 8 (by kernel_rfl) (by kernel_rfl) (by kernel_rfl) (by kernel_rfl)) ?_
  intro W base args ds gs before hval0 hW hcnd hsz0 _
  have hsz : (DataW.weightsEach Try.prog (Try.f10.params.toList ++ Rows.fnExactRootIntervalSpec.plain.varTypes Try.prog) (ds ++ gs)).all (· ≤ reachBytes) = true := hsz0
  clear hsz0
  have hval : ∀ (j : Nat) t v, Try.f10.params[j]? = some t → args[j]? = some v → Value.okWide Try.prog W .any base t v := hval0
  clear hval0
  have hW' := hW
  obtain ⟨p, q, hA0, hV, rfl, hfz, hnd⟩ := hW
  have hA : DataW.TrodAll enc Try.prog W 0 (fun _ => true) true Try.f10.params.toList args.toList ds p := hA0
  rw [Try.params10] at hA hval hsz
  obtain ⟨v0, vs0, d0, ds0, p0, q0, hargs, rfl, rfl, h0, r0⟩ := trodAll_cons hA
  obtain ⟨rfl, rfl, rfl⟩ := trodAll_nil r0
  obtain rfl : args = #[v0] := by cases args; simp_all
  obtain ⟨rfl, rfl⟩ := trodVars_none hV
  obtain ⟨a0, b0, rfl, rfl, rfl, wa0, wb0⟩ := open_iv (hval 0 42 v0 rfl rfl) h0
  clear hA0
  refine (walk a0 b0 W wa0 wb0).mono fun e W' ⟨he, bel⟩ => ?_
  subst he
  exact ⟨_, rfl, _, _, _, [], _, [], hW', trodAll_mk1 (shut_bool Try.underlying4 _), (trodAll_cons_mk (shut_iv wa0 wb0) trodAll_mk0), rfl, bel.frame _, fun h => by cases h⟩

theorem over : Rows.fnExactRootIntervalRow.holds Try.pinned (OpenSpec.ofChange Rows.fnExactRootIntervalSpec) :=
  OpenClaim.holds_of_wide 10 Try.f10 rfl rfl rfl rfl rfl rfl rfl ⟨rfl, rfl, rfl, rfl, rfl⟩ rfl rfl rfl rfl rfl (by kernel_rfl) Try.func10 (by kernel_rfl)
    (of_decide_eq_true (by kernel_rfl)) (by unfold Func.isWrapper; first | (rw [if_pos (by decide +kernel)]; kernel_rfl) | (rw [if_neg (by decide +kernel)]; exact ⟨rfl, rfl⟩))
    (fun os started H enc _ => lifted os started H enc)

theorem proved : Rows.FnExactRootIntervalSaid := over
end Go.Proofs.Ytcknknicknolaaa.fnExactRootInterval
