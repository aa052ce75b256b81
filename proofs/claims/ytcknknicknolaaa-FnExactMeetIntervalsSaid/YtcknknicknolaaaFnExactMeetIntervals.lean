/- FnExactMeetIntervals holds: at every two intervals, impl.MeetIntervals answers as spec.MeetIntervals. -/
import Derived.Test.YtcknknicknolaaaRows
import Derived.Test.YtcknknicknolaaaHeld2
import Derived.Test.YtcknknicknolaaaIv4
import Derived.Test.YtcknknicknolaaaIv5
import Derived.WalkKit
import Derived.ProofKit
import Derived.OpenShut
import Derived.ShutString
import Derived.SizedLaws
namespace Go.Proofs.Ytcknknicknolaaa.fnExactMeetIntervals
open Go.ChangeShapes Go.WideShapes Go.ChangeAt Go.RowKit
open Go.ChangeMaps (open_string shut_string)
set_option linter.unusedVariables false


set_option maxHeartbeats 8000000 in
theorem walk (a b c d : Int) (w : World) (_ha : (Lit.int .i64 a).wf = true) (_hb : (Lit.int .i64 b).wf = true) (_hc : (Lit.int .i64 c).wf = true) (_hd : (Lit.int .i64 d).wf = true) :
    Calls Try.prog 11 #[ivV a b, ivV c d] w fun e w' => e = .returned (.bool true) ∧ Below w.heap.size w w' := by
  have HS := Go.Lib.hid (specMeet a b c d)
  have HI := Go.Lib.hid (implMeet a b c d)
  generalize meetIv a b c d = r at HS HI
  obtain ⟨x, y, z⟩ := r
  clear _ha _hb _hc _hd
  go_enter Try.func11, Try.ntmps11
  go_upto_region 1 with fail
  have h00 : ((w.alloc (.cells #[.int .i64 a, .int .i64 b] 42)).alloc (.cells #[.int .i64 c, .int .i64 d] 42)).cell? ⟨w.heap.size, 0, none⟩ = some (.int .i64 a) := by simp [go_sem]
  have h01 : ((w.alloc (.cells #[.int .i64 a, .int .i64 b] 42)).alloc (.cells #[.int .i64 c, .int .i64 d] 42)).cell? ⟨w.heap.size, 1, none⟩ = some (.int .i64 b) := by simp [go_sem]
  have h10 : ((w.alloc (.cells #[.int .i64 a, .int .i64 b] 42)).alloc (.cells #[.int .i64 c, .int .i64 d] 42)).cell? ⟨w.heap.size + 1, 0, none⟩ = some (.int .i64 c) := by simp [go_sem]
  have h11 : ((w.alloc (.cells #[.int .i64 a, .int .i64 b] 42)).alloc (.cells #[.int .i64 c, .int .i64 d] 42)).cell? ⟨w.heap.size + 1, 1, none⟩ = some (.int .i64 d) := by simp [go_sem]
  have B0 : Below w.heap.size w ((w.alloc (.cells #[.int .i64 a, .int .i64 b] 42)).alloc (.cells #[.int .i64 c, .int .i64 d] 42)) := by go_grown
  have z0 : w.heap.size + 1 < ((w.alloc (.cells #[.int .i64 a, .int .i64 b] 42)).alloc (.cells #[.int .i64 c, .int .i64 d] 42)).heap.size := by simp
  generalize (w.alloc (.cells #[.int .i64 a, .int .i64 b] 42)).alloc (.cells #[.int .i64 c, .int .i64 d] 42) = w0 at h00 h01 h10 h11 B0 z0 ⊢
  have B0h := Go.Lib.hid B0
  clear B0
  go_cut [5, 6] (fun s5 s6 wx => PtrTo x y s5 wx ∧ s6 = .int .i64 z ∧ wx.cell? ⟨w.heap.size, 0, none⟩ = some (.int .i64 a) ∧ wx.cell? ⟨w.heap.size, 1, none⟩ = some (.int .i64 b) ∧ wx.cell? ⟨w.heap.size + 1, 0, none⟩ = some (.int .i64 c) ∧ wx.cell? ⟨w.heap.size + 1, 1, none⟩ = some (.int .i64 d) ∧ w.heap.size + 1 < wx.heap.size ∧ Below w0.heap.size w0 wx)
  case first =>
    go_region_held3 (fun w' => w'.cell? ⟨w.heap.size, 0, none⟩ = some (.int .i64 a) ∧ w'.cell? ⟨w.heap.size, 1, none⟩ = some (.int .i64 b) ∧ w'.cell? ⟨w.heap.size + 1, 0, none⟩ = some (.int .i64 c) ∧ w'.cell? ⟨w.heap.size + 1, 1, none⟩ = some (.int .i64 d) ∧ w.heap.size + 1 < w'.heap.size ∧ Below w0.heap.size w0 w')
      (first | exact ⟨h00, h01, h10, h11, z0, Below.refl _ _⟩ | exact ⟨h00, h01, h10, h11, z0, (Below.refl _ _).drew⟩ | exact keep4 (by assumption) (by assumption) | exact keep4 (by assumption) ⟨by assumption, by assumption, by assumption, by assumption, by assumption, Below.refl _ _⟩ | exact set4 (by assumption) (by assumption) (Nat.le_refl _) | exact set4h (by assumption) (by assumption) | exact keep4h ((Below.refl _ _).alloc (Nat.le_refl _) _) (by assumption) | exact keep4 ((Below.refl _ _).alloc (Nat.le_refl _) _) ⟨h00, h01, h10, h11, z0, Below.refl _ _⟩ | exact keep4 ((Below.refl _ _).alloc (Nat.le_refl _) _) ⟨h00, h01, h10, h11, z0, (Below.refl _ _).drew⟩ | go_keep)
      (first | (go_at_call 39; refine (toIv _ _ _).mono ?_; rintro e w1 ⟨rfl, b1⟩; obtain ⟨hcl, hfl⟩ := bcell2 b1; have hsz := b1.size; (try simp only [World.size_alloc, World.size_drew] at hsz); (try have hq0 : w0.heap.size < w1.heap.size := by omega); have hlt := fun x (h : x < _) => Nat.lt_of_lt_of_le h b1.size; (first | have g1 := Go.Lib.hid (keep4 (u := w0) b1 ⟨h00, h01, h10, h11, z0, Below.refl _ _⟩) | have g1 := Go.Lib.hid (keep4 (u := w0) b1 ⟨h00, h01, h10, h11, z0, (Below.refl _ _).drew⟩) | have g1 := Go.Lib.hid (keep4 (u := w0) b1 (by assumption)))) | (go_at_call 34; refine (HS.out _).mono ?_; rintro e w1 ⟨rfl, b1⟩; obtain ⟨hcl, hfl⟩ := bcell2 b1; have hsz := b1.size; (try simp only [World.size_alloc, World.size_drew] at hsz); (try have hq0 : w0.heap.size < w1.heap.size := by omega); have hlt := fun x (h : x < _) => Nat.lt_of_lt_of_le h b1.size; (first | have g1 := Go.Lib.hid (keep4 (u := w0) b1 ⟨h00, h01, h10, h11, z0, Below.refl _ _⟩) | have g1 := Go.Lib.hid (keep4 (u := w0) b1 ⟨h00, h01, h10, h11, z0, (Below.refl _ _).drew⟩) | have g1 := Go.Lib.hid (keep4 (u := w0) b1 (by assumption)))))
    all_goals (go_wp2_with fail; go_meet)
    all_goals first | exact ⟨PtrTo.new, rfl, by assumption⟩ | exact ⟨PtrTo.set ⟨.int .i64 0, by simp [go_sem, *]⟩ ⟨.int .i64 0, by simp [go_sem, *]⟩ (by omega), rfl, by assumption⟩
  case rest =>
    obtain ⟨p5, rfl, k00, k01, k10, k11, y0, bw⟩ := hcut
    have P5 := Go.Lib.hid p5
    have BW := Go.Lib.hid (up B0h.out bw)
    clear p5 bw h00 h01 h10 h11 z0 B0h
    go_upto_region 2 with fail
    go_cut [7, 8] (fun s7 s8 wx => PtrTo x y s7 wx ∧ s8 = .int .i64 z ∧ wx.cell? ⟨w.heap.size, 0, none⟩ = some (.int .i64 a) ∧ wx.cell? ⟨w.heap.size, 1, none⟩ = some (.int .i64 b) ∧ wx.cell? ⟨w.heap.size + 1, 0, none⟩ = some (.int .i64 c) ∧ wx.cell? ⟨w.heap.size + 1, 1, none⟩ = some (.int .i64 d) ∧ w.heap.size + 1 < wx.heap.size ∧ Below wc.heap.size wc wx)
    case first =>
      go_region_held3 (fun w' => w'.cell? ⟨w.heap.size, 0, none⟩ = some (.int .i64 a) ∧ w'.cell? ⟨w.heap.size, 1, none⟩ = some (.int .i64 b) ∧ w'.cell? ⟨w.heap.size + 1, 0, none⟩ = some (.int .i64 c) ∧ w'.cell? ⟨w.heap.size + 1, 1, none⟩ = some (.int .i64 d) ∧ w.heap.size + 1 < w'.heap.size ∧ Below wc.heap.size wc w')
        (first | exact ⟨k00, k01, k10, k11, y0, Below.refl _ _⟩ | exact ⟨k00, k01, k10, k11, y0, (Below.refl _ _).drew⟩ | exact keep4 (by assumption) (by assumption) | exact keep4 (by assumption) ⟨by assumption, by assumption, by assumption, by assumption, by assumption, Below.refl _ _⟩ | exact set4 (by assumption) (by assumption) (Nat.le_refl _) | exact set4h (by assumption) (by assumption) | exact keep4h ((Below.refl _ _).alloc (Nat.le_refl _) _) (by assumption) | exact keep4 ((Below.refl _ _).alloc (Nat.le_refl _) _) ⟨k00, k01, k10, k11, y0, Below.refl _ _⟩ | exact keep4 ((Below.refl _ _).alloc (Nat.le_refl _) _) ⟨k00, k01, k10, k11, y0, (Below.refl _ _).drew⟩ | go_keep)
        (first | (go_at_call 39; refine (toIv _ _ _).mono ?_; rintro e w1 ⟨rfl, b1⟩; obtain ⟨hcl, hfl⟩ := bcell2 b1; have hsz := b1.size; (try simp only [World.size_alloc, World.size_drew] at hsz); (try have hq0 : wc.heap.size < w1.heap.size := by omega); have hlt := fun x (h : x < _) => Nat.lt_of_lt_of_le h b1.size; (first | have g1 := Go.Lib.hid (keep4 (u := wc) b1 ⟨k00, k01, k10, k11, y0, Below.refl _ _⟩) | have g1 := Go.Lib.hid (keep4 (u := wc) b1 ⟨k00, k01, k10, k11, y0, (Below.refl _ _).drew⟩) | have g1 := Go.Lib.hid (keep4 (u := wc) b1 (by assumption)))) | (go_at_call 33; refine (HI.out _).mono ?_; rintro e w1 ⟨rfl, b1⟩; obtain ⟨hcl, hfl⟩ := bcell2 b1; have hsz := b1.size; (try simp only [World.size_alloc, World.size_drew] at hsz); (try have hq0 : wc.heap.size < w1.heap.size := by omega); have hlt := fun x (h : x < _) => Nat.lt_of_lt_of_le h b1.size; (first | have g1 := Go.Lib.hid (keep4 (u := wc) b1 ⟨k00, k01, k10, k11, y0, Below.refl _ _⟩) | have g1 := Go.Lib.hid (keep4 (u := wc) b1 ⟨k00, k01, k10, k11, y0, (Below.refl _ _).drew⟩) | have g1 := Go.Lib.hid (keep4 (u := wc) b1 (by assumption)))))
      all_goals (go_wp2_with fail; go_meet)
      all_goals first | exact ⟨PtrTo.new, rfl, by assumption⟩ | exact ⟨PtrTo.set ⟨.int .i64 0, by simp [go_sem, *]⟩ ⟨.int .i64 0, by simp [go_sem, *]⟩ (by omega), rfl, by assumption⟩
    case rest =>
      obtain ⟨p7, rfl, -, -, -, -, -, bx⟩ := hcut
      have p5 := P5.out.below bx
      have BX := Go.Lib.hid (up BW.out bx)
      clear bx P5 BW k00 k01 k10 k11 y0
      obtain ⟨q5, rfl, c50, c51, d5⟩ := p5
      obtain ⟨q7, rfl, c70, c71, d7⟩ := p7
      go_wp2_with fail
      refine (eqIv x y _).mono ?_
      rintro e w3 ⟨rfl, b3⟩
      have B3 := Go.Lib.hid (up BX.out b3)
      clear c50 c51 d5 c70 c71 d7
      go_wp2_with fail
      go_ret
      exact ⟨rfl, B3.out⟩

set_option maxRecDepth 100000 in
theorem lifted (os : Os) (started : os.Started) (H : Type) (enc : TypeId × Value → H) :
    ReturnsInHanded {} Try.checked os 11 .any (Rows.fnExactMeetIntervalsSpec.pre6 enc Try.prog Try.f11 Rows.fnExactMeetIntervalsRow.domain false) (Rows.fnExactMeetIntervalsSpec.post enc Try.prog Try.f11 false true false false) := by
  refine returnsInHanded_of_change_sized (C := Try.checked) own started (by kernel_rfl) Try.func11
    (ChangeSpec.witness6 (enc := enc) (C := Try.checked) false ⟨#[], #[.agg #[.int .i64 0, .int .i64 0], .agg #[.int .i64 0, .int .i64 0]], []⟩ 8 (by kernel_rfl) (by kernel_rfl) (by kernel_rfl) (by kernel_rfl)) ?_
  intro W base args ds gs before hval0 hW hcnd hsz0 _
  have hsz : (DataW.weightsEach Try.prog (Try.f11.params.toList ++ Rows.fnExactMeetIntervalsSpec.plain.varTypes Try.prog) (ds ++ gs)).all (· ≤ reachBytes) = true := hsz0
  clear hsz0
  have hval : ∀ (j : Nat) t v, Try.f11.params[j]? = some t → args[j]? = some v → Value.okWide Try.prog W .any base t v := hval0
  clear hval0
  have hW' := hW
  obtain ⟨p, q, hA0, hV, rfl, hfz, hnd⟩ := hW
  have hA : DataW.TrodAll enc Try.prog W 0 (fun _ => true) true Try.f11.params.toList args.toList ds p := hA0
  rw [Try.params11] at hA hval hsz
  obtain ⟨v0, vs0, d0, ds0, p0, q0, hargs, rfl, rfl, h0, r0⟩ := trodAll_cons hA
  obtain ⟨v1, vs1, d1, ds1, p1, q1, rfl, rfl, rfl, h1, r1⟩ := trodAll_cons r0
  obtain ⟨rfl, rfl, rfl⟩ := trodAll_nil r1
  obtain rfl : args = #[v0, v1] := by cases args; simp_all
  obtain ⟨rfl, rfl⟩ := trodVars_none hV
  obtain ⟨a0, b0, rfl, rfl, rfl, wa0, wb0⟩ := open_iv (hval 0 42 v0 rfl rfl) h0
  obtain ⟨a1, b1, rfl, rfl, rfl, wa1, wb1⟩ := open_iv (hval 1 42 v1 rfl rfl) h1
  clear hA0
  refine (walk a0 b0 a1 b1 W wa0 wb0 wa1 wb1).mono fun e W' ⟨he, bel⟩ => ?_
  subst he
  exact ⟨_, rfl, _, _, _, [], _, [], hW', trodAll_mk1 (shut_bool Try.underlying4 _), (trodAll_cons_mk (shut_iv wa0 wb0) (trodAll_cons_mk (shut_iv wa1 wb1) trodAll_mk0)), rfl, bel.frame _, fun h => by cases h⟩

theorem over : Rows.fnExactMeetIntervalsRow.holds Try.pinned (OpenSpec.ofChange Rows.fnExactMeetIntervalsSpec) :=
  OpenClaim.holds_of_wide 11 Try.f11 rfl rfl rfl rfl rfl rfl rfl ⟨rfl, rfl, rfl, rfl, rfl⟩ rfl rfl rfl rfl rfl (by kernel_rfl) Try.func11 (by kernel_rfl)
    (of_decide_eq_true (by kernel_rfl)) (by unfold Func.isWrapper; first | (rw [if_pos (by decide +kernel)]; kernel_rfl) | (rw [if_neg (by decide +kernel)]; exact ⟨rfl, rfl⟩))
    (fun os started H enc _ => lifted os started H enc)

theorem proved : Rows.FnExactMeetIntervalsSaid := over
end Go.Proofs.Ytcknknicknolaaa.fnExactMeetIntervals
