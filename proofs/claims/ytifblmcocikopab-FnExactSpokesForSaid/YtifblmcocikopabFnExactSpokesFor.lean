/- FnExactSpokesFor holds: at every wheel and list impl.SpokesFor answers as spec.SpokesFor and writes nothing into its argument. -/
import Derived.Test.YtifblmcocikopabRows
import Derived.Test.YtifblmcocikopabSpokeImpl
import Derived.Test.YtifblmcocikopabInts
import Derived.Test.YtifblmcocikopabLawHub
import Derived.Test.YtifblmcocikopabLawHub2
import Derived.Test.YtifblmcocikopabBox
import Derived.Test.YtifblmcocikopabOpenI
import Derived.WalkKit
import Derived.ProofKit
import Derived.OpenShut
import Derived.ShutString
import Derived.SizedLaws
namespace Go.Proofs.Ytifblmcocikopab.fnExactSpokesFor
open Go.ChangeShapes Go.WideShapes Go.ChangeAt Go.RowKit
open Go.ChangeMaps (open_string shut_string)
set_option linter.unusedVariables false

set_option maxRecDepth 100000 in
set_option maxHeartbeats 8000000 in
theorem walk (a : Wh) (A : Option Addr) (n cap : Nat) (zs : List Int) (w : World) (_h : wheelW a) (h : Rd w 0 w.heap.size A n (ints zs)) (hn : n * 8 ≤ 140737488351232) :
    Calls Try.prog 5 #[wheelV a, .slice A n cap] w fun e w' => e = .returned (.bool true) ∧ Below w.heap.size w w' := by
  clear _h
  obtain rfl : zs.length = n := by have := h.len; rwa [ints_len] at this
  have HT := Go.Lib.hid (fun w0 => law_toWheel a w0)
  have HH := Go.Lib.hid h
  by_cases hbig : (1048576 : Int) < zs.length
  · go_enter Try.func5, Try.ntmps5
    go_wp2_with fail
    go_ret
    exact ⟨rfl, by go_grown⟩
  · have hn2 : zs.length ≤ 1048576 := by omega
    obtain ⟨x, y, z, hv⟩ : ∃ x y z : Int, tripI (forA a zs) = .tuple #[.int .i64 x, .int .i64 y, .int .i64 z] := ⟨_, _, _, rfl⟩
    have HV := Go.Lib.hid hv
    clear hv h
    go_enter Try.func5, Try.ntmps5
    go_wp2_with fail
    refine calls_gen (R := fun w' => Box w' w.heap.size [.int .i64 a.h.n, .int .i64 a.h.l, .int .i64 a.h.r, .int .i64 a.h.a, .int .i64 a.h.b, .int .i64 a.r.n, .int .i64 a.r.d, .int .i64 a.r.o, .int .i64 a.c] ∧ Below w.heap.size w w') ⟨Box.new rfl rfl, by go_grown⟩ ?_
    rintro W1 ⟨K1_0, B1⟩
    refine (HT.out _).mono ?_
    rintro _ W2 ⟨rfl, b2⟩
    have K2_0 := K1_0.below b2
    have B2 := upB B1 b2
    clear b2 K1_0 B1
    have k2_0_0 := K2_0.at_ 0 _ rfl
    have k2_0_1 := K2_0.at_ 1 _ rfl
    have k2_0_2 := K2_0.at_ 2 _ rfl
    have k2_0_3 := K2_0.at_ 3 _ rfl
    have k2_0_4 := K2_0.at_ 4 _ rfl
    have k2_0_5 := K2_0.at_ 5 _ rfl
    have k2_0_6 := K2_0.at_ 6 _ rfl
    have k2_0_7 := K2_0.at_ 7 _ rfl
    have k2_0_8 := K2_0.at_ 8 _ rfl
    have k2_0_f := K2_0.fr
    have k2_0_l := K2_0.lt
    go_wp2_with fail
    have R2 : Rd W2 0 W2.heap.size A zs.length (ints zs) := (HH.out.below B2 (Nat.le_refl _)).mono (Nat.le_refl _) B2.size
    refine (toInts A zs.length cap zs 0 W2 R2 (by omega)).mono ?_
    rintro _ W3 ⟨A1, c1, rfl, o1, b3⟩
    have K3_0 := K2_0.below b3
    clear k2_0_0 k2_0_1 k2_0_2 k2_0_3 k2_0_4 k2_0_5 k2_0_6 k2_0_7 k2_0_8 k2_0_f k2_0_l
    have B3 := upB B2 b3
    clear b3 K2_0 B2
    have k3_0_0 := K3_0.at_ 0 _ rfl
    have k3_0_1 := K3_0.at_ 1 _ rfl
    have k3_0_2 := K3_0.at_ 2 _ rfl
    have k3_0_3 := K3_0.at_ 3 _ rfl
    have k3_0_4 := K3_0.at_ 4 _ rfl
    have k3_0_5 := K3_0.at_ 5 _ rfl
    have k3_0_6 := K3_0.at_ 6 _ rfl
    have k3_0_7 := K3_0.at_ 7 _ rfl
    have k3_0_8 := K3_0.at_ 8 _ rfl
    have k3_0_f := K3_0.fr
    have k3_0_l := K3_0.lt
    go_wp2_with fail
    have HS := specSpokesFor a A1 zs.length c1 zs _ W3 o1.rd hn2
    rw [HV.out] at HS
    refine (HS).mono ?_
    rintro _ W4 ⟨rfl, b4⟩
    have K4_0 := K3_0.below b4
    clear k3_0_0 k3_0_1 k3_0_2 k3_0_3 k3_0_4 k3_0_5 k3_0_6 k3_0_7 k3_0_8 k3_0_f k3_0_l
    have B4 := upB B3 b4
    clear b4 K3_0 B3
    clear HS o1
    have k4_0_0 := K4_0.at_ 0 _ rfl
    have k4_0_1 := K4_0.at_ 1 _ rfl
    have k4_0_2 := K4_0.at_ 2 _ rfl
    have k4_0_3 := K4_0.at_ 3 _ rfl
    have k4_0_4 := K4_0.at_ 4 _ rfl
    have k4_0_5 := K4_0.at_ 5 _ rfl
    have k4_0_6 := K4_0.at_ 6 _ rfl
    have k4_0_7 := K4_0.at_ 7 _ rfl
    have k4_0_8 := K4_0.at_ 8 _ rfl
    have k4_0_f := K4_0.fr
    have k4_0_l := K4_0.lt
    go_wp2_with fail
    have R4 : Rd W4 0 W4.heap.size A zs.length (ints zs) := (HH.out.below B4 (Nat.le_refl _)).mono (Nat.le_refl _) B4.size
    refine (toInts A zs.length cap zs 0 W4 R4 (by omega)).mono ?_
    rintro _ W5 ⟨A3, c3, rfl, o3, b5⟩
    have K5_0 := K4_0.below b5
    clear k4_0_0 k4_0_1 k4_0_2 k4_0_3 k4_0_4 k4_0_5 k4_0_6 k4_0_7 k4_0_8 k4_0_f k4_0_l
    have B5 := upB B4 b5
    clear b5 K4_0 B4
    have k5_0_0 := K5_0.at_ 0 _ rfl
    have k5_0_1 := K5_0.at_ 1 _ rfl
    have k5_0_2 := K5_0.at_ 2 _ rfl
    have k5_0_3 := K5_0.at_ 3 _ rfl
    have k5_0_4 := K5_0.at_ 4 _ rfl
    have k5_0_5 := K5_0.at_ 5 _ rfl
    have k5_0_6 := K5_0.at_ 6 _ rfl
    have k5_0_7 := K5_0.at_ 7 _ rfl
    have k5_0_8 := K5_0.at_ 8 _ rfl
    have k5_0_f := K5_0.fr
    have k5_0_l := K5_0.lt
    go_wp2_with fail
    have o3 : Rd W5 0 W5.heap.size A3 zs.length (ints zs) := o3.rd.mono (Nat.zero_le _) (Nat.le_refl _)
    refine (HT.out _).mono ?_
    rintro _ W6 ⟨rfl, b6⟩
    have K6_0 := K5_0.below b6
    clear k5_0_0 k5_0_1 k5_0_2 k5_0_3 k5_0_4 k5_0_5 k5_0_6 k5_0_7 k5_0_8 k5_0_f k5_0_l
    have o3 : Rd W6 0 W6.heap.size A3 zs.length (ints zs) := (o3.below b6 (Nat.le_refl _)).mono (Nat.le_refl _) b6.size
    have B6 := upB B5 b6
    clear b6 K5_0 B5
    have k6_0_0 := K6_0.at_ 0 _ rfl
    have k6_0_1 := K6_0.at_ 1 _ rfl
    have k6_0_2 := K6_0.at_ 2 _ rfl
    have k6_0_3 := K6_0.at_ 3 _ rfl
    have k6_0_4 := K6_0.at_ 4 _ rfl
    have k6_0_5 := K6_0.at_ 5 _ rfl
    have k6_0_6 := K6_0.at_ 6 _ rfl
    have k6_0_7 := K6_0.at_ 7 _ rfl
    have k6_0_8 := K6_0.at_ 8 _ rfl
    have k6_0_f := K6_0.fr
    have k6_0_l := K6_0.lt
    go_wp2_with fail
    have HI := implSpokesFor a A3 zs.length c3 zs 0 W6 o3 hn2
    rw [HV.out] at HI
    refine (HI).mono ?_
    rintro _ W7 ⟨rfl, b7⟩
    have K7_0 := K6_0.below b7
    clear k6_0_0 k6_0_1 k6_0_2 k6_0_3 k6_0_4 k6_0_5 k6_0_6 k6_0_7 k6_0_8 k6_0_f k6_0_l
    have o3 : Rd W7 0 W7.heap.size A3 zs.length (ints zs) := (o3.below b7 (Nat.le_refl _)).mono (Nat.le_refl _) b7.size
    have B7 := upB B6 b7
    clear b7 K6_0 B6
    clear HI
    have k7_0_0 := K7_0.at_ 0 _ rfl
    have k7_0_1 := K7_0.at_ 1 _ rfl
    have k7_0_2 := K7_0.at_ 2 _ rfl
    have k7_0_3 := K7_0.at_ 3 _ rfl
    have k7_0_4 := K7_0.at_ 4 _ rfl
    have k7_0_5 := K7_0.at_ 5 _ rfl
    have k7_0_6 := K7_0.at_ 6 _ rfl
    have k7_0_7 := K7_0.at_ 7 _ rfl
    have k7_0_8 := K7_0.at_ 8 _ rfl
    have k7_0_f := K7_0.fr
    have k7_0_l := K7_0.lt
    go_wp2_with fail
    have R7 : Rd W7 0 W7.heap.size A zs.length (ints zs) := (HH.out.below B7 (Nat.le_refl _)).mono (Nat.le_refl _) B7.size
    refine (toInts A zs.length cap zs 0 W7 R7 (by omega)).mono ?_
    rintro _ W8 ⟨A5, c5, rfl, o5, b8⟩
    have K8_0 := K7_0.below b8
    clear k7_0_0 k7_0_1 k7_0_2 k7_0_3 k7_0_4 k7_0_5 k7_0_6 k7_0_7 k7_0_8 k7_0_f k7_0_l
    have o3 : Rd W8 0 W8.heap.size A3 zs.length (ints zs) := (o3.below b8 (Nat.le_refl _)).mono (Nat.le_refl _) b8.size
    have B8 := upB B7 b8
    clear b8 K7_0 B7
    have k8_0_0 := K8_0.at_ 0 _ rfl
    have k8_0_1 := K8_0.at_ 1 _ rfl
    have k8_0_2 := K8_0.at_ 2 _ rfl
    have k8_0_3 := K8_0.at_ 3 _ rfl
    have k8_0_4 := K8_0.at_ 4 _ rfl
    have k8_0_5 := K8_0.at_ 5 _ rfl
    have k8_0_6 := K8_0.at_ 6 _ rfl
    have k8_0_7 := K8_0.at_ 7 _ rfl
    have k8_0_8 := K8_0.at_ 8 _ rfl
    have k8_0_f := K8_0.fr
    have k8_0_l := K8_0.lt
    have HE := Go.Lib.hid (eqInts_same A3 A5 zs.length c3 c5 zs _ _ _ _ W8 o3 o5.rd (by omega))
    go_wp2_with fail
    refine HE.out.mono ?_
    rintro e w6 ⟨rfl, k, rfl⟩
    go_wp2_with fail
    go_ret
    exact ⟨rfl, below_drewN B8 k⟩

set_option maxRecDepth 100000 in
theorem lifted (os : Os) (started : os.Started) (H : Type) (enc : TypeId × Value → H) :
    ReturnsInHanded {} Try.checked os 5 .any (Rows.fnExactSpokesForSpec.pre6 enc Try.prog Try.f5 Rows.fnExactSpokesForRow.domain false) (Rows.fnExactSpokesForSpec.post enc Try.prog Try.f5 false true false false) := by
  refine returnsInHanded_of_change_sized (C := Try.checked) own started (by kernel_rfl) Try.func5
    (ChangeSpec.witness6 (enc := enc) (C := Try.checked) false ⟨#[], #[.agg #[.int .i64 0, .int .i64 0, .int .i64 0, .int .i64 0, .int .i64 0, .int .i64 0, .int .i64 0, .int .i64 0, .int .i64 0], .slice none 0 0], []⟩ 8 (by kernel_rfl) (by kernel_rfl) (by kernel_rfl) (by kernel_rfl)) ?_
  intro W base args ds gs before hval0 hW hcnd hsz0 _
  have hsz : (DataW.weightsEach Try.prog (Try.f5.params.toList ++ Rows.fnExactSpokesForSpec.plain.varTypes Try.prog) (ds ++ gs)).all (· ≤ reachBytes) = true := hsz0
  clear hsz0
  have hval : ∀ (j : Nat) t v, Try.f5.params[j]? = some t → args[j]? = some v → Value.okWide Try.prog W .any base t v := hval0
  clear hval0
  have hW' := hW
  obtain ⟨p, q, hA0, hV, rfl, hfz, hnd⟩ := hW
  have hA : DataW.TrodAll enc Try.prog W 0 (fun _ => true) true Try.f5.params.toList args.toList ds p := hA0
  rw [Try.params5] at hA hval hsz
  obtain ⟨v0, vs0, d0, ds0, p0, q0, hargs, rfl, rfl, h0, r0⟩ := trodAll_cons hA
  obtain ⟨v1, vs1, d1, ds1, p1, q1, rfl, rfl, rfl, h1, r1⟩ := trodAll_cons r0
  obtain ⟨rfl, rfl, rfl⟩ := trodAll_nil r1
  obtain rfl : args = #[v0, v1] := by cases args; simp_all
  obtain ⟨rfl, rfl⟩ := trodVars_none hV
  obtain ⟨a0, rfl, rfl, rfl, w0⟩ := open_wheel (hval 0 53 v0 rfl rfl) h0
  obtain ⟨a1, len1, cap1, rfl⟩ := okWide_slice Try.underlying24 (hval 1 24 v1 rfl rfl)
  have k1 := h1
  have lt1 : ∀ x ∈ p1, x.block < W.heap.size := by obtain ⟨m, hm⟩ := k1; exact DataW.trod_lt m _ _ _ hm
  obtain ⟨⟨z1, rd1⟩, hlc1, hp1⟩ := open_list_ints h1
  have reach1 : len1 * 8 ≤ 140737488351232 := by
    rcases hp1 with hp1 | ⟨E1, S1, rfl, hl1⟩
    · omega
    · have := sized_slice hsz (j := 1) (t := 24) (e := 2) rfl rfl Try.underlying24
      rw [show Try.prog.bytesOf 2 = 8 by kernel_rfl] at this
      simp only [reachBytes] at this
      omega
  clear hA0
  refine (walk a0 a1 len1 cap1 z1 W w0 rd1 reach1).mono fun e W' ⟨he, bel⟩ => ?_
  subst he
  exact ⟨_, rfl, _, _, _, [], _, [], hW', trodAll_mk1 (shut_bool Try.underlying4 _), (trodAll_cons_mk (shut_wheel w0) (trodAll_cons_mk (Below.trod laidOut (by kernel_rfl) (of_decide_eq_true (by kernel_rfl)) k1 bel lt1) trodAll_mk0)), rfl, bel.frame _, fun h => by cases h⟩

theorem over : Rows.fnExactSpokesForRow.holds Try.pinned (OpenSpec.ofChange Rows.fnExactSpokesForSpec) :=
  OpenClaim.holds_of_wide 5 Try.f5 rfl rfl rfl rfl rfl rfl rfl ⟨rfl, rfl, rfl, rfl, rfl⟩ rfl rfl rfl rfl rfl (by kernel_rfl) Try.func5 (by kernel_rfl)
    (of_decide_eq_true (by kernel_rfl)) (by unfold Func.isWrapper; first | (rw [if_pos (by decide +kernel)]; kernel_rfl) | (rw [if_neg (by decide +kernel)]; exact ⟨rfl, rfl⟩))
    (fun os started H enc _ => lifted os started H enc)

theorem proved : Rows.FnExactSpokesForSaid := over
end Go.Proofs.Ytifblmcocikopab.fnExactSpokesFor
