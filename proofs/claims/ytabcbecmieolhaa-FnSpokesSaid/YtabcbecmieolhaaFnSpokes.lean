/- FnSpokes holds: for every code, lengths, squares and counts of the drawn wheel are as the model's, mirroring exchanges the lengths of both sides, the length is near the square's root, and the counts make the holes. -/
import Derived.Test.YtabcbecmieolhaaRows
import Derived.Test.YtabcbecmieolhaaSpokeImpl
import Derived.Test.YtabcbecmieolhaaDrawSp1
import Derived.Test.YtabcbecmieolhaaBig
import Derived.Test.YtabcbecmieolhaaOpenB
import Derived.Test.YtabcbecmieolhaaBox
import Derived.Test.YtabcbecmieolhaaPlainSpoke4
import Derived.Test.YtabcbecmieolhaaGrid2
import Derived.WalkKit
import Derived.ProofKit
import Derived.OpenShut
import Derived.ShutString
import Derived.SizedLaws
namespace Go.Proofs.Ytabcbecmieolhaa.fnSpokes
open Go.ChangeShapes Go.WideShapes Go.ChangeAt Go.RowKit
open Go.ChangeMaps (open_string shut_string)
set_option linter.unusedVariables false

set_option maxRecDepth 100000 in
set_option maxHeartbeats 16000000 in
theorem walk (A : Option Addr) (n cap : Nat) (bs : List Int) (w : World) (h : Rd w 0 w.heap.size A n (byts bs)) (hn : n * 1 ≤ 140737488351232) (hs : ∀ z ∈ bs, 0 ≤ z ∧ z ≤ 255) :
    Calls Try.prog 3 #[.slice A n cap] w fun e w' => e = .returned (.bool true) ∧ Below w.heap.size w w' := by
  have HB := Go.Lib.hid (big_ A n cap w)
  by_cases hbig : (4096 : Int) < n
  · go_enter Try.func3, Try.ntmps3
    go_wp2_with fail
    refine HB.out.mono ?_
    rintro e w' ⟨rfl, rfl⟩
    go_wp2_with fail
    go_ret
    exact ⟨rfl, Below.refl _ _⟩
  · have hb2 := big_ A n cap w
    rw [decide_eq_false hbig] at hb2
    have HB2 := Go.Lib.hid hb2
    have HRD := Go.Lib.hid (fun w1 (hb : Below w.heap.size w w1) => (h.below hb (Nat.le_refl _)).mono (Nat.le_refl _) hb.size)
    clear hb2 HB hbig
    go_enter Try.func3, Try.ntmps3
    go_wp2_with fail
    refine HB2.out.mono ?_
    rintro e w' ⟨rfl, rfl⟩
    have B0 : Below w.heap.size w w := Below.refl _ _
    go_wp2_with fail
    refine (drawSpokeLength A n cap bs _ (HRD.out _ B0) hs (by omega)).mono ?_
    rintro _ W1 ⟨x, r, rfl, b1⟩
    have B1 := upB B0 b1
    clear b1  B0
    go_upto_region 4 with fail
    refine wp_gen (R := fun w' => Box w' W1.heap.size [.int .i64 x.h.n, .int .i64 x.h.l, .int .i64 x.h.r, .int .i64 x.h.a, .int .i64 x.h.b, .int .i64 x.r.n, .int .i64 x.r.d, .int .i64 x.r.o, .int .i64 x.c] ∧ Below w.heap.size w w' ∧ Below W1.heap.size W1 w') ⟨Box.new rfl rfl, B1.alloc B1.size _, (Below.refl _ _).alloc (Nat.le_refl _) _⟩ ?_
    rintro W2 ⟨K2_0, B2, b2⟩
    clear b2 B1
    obtain ⟨l, s, zss, e, hl, hsq, hc, hall⟩ := spoke_codes x r
    have HALL := Go.Lib.hid hall
    have hp : ∀ a b : Int, pairI (a, b) = .tuple #[.int .i64 a, .int .i64 b] := fun _ _ => rfl
    have HL := Go.Lib.hid (fun w0 => implSpokeLength x r w0)
    have HLS := Go.Lib.hid (fun w0 => specSpokeLength x r w0)
    have HQ := Go.Lib.hid (fun w0 => implSquareOfSpoke x r w0)
    have HQS := Go.Lib.hid (fun w0 => specSquareOfSpoke x r w0)
    rw [hl, hp] at HL HLS
    rw [hsq, hp] at HQ HQS
    have HC := Go.Lib.hid (fun w0 => (implSpokeCounts x w0).mono fun e2 w2 (h : RowsEnd (cntA x) w0 e2 w2) => show ∃ A cap c d G g, e2 = .returned (.tuple #[.slice A zss.length cap, .int .i64 e]) ∧ GridAt w2 w0.heap.size w2.heap.size A zss.length zss c d G g ∧ Below w0.heap.size w0 w2 by rw [hc] at h; exact h)
    have HCS := Go.Lib.hid (fun w0 => (specSpokeCounts x w0).mono fun e2 w2 (h : RowsEnd (cntA x) w0 e2 w2) => show ∃ A cap c d G g, e2 = .returned (.tuple #[.slice A zss.length cap, .int .i64 e]) ∧ GridAt w2 w0.heap.size w2.heap.size A zss.length zss c d G g ∧ Below w0.heap.size w0 w2 by rw [hc] at h; exact h)
    clear hl hsq hc hp hall HRD HB2
    have hne : (e != e) = false := by simp
    have hnl : (l != l) = false := by simp
    have hns : (s != s) = false := by simp
    have k2_0_0 := K2_0.at_ 0 _ rfl
    have k2_0_1 := K2_0.at_ 1 _ rfl
    have k2_0_2 := K2_0.at_ 2 _ rfl
    have k2_0_3 := K2_0.at_ 3 _ rfl
    have k2_0_4 := K2_0.at_ 4 _ rfl
    have k2_0_5 := K2_0.at_ 5 _ rfl
    have k2_0_6 := K2_0.at_ 6 _ rfl
    have k2_0_7 := K2_0.at_ 7 _ rfl
    have k2_0_8 := K2_0.at_ 8 _ rfl
    have k2_0_f := K2_0.fr
    have k2_0_l := K2_0.lt
    go_wp2_with fail
    refine (HL.out _).mono ?_
    rintro _ W3 ⟨rfl, b3⟩
    have K3_0 := K2_0.below b3
    clear k2_0_0 k2_0_1 k2_0_2 k2_0_3 k2_0_4 k2_0_5 k2_0_6 k2_0_7 k2_0_8 k2_0_f k2_0_l
    have B3 := upB B2 b3
    clear b3 K2_0 B2
    have k3_0_0 := K3_0.at_ 0 _ rfl
    have k3_0_1 := K3_0.at_ 1 _ rfl
    have k3_0_2 := K3_0.at_ 2 _ rfl
    have k3_0_3 := K3_0.at_ 3 _ rfl
    have k3_0_4 := K3_0.at_ 4 _ rfl
    have k3_0_5 := K3_0.at_ 5 _ rfl
    have k3_0_6 := K3_0.at_ 6 _ rfl
    have k3_0_7 := K3_0.at_ 7 _ rfl
    have k3_0_8 := K3_0.at_ 8 _ rfl
    have k3_0_f := K3_0.fr
    have k3_0_l := K3_0.lt
    go_wp2_with fail
    refine (HLS.out _).mono ?_
    rintro _ W4 ⟨rfl, b4⟩
    have K4_0 := K3_0.below b4
    clear k3_0_0 k3_0_1 k3_0_2 k3_0_3 k3_0_4 k3_0_5 k3_0_6 k3_0_7 k3_0_8 k3_0_f k3_0_l
    have B4 := upB B3 b4
    clear b4 K3_0 B3
    have k4_0_0 := K4_0.at_ 0 _ rfl
    have k4_0_1 := K4_0.at_ 1 _ rfl
    have k4_0_2 := K4_0.at_ 2 _ rfl
    have k4_0_3 := K4_0.at_ 3 _ rfl
    have k4_0_4 := K4_0.at_ 4 _ rfl
    have k4_0_5 := K4_0.at_ 5 _ rfl
    have k4_0_6 := K4_0.at_ 6 _ rfl
    have k4_0_7 := K4_0.at_ 7 _ rfl
    have k4_0_8 := K4_0.at_ 8 _ rfl
    have k4_0_f := K4_0.fr
    have k4_0_l := K4_0.lt
    go_wp2_with fail
    refine (HQ.out _).mono ?_
    rintro _ W5 ⟨rfl, b5⟩
    have K5_0 := K4_0.below b5
    clear k4_0_0 k4_0_1 k4_0_2 k4_0_3 k4_0_4 k4_0_5 k4_0_6 k4_0_7 k4_0_8 k4_0_f k4_0_l
    have B5 := upB B4 b5
    clear b5 K4_0 B4
    have k5_0_0 := K5_0.at_ 0 _ rfl
    have k5_0_1 := K5_0.at_ 1 _ rfl
    have k5_0_2 := K5_0.at_ 2 _ rfl
    have k5_0_3 := K5_0.at_ 3 _ rfl
    have k5_0_4 := K5_0.at_ 4 _ rfl
    have k5_0_5 := K5_0.at_ 5 _ rfl
    have k5_0_6 := K5_0.at_ 6 _ rfl
    have k5_0_7 := K5_0.at_ 7 _ rfl
    have k5_0_8 := K5_0.at_ 8 _ rfl
    have k5_0_f := K5_0.fr
    have k5_0_l := K5_0.lt
    go_wp2_with fail
    refine (HQS.out _).mono ?_
    rintro _ W6 ⟨rfl, b6⟩
    have K6_0 := K5_0.below b6
    clear k5_0_0 k5_0_1 k5_0_2 k5_0_3 k5_0_4 k5_0_5 k5_0_6 k5_0_7 k5_0_8 k5_0_f k5_0_l
    have B6 := upB B5 b6
    clear b6 K5_0 B5
    have k6_0_0 := K6_0.at_ 0 _ rfl
    have k6_0_1 := K6_0.at_ 1 _ rfl
    have k6_0_2 := K6_0.at_ 2 _ rfl
    have k6_0_3 := K6_0.at_ 3 _ rfl
    have k6_0_4 := K6_0.at_ 4 _ rfl
    have k6_0_5 := K6_0.at_ 5 _ rfl
    have k6_0_6 := K6_0.at_ 6 _ rfl
    have k6_0_7 := K6_0.at_ 7 _ rfl
    have k6_0_8 := K6_0.at_ 8 _ rfl
    have k6_0_f := K6_0.fr
    have k6_0_l := K6_0.lt
    go_wp2_with fail
    refine (HC.out _).mono ?_
    rintro _ W7 ⟨A0, n0, c0, d0, G0, g0, rfl, q0, b7⟩
    have K7_0 := K6_0.below b7
    clear k6_0_0 k6_0_1 k6_0_2 k6_0_3 k6_0_4 k6_0_5 k6_0_6 k6_0_7 k6_0_8 k6_0_f k6_0_l
    have B7 := upB B6 b7
    clear b7 K6_0 B6
    have Q0 := Go.Lib.hid q0
    have S0 : Hid (_ ≤ _) := Go.Lib.hid (Nat.le_refl W7.heap.size)
    clear q0
    have k7_0_0 := K7_0.at_ 0 _ rfl
    have k7_0_1 := K7_0.at_ 1 _ rfl
    have k7_0_2 := K7_0.at_ 2 _ rfl
    have k7_0_3 := K7_0.at_ 3 _ rfl
    have k7_0_4 := K7_0.at_ 4 _ rfl
    have k7_0_5 := K7_0.at_ 5 _ rfl
    have k7_0_6 := K7_0.at_ 6 _ rfl
    have k7_0_7 := K7_0.at_ 7 _ rfl
    have k7_0_8 := K7_0.at_ 8 _ rfl
    have k7_0_f := K7_0.fr
    have k7_0_l := K7_0.lt
    go_wp2_with fail
    refine (HCS.out _).mono ?_
    rintro _ W8 ⟨A1, n1, c1, d1, G1, g1, rfl, q1, b8⟩
    have K8_0 := K7_0.below b8
    clear k7_0_0 k7_0_1 k7_0_2 k7_0_3 k7_0_4 k7_0_5 k7_0_6 k7_0_7 k7_0_8 k7_0_f k7_0_l
    have Q0 := Go.Lib.hid (Q0.out.below b8 S0.out)
    have S0 := Go.Lib.hid (Nat.le_trans S0.out b8.size)
    have B8 := upB B7 b8
    clear b8 K7_0 B7
    have Q1 := Go.Lib.hid q1
    have S1 : Hid (_ ≤ _) := Go.Lib.hid (Nat.le_refl W8.heap.size)
    clear q1
    go_wp2_with fail
    refine (likeRows_same A0 A1 zss.length n0 n1 zss _ _ _ _ _ _ _ _ _ _ _ _ W8 Q0.out Q1.out).mono ?_
    rintro _ _ ⟨rfl, x2, rfl⟩
    have Q0 := Go.Lib.hid (Q0.out.drewN x2)
    have Q1 := Go.Lib.hid (Q1.out.drewN x2)
    have K8_0 := K8_0.drewN x2
    have B8 := below_drewN B8 x2
    have S0 : Hid (_ ≤ (W8.drewN x2).heap.size) := S0
    have S1 : Hid (_ ≤ (W8.drewN x2).heap.size) := S1
    generalize W8.drewN x2 = V8 at *
    clear HL HLS HQ HQS HC HCS
    rcases HALL.out with hE | hE
    · clear HALL
      obtain ⟨rfl, -⟩ := hE
      go_wp2_with fail
      go_ret
      exact ⟨rfl, B8⟩
    · clear HALL
      obtain ⟨rfl, hb, hl, hsq, hz⟩ := hE
      have hm : mirrWA x = (mirrW x, 0) := by unfold mirrWA; rw [hb]; rfl
      have hl2 : lenA (mirrW x) (!r) = (l, 0) := by unfold lenA; rw [wheelB_mirr, hb, spLen_mirr, hl]; rfl
      have HM := Go.Lib.hid (fun w0 => implMirrorWheel x w0)
      rw [hm] at HM
      have HL2 := Go.Lib.hid (fun w0 => implSpokeLength (mirrW x) (!r) w0)
      rw [hl2] at HL2
      dsimp only [pairI] at HL2
      clear hm hl2
      generalize mirrW x = m at HM HL2
      obtain ⟨lb0, lb1⟩ := spLen_bd (r := r) hb
      obtain ⟨near1, near2⟩ := spLen_near (r := r) hb
      rw [← hl] at lb0 lb1 near1 near2
      rw [← hsq] at near1 near2
      obtain ⟨j0, j1, j2, j3, j4⟩ := near_bd lb0 lb1 near1 near2
      obtain ⟨c2, c3, c4, c5⟩ := counts_ok hb
      have c6 := c5 r
      rw [← hz] at c2 c3 c4 c6
      rw [← hl] at c6
      have HC3 := Go.Lib.hid c3
      have HC4 := Go.Lib.hid c4
      have HC6 := Go.Lib.hid c6
      have HTB := Go.Lib.hid (tot_bd c3)
      clear c3 c4 c5 c6 hl hsq hz hb
      have u1 : IntKind.i64.wrap (l + 12) = l + 12 := IntWalk.i64_in _ (by omega)
      have u2 : IntKind.i64.wrap (2 * (l + 12)) = 2 * (l + 12) := IntWalk.i64_in _ (by omega)
      have u3 : IntKind.i64.wrap (2 * (l + 12) - 1) = 2 * (l + 12) - 1 := IntWalk.i64_in _ (by omega)
      have u4 : IntKind.i64.wrap (2 * (l + 12) + 1) = 2 * (l + 12) + 1 := IntWalk.i64_in _ (by omega)
      have u5 : IntKind.i64.wrap ((2 * (l + 12) - 1) * (2 * (l + 12) - 1)) = (2 * (l + 12) - 1) * (2 * (l + 12) - 1) := IntWalk.i64_in _ (by omega)
      have u6 : IntKind.i64.wrap ((2 * (l + 12) + 1) * (2 * (l + 12) + 1)) = (2 * (l + 12) + 1) * (2 * (l + 12) + 1) := IntWalk.i64_in _ (by omega)
      have v1 : ¬ (2 * (l + 12) - 1) * (2 * (l + 12) - 1) > s := by omega
      have v2 : ¬ (2 * (l + 12) + 1) * (2 * (l + 12) + 1) ≤ s := by omega
      have v3 : ¬ s < 0 := by omega
      clear near1 near2 j0 j1 j2 j3 j4
      have k8_0_0 := K8_0.at_ 0 _ rfl
      have k8_0_1 := K8_0.at_ 1 _ rfl
      have k8_0_2 := K8_0.at_ 2 _ rfl
      have k8_0_3 := K8_0.at_ 3 _ rfl
      have k8_0_4 := K8_0.at_ 4 _ rfl
      have k8_0_5 := K8_0.at_ 5 _ rfl
      have k8_0_6 := K8_0.at_ 6 _ rfl
      have k8_0_7 := K8_0.at_ 7 _ rfl
      have k8_0_8 := K8_0.at_ 8 _ rfl
      have k8_0_f := K8_0.fr
      have k8_0_l := K8_0.lt
      go_wp2_with fail
      refine (HM.out _).mono ?_
      rintro _ W9 ⟨rfl, b9⟩
      have K9_0 := K8_0.below b9
      clear k8_0_0 k8_0_1 k8_0_2 k8_0_3 k8_0_4 k8_0_5 k8_0_6 k8_0_7 k8_0_8 k8_0_f k8_0_l
      have Q0 := Go.Lib.hid (Q0.out.below b9 S0.out)
      have S0 := Go.Lib.hid (Nat.le_trans S0.out b9.size)
      have Q1 := Go.Lib.hid (Q1.out.below b9 S1.out)
      have S1 := Go.Lib.hid (Nat.le_trans S1.out b9.size)
      have B9 := upB B8 b9
      clear b9 K8_0 B8
      go_upto_region 15 with fail
      refine wp_gen (R := fun w' => Box w' W1.heap.size [.int .i64 x.h.n, .int .i64 x.h.l, .int .i64 x.h.r, .int .i64 x.h.a, .int .i64 x.h.b, .int .i64 x.r.n, .int .i64 x.r.d, .int .i64 x.r.o, .int .i64 x.c] ∧ Box w' W9.heap.size [.int .i64 m.h.n, .int .i64 m.h.l, .int .i64 m.h.r, .int .i64 m.h.a, .int .i64 m.h.b, .int .i64 m.r.n, .int .i64 m.r.d, .int .i64 m.r.o, .int .i64 m.c] ∧ Below w.heap.size w w' ∧ Below W9.heap.size W9 w') ⟨K9_0.alloc _, Box.new rfl rfl, B9.alloc B9.size _, (Below.refl _ _).alloc (Nat.le_refl _) _⟩ ?_
      rintro W10 ⟨K10_0, K10_1, B10, b10⟩
      have Q0 := Go.Lib.hid (Q0.out.below b10 S0.out)
      have S0 := Go.Lib.hid (Nat.le_trans S0.out b10.size)
      have Q1 := Go.Lib.hid (Q1.out.below b10 S1.out)
      have S1 := Go.Lib.hid (Nat.le_trans S1.out b10.size)
      clear b10 K9_0 B9
      have k10_1_0 := K10_1.at_ 0 _ rfl
      have k10_1_1 := K10_1.at_ 1 _ rfl
      have k10_1_2 := K10_1.at_ 2 _ rfl
      have k10_1_3 := K10_1.at_ 3 _ rfl
      have k10_1_4 := K10_1.at_ 4 _ rfl
      have k10_1_5 := K10_1.at_ 5 _ rfl
      have k10_1_6 := K10_1.at_ 6 _ rfl
      have k10_1_7 := K10_1.at_ 7 _ rfl
      have k10_1_8 := K10_1.at_ 8 _ rfl
      have k10_1_f := K10_1.fr
      have k10_1_l := K10_1.lt
      go_wp2_with fail
      refine (HL2.out _).mono ?_
      rintro _ W11 ⟨rfl, b11⟩
      have K11_0 := K10_0.below b11
      have K11_1 := K10_1.below b11
      clear k10_1_0 k10_1_1 k10_1_2 k10_1_3 k10_1_4 k10_1_5 k10_1_6 k10_1_7 k10_1_8 k10_1_f k10_1_l
      have Q0 := Go.Lib.hid (Q0.out.below b11 S0.out)
      have S0 := Go.Lib.hid (Nat.le_trans S0.out b11.size)
      have Q1 := Go.Lib.hid (Q1.out.below b11 S1.out)
      have S1 := Go.Lib.hid (Nat.le_trans S1.out b11.size)
      have B11 := upB B10 b11
      clear b11 K10_0 K10_1 B10
      have k11_0_0 := K11_0.at_ 0 _ rfl
      have k11_0_1 := K11_0.at_ 1 _ rfl
      have k11_0_2 := K11_0.at_ 2 _ rfl
      have k11_0_3 := K11_0.at_ 3 _ rfl
      have k11_0_4 := K11_0.at_ 4 _ rfl
      have k11_0_5 := K11_0.at_ 5 _ rfl
      have k11_0_6 := K11_0.at_ 6 _ rfl
      have k11_0_7 := K11_0.at_ 7 _ rfl
      have k11_0_8 := K11_0.at_ 8 _ rfl
      have k11_0_f := K11_0.fr
      have k11_0_l := K11_0.lt
      clear HM HL2
      go_wp2_with fail
      clear k11_0_0 k11_0_1 k11_0_2 k11_0_3 k11_0_4 k11_0_5 k11_0_6 k11_0_7 k11_0_8 k11_0_f k11_0_l
      go_loopw [22, 23, 24] (fun t f i wr => ∃ k : Nat, k ≤ zss.length ∧ i = .int .i64 k ∧ t = .int .i64 (totTo zss k) ∧ f = .bool (fndTo zss l k) ∧ wr = W11) (fun _ _ i _ => zss.length - (intOf i).toNat)
      case atStart => exact ⟨0, Nat.zero_le _, rfl, rfl, rfl, rfl⟩
      case round =>
        clear v1 v2 v3 u1 u2 u3 u4 u5 u6 hne hnl hns
        obtain ⟨k, hk, rfl, rfl, rfl, rfl⟩ := hrel
        by_cases hlt : k < zss.length
        · have hltI : (k : Int) < (zss.length : Int) := by omega
          obtain ⟨y0, y1, y2⟩ := HC3.out k hlt
          obtain ⟨t0, t1⟩ := HTB.out k hk
          obtain ⟨rfl, -, -⟩ := Q0.out.out (by omega)
          obtain ⟨rfl, -, -⟩ := Q1.out.out (by omega)
          have x1 := Q0.out.cell hlt
          have x2 := Q1.out.cell hlt
          obtain ⟨p1, -, r1⟩ := Q0.out.row k hlt (by omega)
          obtain ⟨p2, -, r2⟩ := Q1.out.row k hlt (by omega)
          have z1 := r1.at_ 1 _ (ints_at _ 1 (by omega))
          have z2 := r2.at_ 0 _ (ints_at _ 0 (by omega))
          rw [p1, y0] at x1
          rw [p2, y0] at x2
          have HT : Hid (totTo zss (k + 1) = totTo zss k + (rowAt zss k).getD 1 0) := rfl
          have HF : Hid (fndTo zss l (k + 1) = (fndTo zss l k || (rowAt zss k).getD 0 0 == l)) := rfl
          have u1 : IntKind.i64.wrap (totTo zss k + (rowAt zss k).getD 1 0) = totTo zss k + (rowAt zss k).getD 1 0 := IntWalk.i64_in _ (by omega)
          clear p1 p2 r1 r2 y0 y1 y2 t0 t1
          generalize (rowAt zss k).getD 1 0 = a1 at *
          generalize (rowAt zss k).getD 0 0 = a2 at *
          generalize totTo zss k = tt at *
          generalize fndTo zss l k = ff at *
          cases ff
          · go_wp2_with fail
            go_roundw
            case rel => exact ⟨k + 1, by omega, by go_num, by rw [HT.out], by rw [HF.out]; simp, trivial⟩
            case measure => simp [intOf]; omega
          · go_wp2_with fail
            go_roundw
            case rel => exact ⟨k + 1, by omega, by go_num, by rw [HT.out], by rw [HF.out]; simp, trivial⟩
            case measure => simp [intOf]; omega
        · obtain rfl : k = zss.length := by omega
          have hltI : ¬ (zss.length : Int) < (zss.length : Int) := by omega
          have k11_0_0 := K11_0.at_ 0 _ rfl
          have k11_0_1 := K11_0.at_ 1 _ rfl
          have k11_0_2 := K11_0.at_ 2 _ rfl
          have k11_0_3 := K11_0.at_ 3 _ rfl
          have k11_0_4 := K11_0.at_ 4 _ rfl
          have k11_0_5 := K11_0.at_ 5 _ rfl
          have k11_0_6 := K11_0.at_ 6 _ rfl
          have k11_0_7 := K11_0.at_ 7 _ rfl
          have k11_0_8 := K11_0.at_ 8 _ rfl
          have k11_0_f := K11_0.fr
          have k11_0_l := K11_0.lt
          rw [HC4.out, HC6.out]
          go_wp2_with fail
          go_ret
          exact ⟨by first | rfl | simp, B11⟩

set_option maxRecDepth 100000 in
theorem lifted (os : Os) (started : os.Started) (H : Type) (enc : TypeId × Value → H) :
    ReturnsInHanded {} Try.checked os 3 .any (Rows.fnSpokesSpec.pre6 enc Try.prog Try.f3 Rows.fnSpokesRow.domain false) (Rows.fnSpokesSpec.post enc Try.prog Try.f3 false true false false) := by
  refine returnsInHanded_of_change_sized (C := Try.checked) own started (by kernel_rfl) Try.func3
    (ChangeSpec.witness6 (enc := enc) (C := Try.checked) false ⟨#[], #[.slice none 0 0], []⟩ 8 (by kernel_rfl) (by kernel_rfl) (by kernel_rfl) (by kernel_rfl)) ?_
  intro W base args ds gs before hval0 hW hcnd hsz0 _
  have hsz : (DataW.weightsEach Try.prog (Try.f3.params.toList ++ Rows.fnSpokesSpec.plain.varTypes Try.prog) (ds ++ gs)).all (· ≤ reachBytes) = true := hsz0
  clear hsz0
  have hval : ∀ (j : Nat) t v, Try.f3.params[j]? = some t → args[j]? = some v → Value.okWide Try.prog W .any base t v := hval0
  clear hval0
  have hW' := hW
  obtain ⟨p, q, hA0, hV, rfl, hfz, hnd⟩ := hW
  have hA : DataW.TrodAll enc Try.prog W 0 (fun _ => true) true Try.f3.params.toList args.toList ds p := hA0
  rw [Try.params3] at hA hval hsz
  obtain ⟨v0, vs0, d0, ds0, p0, q0, hargs, rfl, rfl, h0, r0⟩ := trodAll_cons hA
  obtain ⟨rfl, rfl, rfl⟩ := trodAll_nil r0
  obtain rfl : args = #[v0] := by cases args; simp_all
  obtain ⟨rfl, rfl⟩ := trodVars_none hV
  obtain ⟨a0, len0, cap0, rfl⟩ := okWide_slice Try.underlying22 (hval 0 22 v0 rfl rfl)
  have k0 := h0
  have lt0 : ∀ x ∈ p0, x.block < W.heap.size := by obtain ⟨m, hm⟩ := k0; exact DataW.trod_lt m _ _ _ hm
  obtain ⟨⟨z0, rd0, sz0⟩, hlc0, hp0⟩ := open_list_bytes h0
  have reach0 : len0 * 1 ≤ 140737488351232 := by
    rcases hp0 with hp0 | ⟨E0, S0, rfl, hl0⟩
    · omega
    · have := sized_slice hsz (j := 0) (t := 22) (e := 5) rfl rfl Try.underlying22
      rw [show Try.prog.bytesOf 5 = 1 by kernel_rfl] at this
      simp only [reachBytes] at this
      omega
  clear hA0
  refine (walk a0 len0 cap0 z0 W rd0 reach0 sz0).mono fun e W' ⟨he, bel⟩ => ?_
  subst he
  exact ⟨_, rfl, _, _, _, [], _, [], hW', trodAll_mk1 (shut_bool Try.underlying4 _), (trodAll_cons_mk (Below.trod laidOut (by kernel_rfl) (of_decide_eq_true (by kernel_rfl)) k0 bel lt0) trodAll_mk0), rfl, bel.frame _, fun h => by cases h⟩

theorem over : Rows.fnSpokesRow.holds Try.pinned (OpenSpec.ofChange Rows.fnSpokesSpec) :=
  OpenClaim.holds_of_wide 3 Try.f3 rfl rfl rfl rfl rfl rfl rfl ⟨rfl, rfl, rfl, rfl, rfl⟩ rfl rfl rfl rfl rfl (by kernel_rfl) Try.func3 (by kernel_rfl)
    (of_decide_eq_true (by kernel_rfl)) (by unfold Func.isWrapper; first | (rw [if_pos (by decide +kernel)]; kernel_rfl) | (rw [if_neg (by decide +kernel)]; exact ⟨rfl, rfl⟩))
    (fun os started H enc _ => lifted os started H enc)

theorem proved : Rows.FnSpokesSaid := over
end Go.Proofs.Ytabcbecmieolhaa.fnSpokes
