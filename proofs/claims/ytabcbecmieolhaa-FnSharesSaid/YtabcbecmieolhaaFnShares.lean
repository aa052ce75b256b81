/- FnShares holds: for every code, crosses and shares of the drawn wheels are as the model's, the crosses that are found come nearest to the length, and of a wheel and its mirror not both shares are above 1000. -/
import Derived.Test.YtabcbecmieolhaaRows
import Derived.Test.YtabcbecmieolhaaSpokeImpl
import Derived.Test.YtabcbecmieolhaaDrawSp1
import Derived.Test.YtabcbecmieolhaaBig
import Derived.Test.YtabcbecmieolhaaOpenB
import Derived.Test.YtabcbecmieolhaaBox
import Derived.Test.YtabcbecmieolhaaPlainSpoke3
import Derived.WalkKit
import Derived.ProofKit
import Derived.OpenShut
import Derived.ShutString
import Derived.SizedLaws
namespace Go.Proofs.Ytabcbecmieolhaa.fnShares
open Go.ChangeShapes Go.WideShapes Go.ChangeAt Go.RowKit
open Go.ChangeMaps (open_string shut_string)
set_option linter.unusedVariables false

set_option maxRecDepth 100000 in
set_option maxHeartbeats 16000000 in
theorem walk (A : Option Addr) (n cap : Nat) (bs : List Int) (w : World) (h : Rd w 0 w.heap.size A n (byts bs)) (hn : n * 1 ≤ 140737488351232) (hs : ∀ z ∈ bs, 0 ≤ z ∧ z ≤ 255) :
    Calls Try.prog 5 #[.slice A n cap] w fun e w' => e = .returned (.bool true) ∧ Below w.heap.size w w' := by
  have HB := Go.Lib.hid (big_ A n cap w)
  by_cases hbig : (4096 : Int) < n
  · go_enter Try.func5, Try.ntmps5
    go_wp2_with fail
    refine HB.out.mono ?_
    rintro e w' ⟨rfl, rfl⟩
    go_wp2_with fail
    go_ret
    exact ⟨rfl, Below.refl _ _⟩
  · have hb2 := big_ A n cap w
    rw [decide_eq_false hbig] at hb2
    have HB2 := Go.Lib.hid hb2
    have HRD := Go.Lib.hid (fun w1 (hb : Below w.heap.size w w1) => (h.below hb (Nat.le_refl _)).mono (Nat.le_refl _) hb.size)
    clear hb2 HB hbig
    go_enter Try.func5, Try.ntmps5
    go_wp2_with fail
    refine HB2.out.mono ?_
    rintro e w' ⟨rfl, rfl⟩
    have B0 : Below w.heap.size w w := Below.refl _ _
    go_wp2_with fail
    refine (drawCrossesFor A n cap bs _ (HRD.out _ B0) hs (by omega)).mono ?_
    rintro _ W1 ⟨x, r, z, rfl, b1⟩
    have B1 := upB B0 b1
    clear b1  B0
    go_upto_region 4 with fail
    refine wp_gen (R := fun w' => Box w' W1.heap.size [.int .i64 x.h.n, .int .i64 x.h.l, .int .i64 x.h.r, .int .i64 x.h.a, .int .i64 x.h.b, .int .i64 x.r.n, .int .i64 x.r.d, .int .i64 x.r.o, .int .i64 x.c] ∧ Below w.heap.size w w') ⟨Box.new rfl rfl, B1.alloc B1.size _⟩ ?_
    rintro W2 ⟨K2_0, B2⟩
    clear B1
    obtain ⟨c, f, hcf⟩ : ∃ c f, crsA x r z = (c, f) := ⟨_, _, rfl⟩
    have HI := Go.Lib.hid (fun w0 => implCrossesFor x r z w0)
    have HS := Go.Lib.hid (fun w0 => specCrossesFor x r z w0)
    rw [hcf] at HI HS
    dsimp only [pairI] at HI HS
    have HCF := Go.Lib.hid hcf
    clear hcf
    have hnc : (c != c) = false := by simp
    have hnf : (f != f) = false := by simp
    have k2_0_0 := K2_0.at_ 0 _ rfl
    have k2_0_1 := K2_0.at_ 1 _ rfl
    have k2_0_2 := K2_0.at_ 2 _ rfl
    have k2_0_3 := K2_0.at_ 3 _ rfl
    have k2_0_4 := K2_0.at_ 4 _ rfl
    have k2_0_5 := K2_0.at_ 5 _ rfl
    have k2_0_6 := K2_0.at_ 6 _ rfl
    have k2_0_7 := K2_0.at_ 7 _ rfl
    have k2_0_8 := K2_0.at_ 8 _ rfl
    have k2_0_f := K2_0.fr
    have k2_0_l := K2_0.lt
    go_wp2_with fail
    refine (HI.out _).mono ?_
    rintro _ W3 ⟨rfl, b3⟩
    have K3_0 := K2_0.below b3
    clear k2_0_0 k2_0_1 k2_0_2 k2_0_3 k2_0_4 k2_0_5 k2_0_6 k2_0_7 k2_0_8 k2_0_f k2_0_l
    have B3 := upB B2 b3
    clear b3 K2_0 B2
    have k3_0_0 := K3_0.at_ 0 _ rfl
    have k3_0_1 := K3_0.at_ 1 _ rfl
    have k3_0_2 := K3_0.at_ 2 _ rfl
    have k3_0_3 := K3_0.at_ 3 _ rfl
    have k3_0_4 := K3_0.at_ 4 _ rfl
    have k3_0_5 := K3_0.at_ 5 _ rfl
    have k3_0_6 := K3_0.at_ 6 _ rfl
    have k3_0_7 := K3_0.at_ 7 _ rfl
    have k3_0_8 := K3_0.at_ 8 _ rfl
    have k3_0_f := K3_0.fr
    have k3_0_l := K3_0.lt
    go_wp2_with fail
    refine (HS.out _).mono ?_
    rintro _ W4 ⟨rfl, b4⟩
    have K4_0 := K3_0.below b4
    clear k3_0_0 k3_0_1 k3_0_2 k3_0_3 k3_0_4 k3_0_5 k3_0_6 k3_0_7 k3_0_8 k3_0_f k3_0_l
    have B4 := upB B3 b4
    clear b4 K3_0 B3
    go_wp2_with fail
    refine (drawTensionShare A n cap bs _ (HRD.out _ B4) hs (by omega)).mono ?_
    rintro _ W5 ⟨y, rfl, b5⟩
    have K5_0 := K4_0.below b5
    have B5 := upB B4 b5
    clear b5 K4_0 B4
    go_upto_region 7 with fail
    refine wp_gen (R := fun w' => Box w' W1.heap.size [.int .i64 x.h.n, .int .i64 x.h.l, .int .i64 x.h.r, .int .i64 x.h.a, .int .i64 x.h.b, .int .i64 x.r.n, .int .i64 x.r.d, .int .i64 x.r.o, .int .i64 x.c] ∧ Box w' W5.heap.size [.int .i64 y.h.n, .int .i64 y.h.l, .int .i64 y.h.r, .int .i64 y.h.a, .int .i64 y.h.b, .int .i64 y.r.n, .int .i64 y.r.d, .int .i64 y.r.o, .int .i64 y.c] ∧ Below w.heap.size w w') ⟨K5_0.alloc _, Box.new rfl rfl, B5.alloc B5.size _⟩ ?_
    rintro W6 ⟨K6_0, K6_1, B6⟩
    clear K5_0 B5
    obtain ⟨s, t, hst⟩ : ∃ s t, shrA y = (s, t) := ⟨_, _, rfl⟩
    have HI2 := Go.Lib.hid (fun w0 => implTensionShare y w0)
    have HS2 := Go.Lib.hid (fun w0 => specTensionShare y w0)
    rw [hst] at HI2 HS2
    dsimp only [pairI] at HI2 HS2
    have HST := Go.Lib.hid hst
    clear hst HI HS HRD HB2
    have hns : (s != s) = false := by simp
    have hnt : (t != t) = false := by simp
    have k6_1_0 := K6_1.at_ 0 _ rfl
    have k6_1_1 := K6_1.at_ 1 _ rfl
    have k6_1_2 := K6_1.at_ 2 _ rfl
    have k6_1_3 := K6_1.at_ 3 _ rfl
    have k6_1_4 := K6_1.at_ 4 _ rfl
    have k6_1_5 := K6_1.at_ 5 _ rfl
    have k6_1_6 := K6_1.at_ 6 _ rfl
    have k6_1_7 := K6_1.at_ 7 _ rfl
    have k6_1_8 := K6_1.at_ 8 _ rfl
    have k6_1_f := K6_1.fr
    have k6_1_l := K6_1.lt
    go_wp2_with fail
    refine (HI2.out _).mono ?_
    rintro _ W7 ⟨rfl, b7⟩
    have K7_0 := K6_0.below b7
    have K7_1 := K6_1.below b7
    clear k6_1_0 k6_1_1 k6_1_2 k6_1_3 k6_1_4 k6_1_5 k6_1_6 k6_1_7 k6_1_8 k6_1_f k6_1_l
    have B7 := upB B6 b7
    clear b7 K6_0 K6_1 B6
    have k7_1_0 := K7_1.at_ 0 _ rfl
    have k7_1_1 := K7_1.at_ 1 _ rfl
    have k7_1_2 := K7_1.at_ 2 _ rfl
    have k7_1_3 := K7_1.at_ 3 _ rfl
    have k7_1_4 := K7_1.at_ 4 _ rfl
    have k7_1_5 := K7_1.at_ 5 _ rfl
    have k7_1_6 := K7_1.at_ 6 _ rfl
    have k7_1_7 := K7_1.at_ 7 _ rfl
    have k7_1_8 := K7_1.at_ 8 _ rfl
    have k7_1_f := K7_1.fr
    have k7_1_l := K7_1.lt
    go_wp2_with fail
    refine (HS2.out _).mono ?_
    rintro _ W8 ⟨rfl, b8⟩
    have K8_0 := K7_0.below b8
    have K8_1 := K7_1.below b8
    clear k7_1_0 k7_1_1 k7_1_2 k7_1_3 k7_1_4 k7_1_5 k7_1_6 k7_1_7 k7_1_8 k7_1_f k7_1_l
    have B8 := upB B7 b8
    clear b8 K7_0 K7_1 B7
    by_cases ht0 : t = 0
    · subst ht0
      obtain ⟨hy, o, ho, s0, hso⟩ := shr_ok HST.out
      have hv : mirrWA y = (mirrW y, 0) := by unfold mirrWA; rw [hy]; rfl
      have HM := Go.Lib.hid (fun w0 => implMirrorWheel y w0)
      rw [hv] at HM
      have HI3 := Go.Lib.hid (fun w0 => implTensionShare (mirrW y) w0)
      rw [ho] at HI3
      dsimp only [pairI] at HI3
      clear hv ho hy HST HI2 HS2
      generalize mirrW y = m at HM HI3
      have s2 : ¬ s < 0 := by omega
      have k8_1_0 := K8_1.at_ 0 _ rfl
      have k8_1_1 := K8_1.at_ 1 _ rfl
      have k8_1_2 := K8_1.at_ 2 _ rfl
      have k8_1_3 := K8_1.at_ 3 _ rfl
      have k8_1_4 := K8_1.at_ 4 _ rfl
      have k8_1_5 := K8_1.at_ 5 _ rfl
      have k8_1_6 := K8_1.at_ 6 _ rfl
      have k8_1_7 := K8_1.at_ 7 _ rfl
      have k8_1_8 := K8_1.at_ 8 _ rfl
      have k8_1_f := K8_1.fr
      have k8_1_l := K8_1.lt
      go_wp2_with fail
      refine (HM.out _).mono ?_
      rintro _ W9 ⟨rfl, b9⟩
      have K9_0 := K8_0.below b9
      have K9_1 := K8_1.below b9
      clear k8_1_0 k8_1_1 k8_1_2 k8_1_3 k8_1_4 k8_1_5 k8_1_6 k8_1_7 k8_1_8 k8_1_f k8_1_l
      have B9 := upB B8 b9
      clear b9 K8_0 K8_1 B8
      go_upto_region 13 with fail
      refine wp_gen (R := fun w' => Box w' W1.heap.size [.int .i64 x.h.n, .int .i64 x.h.l, .int .i64 x.h.r, .int .i64 x.h.a, .int .i64 x.h.b, .int .i64 x.r.n, .int .i64 x.r.d, .int .i64 x.r.o, .int .i64 x.c] ∧ Box w' W5.heap.size [.int .i64 y.h.n, .int .i64 y.h.l, .int .i64 y.h.r, .int .i64 y.h.a, .int .i64 y.h.b, .int .i64 y.r.n, .int .i64 y.r.d, .int .i64 y.r.o, .int .i64 y.c] ∧ Box w' W9.heap.size [.int .i64 m.h.n, .int .i64 m.h.l, .int .i64 m.h.r, .int .i64 m.h.a, .int .i64 m.h.b, .int .i64 m.r.n, .int .i64 m.r.d, .int .i64 m.r.o, .int .i64 m.c] ∧ Below w.heap.size w w') ⟨K9_0.alloc _, K9_1.alloc _, Box.new rfl rfl, B9.alloc B9.size _⟩ ?_
      rintro W10 ⟨K10_0, K10_1, K10_2, B10⟩
      clear K9_0 K9_1 B9
      have k10_2_0 := K10_2.at_ 0 _ rfl
      have k10_2_1 := K10_2.at_ 1 _ rfl
      have k10_2_2 := K10_2.at_ 2 _ rfl
      have k10_2_3 := K10_2.at_ 3 _ rfl
      have k10_2_4 := K10_2.at_ 4 _ rfl
      have k10_2_5 := K10_2.at_ 5 _ rfl
      have k10_2_6 := K10_2.at_ 6 _ rfl
      have k10_2_7 := K10_2.at_ 7 _ rfl
      have k10_2_8 := K10_2.at_ 8 _ rfl
      have k10_2_f := K10_2.fr
      have k10_2_l := K10_2.lt
      go_wp2_with fail
      refine (HI3.out _).mono ?_
      rintro _ W11 ⟨rfl, b11⟩
      have K11_0 := K10_0.below b11
      have K11_1 := K10_1.below b11
      have K11_2 := K10_2.below b11
      clear k10_2_0 k10_2_1 k10_2_2 k10_2_3 k10_2_4 k10_2_5 k10_2_6 k10_2_7 k10_2_8 k10_2_f k10_2_l
      have B11 := upB B10 b11
      clear b11 K10_0 K10_1 K10_2 B10
      clear HM HI3
      by_cases h1000 : 1000 < s
      · have s4 : s > 1000 := h1000
        have s5 : ¬ o > 1000 := by omega
        clear hso s0
        go_upto_region 16 with fail
        by_cases hf0 : f = 0
        · subst hf0
          obtain ⟨hb, ⟨z0, z1⟩, ⟨c0, c1⟩, hall⟩ := crs_ok HCF.out
          have HALL := Go.Lib.hid hall
          clear hall hnc hnf hns hnt
          have HLB := Go.Lib.hid (fun k h0 h1 => len_setC_bd (w := x) (r := r) (k := k) hb h0 h1)
          have HLK : Hid (∀ (k : Int) (h0 : 0 ≤ k) (h1 : k < x.h.n / 4) (w0 : World), Calls Try.prog 16 #[wheelV (setC x k), .bool r] w0 (IsV w0 (.tuple #[.int .i64 (spLen (setC x k) r), .int .i64 0]))) := fun k h0 h1 w0 => by have h := implSpokeLength (setC x k) r w0; rw [lenA_setC hb h0 h1] at h; exact h
          have HOwn := Go.Lib.hid (HLK.out c c0 c1)
          obtain ⟨o0, o1⟩ := HLB.out c c0 c1
          obtain ⟨⟨n0, n1, -⟩, -⟩ := wheel_bd hb
          have hq : x.h.n.tdiv 4 = x.h.n / 4 := Int.tdiv_eq_ediv_of_nonneg (by omega)
          obtain ⟨K, hK⟩ : ∃ K, K = (x.h.n / 4).toNat := ⟨_, rfl⟩
          have hK2 : x.h.n / 4 = (K : Int) := by omega
          have hK3 : K ≤ 12 := by omega
          rw [hK2] at hq HALL HLB HLK
          have HC2 : Hid ((0 : Int) ≤ c ∧ c < (K : Int)) := ⟨c0, by omega⟩
          clear hK hK2 hb n0 n1 c0 c1
          have k11_0_0 := K11_0.at_ 0 _ rfl
          have k11_0_1 := K11_0.at_ 1 _ rfl
          have k11_0_2 := K11_0.at_ 2 _ rfl
          have k11_0_3 := K11_0.at_ 3 _ rfl
          have k11_0_4 := K11_0.at_ 4 _ rfl
          have k11_0_5 := K11_0.at_ 5 _ rfl
          have k11_0_6 := K11_0.at_ 6 _ rfl
          have k11_0_7 := K11_0.at_ 7 _ rfl
          have k11_0_8 := K11_0.at_ 8 _ rfl
          have k11_0_f := K11_0.fr
          have k11_0_l := K11_0.lt
          go_upto_region 19 with fail
          have nq := K11_0.lt
          have ql := B11.size
          clear k11_0_0 k11_0_1 k11_0_2 k11_0_3 k11_0_4 k11_0_5 k11_0_6 k11_0_7 k11_0_8 k11_0_f k11_0_l
          refine wp_gen (R := fun w' => Box w' W1.heap.size [.int .i64 x.h.n, .int .i64 x.h.l, .int .i64 x.h.r, .int .i64 x.h.a, .int .i64 x.h.b, .int .i64 x.r.n, .int .i64 x.r.d, .int .i64 x.r.o, .int .i64 x.c] ∧ Box w' W11.heap.size [.int .i64 x.h.n, .int .i64 x.h.l, .int .i64 x.h.r, .int .i64 x.h.a, .int .i64 x.h.b, .int .i64 x.r.n, .int .i64 x.r.d, .int .i64 x.r.o, .int .i64 x.c] ∧ Below w.heap.size w w') ⟨K11_0.alloc _, Box.new rfl rfl, B11.alloc B11.size _⟩ ?_
          rintro W12 ⟨K12_0, K12_1, B12⟩
          clear K11_0 B11
          obtain ⟨q0, hq0⟩ : ∃ q, q = W1.heap.size := ⟨_, rfl⟩
          rw [← hq0] at nq K12_0 ⊢
          clear hq0
          obtain ⟨qb, hqb⟩ : ∃ q, q = W11.heap.size := ⟨_, rfl⟩
          rw [← hqb] at nq ql K12_1 ⊢
          clear hqb
          have k12_1_0 := K12_1.at_ 0 _ rfl
          have k12_1_1 := K12_1.at_ 1 _ rfl
          have k12_1_2 := K12_1.at_ 2 _ rfl
          have k12_1_3 := K12_1.at_ 3 _ rfl
          have k12_1_4 := K12_1.at_ 4 _ rfl
          have k12_1_5 := K12_1.at_ 5 _ rfl
          have k12_1_6 := K12_1.at_ 6 _ rfl
          have k12_1_7 := K12_1.at_ 7 _ rfl
          have k12_1_8 := K12_1.at_ 8 _ rfl
          have k12_1_f := K12_1.fr
          have k12_1_l := K12_1.lt
          go_upto_region 20 with fail
          refine wp_gen (R := fun w' => Box w' q0 [.int .i64 x.h.n, .int .i64 x.h.l, .int .i64 x.h.r, .int .i64 x.h.a, .int .i64 x.h.b, .int .i64 x.r.n, .int .i64 x.r.d, .int .i64 x.r.o, .int .i64 x.c] ∧ Box w' qb [.int .i64 x.h.n, .int .i64 x.h.l, .int .i64 x.h.r, .int .i64 x.h.a, .int .i64 x.h.b, .int .i64 x.r.n, .int .i64 x.r.d, .int .i64 x.r.o, .int .i64 c] ∧ Below w.heap.size w w') ⟨(K12_0.other (by simp <;> omega) _), (K12_1.set _ (by simp)), by go_grown⟩ ?_
          clear k12_1_0 k12_1_1 k12_1_2 k12_1_3 k12_1_4 k12_1_5 k12_1_6 k12_1_7 k12_1_8 k12_1_f k12_1_l
          rintro W13 ⟨K13_0, K13_1, B13⟩
          clear K12_0 K12_1 B12
          have k13_1_0 := K13_1.at_ 0 _ rfl
          have k13_1_1 := K13_1.at_ 1 _ rfl
          have k13_1_2 := K13_1.at_ 2 _ rfl
          have k13_1_3 := K13_1.at_ 3 _ rfl
          have k13_1_4 := K13_1.at_ 4 _ rfl
          have k13_1_5 := K13_1.at_ 5 _ rfl
          have k13_1_6 := K13_1.at_ 6 _ rfl
          have k13_1_7 := K13_1.at_ 7 _ rfl
          have k13_1_8 := K13_1.at_ 8 _ rfl
          have k13_1_f := K13_1.fr
          have k13_1_l := K13_1.lt
          go_wp2_with fail
          refine (HOwn.out _).mono ?_
          rintro _ W14 ⟨rfl, b14⟩
          have K14_0 := K13_0.below b14
          have K14_1 := K13_1.below b14
          clear k13_1_0 k13_1_1 k13_1_2 k13_1_3 k13_1_4 k13_1_5 k13_1_6 k13_1_7 k13_1_8 k13_1_f k13_1_l
          have B14 := upB B13 b14
          clear b14 K13_0 K13_1 B13
          generalize hO : spLen (setC x c) r = O at *
          clear hO
          go_wp2_with fail
          have C0 : Hid (Box W14 q0 [.int .i64 x.h.n, .int .i64 x.h.l, .int .i64 x.h.r, .int .i64 x.h.a, .int .i64 x.h.b, .int .i64 x.r.n, .int .i64 x.r.d, .int .i64 x.r.o, .int .i64 x.c] ∧ (∃ cc : Int, Box W14 qb [.int .i64 x.h.n, .int .i64 x.h.l, .int .i64 x.h.r, .int .i64 x.h.a, .int .i64 x.h.b, .int .i64 x.r.n, .int .i64 x.r.d, .int .i64 x.r.o, .int .i64 cc]) ∧ Below w.heap.size w W14) := ⟨K14_0, ⟨_, K14_1⟩, B14⟩
          clear K14_0 K14_1 B14 HOwn
          go_loopw [22, 23, 24] (fun i _ _ wr => ∃ k : Nat, k ≤ K ∧ i = .int .i64 k ∧ Box wr q0 [.int .i64 x.h.n, .int .i64 x.h.l, .int .i64 x.h.r, .int .i64 x.h.a, .int .i64 x.h.b, .int .i64 x.r.n, .int .i64 x.r.d, .int .i64 x.r.o, .int .i64 x.c] ∧ (∃ cc : Int, Box wr qb [.int .i64 x.h.n, .int .i64 x.h.l, .int .i64 x.h.r, .int .i64 x.h.a, .int .i64 x.h.b, .int .i64 x.r.n, .int .i64 x.r.d, .int .i64 x.r.o, .int .i64 cc]) ∧ Below w.heap.size w wr) (fun i _ _ _ => K - (intOf i).toNat)
          case atStart => exact ⟨0, Nat.zero_le _, rfl, C0.out⟩
          case round =>
            clear C0
            obtain ⟨k, hk, rfl, K0, ⟨cc, K1⟩, B0⟩ := hrel
            by_cases hlt : k < K
            · have hltI : (k : Int) < (K : Int) := by omega
              have HLK1 := Go.Lib.hid (HLK.out k (by omega) hltI)
              obtain ⟨l0, l1⟩ := HLB.out k (by omega) hltI
              have hno := HALL.out k (by omega) hltI
              have k0_0 := K0.at_ 0 _ rfl
              have k0_1 := K0.at_ 1 _ rfl
              have k0_2 := K0.at_ 2 _ rfl
              have k0_3 := K0.at_ 3 _ rfl
              have k0_4 := K0.at_ 4 _ rfl
              have k0_5 := K0.at_ 5 _ rfl
              have k0_6 := K0.at_ 6 _ rfl
              have k0_7 := K0.at_ 7 _ rfl
              have k0_8 := K0.at_ 8 _ rfl
              have k0_f := K0.fr
              have k0_l := K0.lt
              have k1_0 := K1.at_ 0 _ rfl
              have k1_1 := K1.at_ 1 _ rfl
              have k1_2 := K1.at_ 2 _ rfl
              have k1_3 := K1.at_ 3 _ rfl
              have k1_4 := K1.at_ 4 _ rfl
              have k1_5 := K1.at_ 5 _ rfl
              have k1_6 := K1.at_ 6 _ rfl
              have k1_7 := K1.at_ 7 _ rfl
              have k1_8 := K1.at_ 8 _ rfl
              have k1_f := K1.fr
              have k1_l := K1.lt
              go_upto_region 25 with fail
              refine wp_gen (R := fun w' => Box w' q0 [.int .i64 x.h.n, .int .i64 x.h.l, .int .i64 x.h.r, .int .i64 x.h.a, .int .i64 x.h.b, .int .i64 x.r.n, .int .i64 x.r.d, .int .i64 x.r.o, .int .i64 x.c] ∧ Box w' qb [.int .i64 x.h.n, .int .i64 x.h.l, .int .i64 x.h.r, .int .i64 x.h.a, .int .i64 x.h.b, .int .i64 x.r.n, .int .i64 x.r.d, .int .i64 x.r.o, .int .i64 k] ∧ Below w.heap.size w w') ⟨(K0.other (by simp <;> omega) _), (K1.set _ (by simp)), by go_grown⟩ ?_
              clear k0_0 k0_1 k0_2 k0_3 k0_4 k0_5 k0_6 k0_7 k0_8 k0_f k0_l k1_0 k1_1 k1_2 k1_3 k1_4 k1_5 k1_6 k1_7 k1_8 k1_f k1_l
              rintro W1 ⟨K1_0, K1_1, B1⟩
              clear K0 K1
              have k1_1_0 := K1_1.at_ 0 _ rfl
              have k1_1_1 := K1_1.at_ 1 _ rfl
              have k1_1_2 := K1_1.at_ 2 _ rfl
              have k1_1_3 := K1_1.at_ 3 _ rfl
              have k1_1_4 := K1_1.at_ 4 _ rfl
              have k1_1_5 := K1_1.at_ 5 _ rfl
              have k1_1_6 := K1_1.at_ 6 _ rfl
              have k1_1_7 := K1_1.at_ 7 _ rfl
              have k1_1_8 := K1_1.at_ 8 _ rfl
              have k1_1_f := K1_1.fr
              have k1_1_l := K1_1.lt
              go_wp2_with fail
              refine (HLK1.out _).mono ?_
              rintro _ W2 ⟨rfl, b2⟩
              have K2_0 := K1_0.below b2
              have K2_1 := K1_1.below b2
              clear k1_1_0 k1_1_1 k1_1_2 k1_1_3 k1_1_4 k1_1_5 k1_1_6 k1_1_7 k1_1_8 k1_1_f k1_1_l
              have B2 := upB B1 b2
              clear b2 K1_0 K1_1 B1
              generalize hL : spLen (setC x k) r = L at *
              clear hL HLK1
              have e1 : IntKind.i64.wrap (L - z) = L - z := IntWalk.i64_in _ (by omega)
              have e2 : IntKind.i64.wrap (z - L) = z - L := IntWalk.i64_in _ (by omega)
              have e3 : IntKind.i64.wrap (O - z) = O - z := IntWalk.i64_in _ (by omega)
              have e4 : IntKind.i64.wrap (z - O) = z - O := IntWalk.i64_in _ (by omega)
              have e5 : IntKind.i64.wrap ((k : Int) + 1) = (k : Int) + 1 := IntWalk.i64_in _ (by omega)
              have hmax : ∀ a b : Int, (if a < b then b else a) = max a b := fun a b => by split <;> omega
              go_wp2_with fail
              go_roundw
              case rel => exact ⟨k + 1, by omega, by go_num, K2_0, ⟨_, K2_1⟩, B2⟩
              case measure => simp [intOf]; omega
            · obtain rfl : k = K := by omega
              have hltI : ¬ (k : Int) < (k : Int) := by omega
              have k0_0 := K0.at_ 0 _ rfl
              have k0_1 := K0.at_ 1 _ rfl
              have k0_2 := K0.at_ 2 _ rfl
              have k0_3 := K0.at_ 3 _ rfl
              have k0_4 := K0.at_ 4 _ rfl
              have k0_5 := K0.at_ 5 _ rfl
              have k0_6 := K0.at_ 6 _ rfl
              have k0_7 := K0.at_ 7 _ rfl
              have k0_8 := K0.at_ 8 _ rfl
              have k0_f := K0.fr
              have k0_l := K0.lt
              go_wp2_with fail
              go_ret
              exact ⟨rfl, B0⟩
        · have hf1 : (f != 0) = true := by simpa using hf0
          go_wp2_with fail
          go_ret
          exact ⟨rfl, B11⟩
      · have s4 : ¬ s > 1000 := by omega
        clear hso s0
        go_upto_region 16 with fail
        by_cases hf0 : f = 0
        · subst hf0
          obtain ⟨hb, ⟨z0, z1⟩, ⟨c0, c1⟩, hall⟩ := crs_ok HCF.out
          have HALL := Go.Lib.hid hall
          clear hall hnc hnf hns hnt
          have HLB := Go.Lib.hid (fun k h0 h1 => len_setC_bd (w := x) (r := r) (k := k) hb h0 h1)
          have HLK : Hid (∀ (k : Int) (h0 : 0 ≤ k) (h1 : k < x.h.n / 4) (w0 : World), Calls Try.prog 16 #[wheelV (setC x k), .bool r] w0 (IsV w0 (.tuple #[.int .i64 (spLen (setC x k) r), .int .i64 0]))) := fun k h0 h1 w0 => by have h := implSpokeLength (setC x k) r w0; rw [lenA_setC hb h0 h1] at h; exact h
          have HOwn := Go.Lib.hid (HLK.out c c0 c1)
          obtain ⟨o0, o1⟩ := HLB.out c c0 c1
          obtain ⟨⟨n0, n1, -⟩, -⟩ := wheel_bd hb
          have hq : x.h.n.tdiv 4 = x.h.n / 4 := Int.tdiv_eq_ediv_of_nonneg (by omega)
          obtain ⟨K, hK⟩ : ∃ K, K = (x.h.n / 4).toNat := ⟨_, rfl⟩
          have hK2 : x.h.n / 4 = (K : Int) := by omega
          have hK3 : K ≤ 12 := by omega
          rw [hK2] at hq HALL HLB HLK
          have HC2 : Hid ((0 : Int) ≤ c ∧ c < (K : Int)) := ⟨c0, by omega⟩
          clear hK hK2 hb n0 n1 c0 c1
          have k11_0_0 := K11_0.at_ 0 _ rfl
          have k11_0_1 := K11_0.at_ 1 _ rfl
          have k11_0_2 := K11_0.at_ 2 _ rfl
          have k11_0_3 := K11_0.at_ 3 _ rfl
          have k11_0_4 := K11_0.at_ 4 _ rfl
          have k11_0_5 := K11_0.at_ 5 _ rfl
          have k11_0_6 := K11_0.at_ 6 _ rfl
          have k11_0_7 := K11_0.at_ 7 _ rfl
          have k11_0_8 := K11_0.at_ 8 _ rfl
          have k11_0_f := K11_0.fr
          have k11_0_l := K11_0.lt
          go_upto_region 19 with fail
          have nq := K11_0.lt
          have ql := B11.size
          clear k11_0_0 k11_0_1 k11_0_2 k11_0_3 k11_0_4 k11_0_5 k11_0_6 k11_0_7 k11_0_8 k11_0_f k11_0_l
          refine wp_gen (R := fun w' => Box w' W1.heap.size [.int .i64 x.h.n, .int .i64 x.h.l, .int .i64 x.h.r, .int .i64 x.h.a, .int .i64 x.h.b, .int .i64 x.r.n, .int .i64 x.r.d, .int .i64 x.r.o, .int .i64 x.c] ∧ Box w' W11.heap.size [.int .i64 x.h.n, .int .i64 x.h.l, .int .i64 x.h.r, .int .i64 x.h.a, .int .i64 x.h.b, .int .i64 x.r.n, .int .i64 x.r.d, .int .i64 x.r.o, .int .i64 x.c] ∧ Below w.heap.size w w') ⟨K11_0.alloc _, Box.new rfl rfl, B11.alloc B11.size _⟩ ?_
          rintro W12 ⟨K12_0, K12_1, B12⟩
          clear K11_0 B11
          obtain ⟨q0, hq0⟩ : ∃ q, q = W1.heap.size := ⟨_, rfl⟩
          rw [← hq0] at nq K12_0 ⊢
          clear hq0
          obtain ⟨qb, hqb⟩ : ∃ q, q = W11.heap.size := ⟨_, rfl⟩
          rw [← hqb] at nq ql K12_1 ⊢
          clear hqb
          have k12_1_0 := K12_1.at_ 0 _ rfl
          have k12_1_1 := K12_1.at_ 1 _ rfl
          have k12_1_2 := K12_1.at_ 2 _ rfl
          have k12_1_3 := K12_1.at_ 3 _ rfl
          have k12_1_4 := K12_1.at_ 4 _ rfl
          have k12_1_5 := K12_1.at_ 5 _ rfl
          have k12_1_6 := K12_1.at_ 6 _ rfl
          have k12_1_7 := K12_1.at_ 7 _ rfl
          have k12_1_8 := K12_1.at_ 8 _ rfl
          have k12_1_f := K12_1.fr
          have k12_1_l := K12_1.lt
          go_upto_region 20 with fail
          refine wp_gen (R := fun w' => Box w' q0 [.int .i64 x.h.n, .int .i64 x.h.l, .int .i64 x.h.r, .int .i64 x.h.a, .int .i64 x.h.b, .int .i64 x.r.n, .int .i64 x.r.d, .int .i64 x.r.o, .int .i64 x.c] ∧ Box w' qb [.int .i64 x.h.n, .int .i64 x.h.l, .int .i64 x.h.r, .int .i64 x.h.a, .int .i64 x.h.b, .int .i64 x.r.n, .int .i64 x.r.d, .int .i64 x.r.o, .int .i64 c] ∧ Below w.heap.size w w') ⟨(K12_0.other (by simp <;> omega) _), (K12_1.set _ (by simp)), by go_grown⟩ ?_
          clear k12_1_0 k12_1_1 k12_1_2 k12_1_3 k12_1_4 k12_1_5 k12_1_6 k12_1_7 k12_1_8 k12_1_f k12_1_l
          rintro W13 ⟨K13_0, K13_1, B13⟩
          clear K12_0 K12_1 B12
          have k13_1_0 := K13_1.at_ 0 _ rfl
          have k13_1_1 := K13_1.at_ 1 _ rfl
          have k13_1_2 := K13_1.at_ 2 _ rfl
          have k13_1_3 := K13_1.at_ 3 _ rfl
          have k13_1_4 := K13_1.at_ 4 _ rfl
          have k13_1_5 := K13_1.at_ 5 _ rfl
          have k13_1_6 := K13_1.at_ 6 _ rfl
          have k13_1_7 := K13_1.at_ 7 _ rfl
          have k13_1_8 := K13_1.at_ 8 _ rfl
          have k13_1_f := K13_1.fr
          have k13_1_l := K13_1.lt
          go_wp2_with fail
          refine (HOwn.out _).mono ?_
          rintro _ W14 ⟨rfl, b14⟩
          have K14_0 := K13_0.below b14
          have K14_1 := K13_1.below b14
          clear k13_1_0 k13_1_1 k13_1_2 k13_1_3 k13_1_4 k13_1_5 k13_1_6 k13_1_7 k13_1_8 k13_1_f k13_1_l
          have B14 := upB B13 b14
          clear b14 K13_0 K13_1 B13
          generalize hO : spLen (setC x c) r = O at *
          clear hO
          go_wp2_with fail
          have C0 : Hid (Box W14 q0 [.int .i64 x.h.n, .int .i64 x.h.l, .int .i64 x.h.r, .int .i64 x.h.a, .int .i64 x.h.b, .int .i64 x.r.n, .int .i64 x.r.d, .int .i64 x.r.o, .int .i64 x.c] ∧ (∃ cc : Int, Box W14 qb [.int .i64 x.h.n, .int .i64 x.h.l, .int .i64 x.h.r, .int .i64 x.h.a, .int .i64 x.h.b, .int .i64 x.r.n, .int .i64 x.r.d, .int .i64 x.r.o, .int .i64 cc]) ∧ Below w.heap.size w W14) := ⟨K14_0, ⟨_, K14_1⟩, B14⟩
          clear K14_0 K14_1 B14 HOwn
          go_loopw [22, 23, 24] (fun i _ _ wr => ∃ k : Nat, k ≤ K ∧ i = .int .i64 k ∧ Box wr q0 [.int .i64 x.h.n, .int .i64 x.h.l, .int .i64 x.h.r, .int .i64 x.h.a, .int .i64 x.h.b, .int .i64 x.r.n, .int .i64 x.r.d, .int .i64 x.r.o, .int .i64 x.c] ∧ (∃ cc : Int, Box wr qb [.int .i64 x.h.n, .int .i64 x.h.l, .int .i64 x.h.r, .int .i64 x.h.a, .int .i64 x.h.b, .int .i64 x.r.n, .int .i64 x.r.d, .int .i64 x.r.o, .int .i64 cc]) ∧ Below w.heap.size w wr) (fun i _ _ _ => K - (intOf i).toNat)
          case atStart => exact ⟨0, Nat.zero_le _, rfl, C0.out⟩
          case round =>
            clear C0
            obtain ⟨k, hk, rfl, K0, ⟨cc, K1⟩, B0⟩ := hrel
            by_cases hlt : k < K
            · have hltI : (k : Int) < (K : Int) := by omega
              have HLK1 := Go.Lib.hid (HLK.out k (by omega) hltI)
              obtain ⟨l0, l1⟩ := HLB.out k (by omega) hltI
              have hno := HALL.out k (by omega) hltI
              have k0_0 := K0.at_ 0 _ rfl
              have k0_1 := K0.at_ 1 _ rfl
              have k0_2 := K0.at_ 2 _ rfl
              have k0_3 := K0.at_ 3 _ rfl
              have k0_4 := K0.at_ 4 _ rfl
              have k0_5 := K0.at_ 5 _ rfl
              have k0_6 := K0.at_ 6 _ rfl
              have k0_7 := K0.at_ 7 _ rfl
              have k0_8 := K0.at_ 8 _ rfl
              have k0_f := K0.fr
              have k0_l := K0.lt
              have k1_0 := K1.at_ 0 _ rfl
              have k1_1 := K1.at_ 1 _ rfl
              have k1_2 := K1.at_ 2 _ rfl
              have k1_3 := K1.at_ 3 _ rfl
              have k1_4 := K1.at_ 4 _ rfl
              have k1_5 := K1.at_ 5 _ rfl
              have k1_6 := K1.at_ 6 _ rfl
              have k1_7 := K1.at_ 7 _ rfl
              have k1_8 := K1.at_ 8 _ rfl
              have k1_f := K1.fr
              have k1_l := K1.lt
              go_upto_region 25 with fail
              refine wp_gen (R := fun w' => Box w' q0 [.int .i64 x.h.n, .int .i64 x.h.l, .int .i64 x.h.r, .int .i64 x.h.a, .int .i64 x.h.b, .int .i64 x.r.n, .int .i64 x.r.d, .int .i64 x.r.o, .int .i64 x.c] ∧ Box w' qb [.int .i64 x.h.n, .int .i64 x.h.l, .int .i64 x.h.r, .int .i64 x.h.a, .int .i64 x.h.b, .int .i64 x.r.n, .int .i64 x.r.d, .int .i64 x.r.o, .int .i64 k] ∧ Below w.heap.size w w') ⟨(K0.other (by simp <;> omega) _), (K1.set _ (by simp)), by go_grown⟩ ?_
              clear k0_0 k0_1 k0_2 k0_3 k0_4 k0_5 k0_6 k0_7 k0_8 k0_f k0_l k1_0 k1_1 k1_2 k1_3 k1_4 k1_5 k1_6 k1_7 k1_8 k1_f k1_l
              rintro W1 ⟨K1_0, K1_1, B1⟩
              clear K0 K1
              have k1_1_0 := K1_1.at_ 0 _ rfl
              have k1_1_1 := K1_1.at_ 1 _ rfl
              have k1_1_2 := K1_1.at_ 2 _ rfl
              have k1_1_3 := K1_1.at_ 3 _ rfl
              have k1_1_4 := K1_1.at_ 4 _ rfl
              have k1_1_5 := K1_1.at_ 5 _ rfl
              have k1_1_6 := K1_1.at_ 6 _ rfl
              have k1_1_7 := K1_1.at_ 7 _ rfl
              have k1_1_8 := K1_1.at_ 8 _ rfl
              have k1_1_f := K1_1.fr
              have k1_1_l := K1_1.lt
              go_wp2_with fail
              refine (HLK1.out _).mono ?_
              rintro _ W2 ⟨rfl, b2⟩
              have K2_0 := K1_0.below b2
              have K2_1 := K1_1.below b2
              clear k1_1_0 k1_1_1 k1_1_2 k1_1_3 k1_1_4 k1_1_5 k1_1_6 k1_1_7 k1_1_8 k1_1_f k1_1_l
              have B2 := upB B1 b2
              clear b2 K1_0 K1_1 B1
              generalize hL : spLen (setC x k) r = L at *
              clear hL HLK1
              have e1 : IntKind.i64.wrap (L - z) = L - z := IntWalk.i64_in _ (by omega)
              have e2 : IntKind.i64.wrap (z - L) = z - L := IntWalk.i64_in _ (by omega)
              have e3 : IntKind.i64.wrap (O - z) = O - z := IntWalk.i64_in _ (by omega)
              have e4 : IntKind.i64.wrap (z - O) = z - O := IntWalk.i64_in _ (by omega)
              have e5 : IntKind.i64.wrap ((k : Int) + 1) = (k : Int) + 1 := IntWalk.i64_in _ (by omega)
              have hmax : ∀ a b : Int, (if a < b then b else a) = max a b := fun a b => by split <;> omega
              go_wp2_with fail
              go_roundw
              case rel => exact ⟨k + 1, by omega, by go_num, K2_0, ⟨_, K2_1⟩, B2⟩
              case measure => simp [intOf]; omega
            · obtain rfl : k = K := by omega
              have hltI : ¬ (k : Int) < (k : Int) := by omega
              have k0_0 := K0.at_ 0 _ rfl
              have k0_1 := K0.at_ 1 _ rfl
              have k0_2 := K0.at_ 2 _ rfl
              have k0_3 := K0.at_ 3 _ rfl
              have k0_4 := K0.at_ 4 _ rfl
              have k0_5 := K0.at_ 5 _ rfl
              have k0_6 := K0.at_ 6 _ rfl
              have k0_7 := K0.at_ 7 _ rfl
              have k0_8 := K0.at_ 8 _ rfl
              have k0_f := K0.fr
              have k0_l := K0.lt
              go_wp2_with fail
              go_ret
              exact ⟨rfl, B0⟩
        · have hf1 : (f != 0) = true := by simpa using hf0
          go_wp2_with fail
          go_ret
          exact ⟨rfl, B11⟩
    · have ht1 : (t == 0) = false := by simpa using ht0
      clear HST HI2 HS2
      go_upto_region 16 with fail
      by_cases hf0 : f = 0
      · subst hf0
        obtain ⟨hb, ⟨z0, z1⟩, ⟨c0, c1⟩, hall⟩ := crs_ok HCF.out
        have HALL := Go.Lib.hid hall
        clear hall hnc hnf hns hnt
        have HLB := Go.Lib.hid (fun k h0 h1 => len_setC_bd (w := x) (r := r) (k := k) hb h0 h1)
        have HLK : Hid (∀ (k : Int) (h0 : 0 ≤ k) (h1 : k < x.h.n / 4) (w0 : World), Calls Try.prog 16 #[wheelV (setC x k), .bool r] w0 (IsV w0 (.tuple #[.int .i64 (spLen (setC x k) r), .int .i64 0]))) := fun k h0 h1 w0 => by have h := implSpokeLength (setC x k) r w0; rw [lenA_setC hb h0 h1] at h; exact h
        have HOwn := Go.Lib.hid (HLK.out c c0 c1)
        obtain ⟨o0, o1⟩ := HLB.out c c0 c1
        obtain ⟨⟨n0, n1, -⟩, -⟩ := wheel_bd hb
        have hq : x.h.n.tdiv 4 = x.h.n / 4 := Int.tdiv_eq_ediv_of_nonneg (by omega)
        obtain ⟨K, hK⟩ : ∃ K, K = (x.h.n / 4).toNat := ⟨_, rfl⟩
        have hK2 : x.h.n / 4 = (K : Int) := by omega
        have hK3 : K ≤ 12 := by omega
        rw [hK2] at hq HALL HLB HLK
        have HC2 : Hid ((0 : Int) ≤ c ∧ c < (K : Int)) := ⟨c0, by omega⟩
        clear hK hK2 hb n0 n1 c0 c1
        have k8_0_0 := K8_0.at_ 0 _ rfl
        have k8_0_1 := K8_0.at_ 1 _ rfl
        have k8_0_2 := K8_0.at_ 2 _ rfl
        have k8_0_3 := K8_0.at_ 3 _ rfl
        have k8_0_4 := K8_0.at_ 4 _ rfl
        have k8_0_5 := K8_0.at_ 5 _ rfl
        have k8_0_6 := K8_0.at_ 6 _ rfl
        have k8_0_7 := K8_0.at_ 7 _ rfl
        have k8_0_8 := K8_0.at_ 8 _ rfl
        have k8_0_f := K8_0.fr
        have k8_0_l := K8_0.lt
        go_upto_region 19 with fail
        have nq := K8_0.lt
        have ql := B8.size
        clear k8_0_0 k8_0_1 k8_0_2 k8_0_3 k8_0_4 k8_0_5 k8_0_6 k8_0_7 k8_0_8 k8_0_f k8_0_l
        refine wp_gen (R := fun w' => Box w' W1.heap.size [.int .i64 x.h.n, .int .i64 x.h.l, .int .i64 x.h.r, .int .i64 x.h.a, .int .i64 x.h.b, .int .i64 x.r.n, .int .i64 x.r.d, .int .i64 x.r.o, .int .i64 x.c] ∧ Box w' W8.heap.size [.int .i64 x.h.n, .int .i64 x.h.l, .int .i64 x.h.r, .int .i64 x.h.a, .int .i64 x.h.b, .int .i64 x.r.n, .int .i64 x.r.d, .int .i64 x.r.o, .int .i64 x.c] ∧ Below w.heap.size w w') ⟨K8_0.alloc _, Box.new rfl rfl, B8.alloc B8.size _⟩ ?_
        rintro W9 ⟨K9_0, K9_1, B9⟩
        clear K8_0 B8
        obtain ⟨q0, hq0⟩ : ∃ q, q = W1.heap.size := ⟨_, rfl⟩
        rw [← hq0] at nq K9_0 ⊢
        clear hq0
        obtain ⟨qb, hqb⟩ : ∃ q, q = W8.heap.size := ⟨_, rfl⟩
        rw [← hqb] at nq ql K9_1 ⊢
        clear hqb
        have k9_1_0 := K9_1.at_ 0 _ rfl
        have k9_1_1 := K9_1.at_ 1 _ rfl
        have k9_1_2 := K9_1.at_ 2 _ rfl
        have k9_1_3 := K9_1.at_ 3 _ rfl
        have k9_1_4 := K9_1.at_ 4 _ rfl
        have k9_1_5 := K9_1.at_ 5 _ rfl
        have k9_1_6 := K9_1.at_ 6 _ rfl
        have k9_1_7 := K9_1.at_ 7 _ rfl
        have k9_1_8 := K9_1.at_ 8 _ rfl
        have k9_1_f := K9_1.fr
        have k9_1_l := K9_1.lt
        go_upto_region 20 with fail
        refine wp_gen (R := fun w' => Box w' q0 [.int .i64 x.h.n, .int .i64 x.h.l, .int .i64 x.h.r, .int .i64 x.h.a, .int .i64 x.h.b, .int .i64 x.r.n, .int .i64 x.r.d, .int .i64 x.r.o, .int .i64 x.c] ∧ Box w' qb [.int .i64 x.h.n, .int .i64 x.h.l, .int .i64 x.h.r, .int .i64 x.h.a, .int .i64 x.h.b, .int .i64 x.r.n, .int .i64 x.r.d, .int .i64 x.r.o, .int .i64 c] ∧ Below w.heap.size w w') ⟨(K9_0.other (by simp <;> omega) _), (K9_1.set _ (by simp)), by go_grown⟩ ?_
        clear k9_1_0 k9_1_1 k9_1_2 k9_1_3 k9_1_4 k9_1_5 k9_1_6 k9_1_7 k9_1_8 k9_1_f k9_1_l
        rintro W10 ⟨K10_0, K10_1, B10⟩
        clear K9_0 K9_1 B9
        have k10_1_0 := K10_1.at_ 0 _ rfl
        have k10_1_1 := K10_1.at_ 1 _ rfl
        have k10_1_2 := K10_1.at_ 2 _ rfl
        have k10_1_3 := K10_1.at_ 3 _ rfl
        have k10_1_4 := K10_1.at_ 4 _ rfl
        have k10_1_5 := K10_1.at_ 5 _ rfl
        have k10_1_6 := K10_1.at_ 6 _ rfl
        have k10_1_7 := K10_1.at_ 7 _ rfl
        have k10_1_8 := K10_1.at_ 8 _ rfl
        have k10_1_f := K10_1.fr
        have k10_1_l := K10_1.lt
        go_wp2_with fail
        refine (HOwn.out _).mono ?_
        rintro _ W11 ⟨rfl, b11⟩
        have K11_0 := K10_0.below b11
        have K11_1 := K10_1.below b11
        clear k10_1_0 k10_1_1 k10_1_2 k10_1_3 k10_1_4 k10_1_5 k10_1_6 k10_1_7 k10_1_8 k10_1_f k10_1_l
        have B11 := upB B10 b11
        clear b11 K10_0 K10_1 B10
        generalize hO : spLen (setC x c) r = O at *
        clear hO
        go_wp2_with fail
        have C0 : Hid (Box W11 q0 [.int .i64 x.h.n, .int .i64 x.h.l, .int .i64 x.h.r, .int .i64 x.h.a, .int .i64 x.h.b, .int .i64 x.r.n, .int .i64 x.r.d, .int .i64 x.r.o, .int .i64 x.c] ∧ (∃ cc : Int, Box W11 qb [.int .i64 x.h.n, .int .i64 x.h.l, .int .i64 x.h.r, .int .i64 x.h.a, .int .i64 x.h.b, .int .i64 x.r.n, .int .i64 x.r.d, .int .i64 x.r.o, .int .i64 cc]) ∧ Below w.heap.size w W11) := ⟨K11_0, ⟨_, K11_1⟩, B11⟩
        clear K11_0 K11_1 B11 HOwn
        go_loopw [22, 23, 24] (fun i _ _ wr => ∃ k : Nat, k ≤ K ∧ i = .int .i64 k ∧ Box wr q0 [.int .i64 x.h.n, .int .i64 x.h.l, .int .i64 x.h.r, .int .i64 x.h.a, .int .i64 x.h.b, .int .i64 x.r.n, .int .i64 x.r.d, .int .i64 x.r.o, .int .i64 x.c] ∧ (∃ cc : Int, Box wr qb [.int .i64 x.h.n, .int .i64 x.h.l, .int .i64 x.h.r, .int .i64 x.h.a, .int .i64 x.h.b, .int .i64 x.r.n, .int .i64 x.r.d, .int .i64 x.r.o, .int .i64 cc]) ∧ Below w.heap.size w wr) (fun i _ _ _ => K - (intOf i).toNat)
        case atStart => exact ⟨0, Nat.zero_le _, rfl, C0.out⟩
        case round =>
          clear C0
          obtain ⟨k, hk, rfl, K0, ⟨cc, K1⟩, B0⟩ := hrel
          by_cases hlt : k < K
          · have hltI : (k : Int) < (K : Int) := by omega
            have HLK1 := Go.Lib.hid (HLK.out k (by omega) hltI)
            obtain ⟨l0, l1⟩ := HLB.out k (by omega) hltI
            have hno := HALL.out k (by omega) hltI
            have k0_0 := K0.at_ 0 _ rfl
            have k0_1 := K0.at_ 1 _ rfl
            have k0_2 := K0.at_ 2 _ rfl
            have k0_3 := K0.at_ 3 _ rfl
            have k0_4 := K0.at_ 4 _ rfl
            have k0_5 := K0.at_ 5 _ rfl
            have k0_6 := K0.at_ 6 _ rfl
            have k0_7 := K0.at_ 7 _ rfl
            have k0_8 := K0.at_ 8 _ rfl
            have k0_f := K0.fr
            have k0_l := K0.lt
            have k1_0 := K1.at_ 0 _ rfl
            have k1_1 := K1.at_ 1 _ rfl
            have k1_2 := K1.at_ 2 _ rfl
            have k1_3 := K1.at_ 3 _ rfl
            have k1_4 := K1.at_ 4 _ rfl
            have k1_5 := K1.at_ 5 _ rfl
            have k1_6 := K1.at_ 6 _ rfl
            have k1_7 := K1.at_ 7 _ rfl
            have k1_8 := K1.at_ 8 _ rfl
            have k1_f := K1.fr
            have k1_l := K1.lt
            go_upto_region 25 with fail
            refine wp_gen (R := fun w' => Box w' q0 [.int .i64 x.h.n, .int .i64 x.h.l, .int .i64 x.h.r, .int .i64 x.h.a, .int .i64 x.h.b, .int .i64 x.r.n, .int .i64 x.r.d, .int .i64 x.r.o, .int .i64 x.c] ∧ Box w' qb [.int .i64 x.h.n, .int .i64 x.h.l, .int .i64 x.h.r, .int .i64 x.h.a, .int .i64 x.h.b, .int .i64 x.r.n, .int .i64 x.r.d, .int .i64 x.r.o, .int .i64 k] ∧ Below w.heap.size w w') ⟨(K0.other (by simp <;> omega) _), (K1.set _ (by simp)), by go_grown⟩ ?_
            clear k0_0 k0_1 k0_2 k0_3 k0_4 k0_5 k0_6 k0_7 k0_8 k0_f k0_l k1_0 k1_1 k1_2 k1_3 k1_4 k1_5 k1_6 k1_7 k1_8 k1_f k1_l
            rintro W1 ⟨K1_0, K1_1, B1⟩
            clear K0 K1
            have k1_1_0 := K1_1.at_ 0 _ rfl
            have k1_1_1 := K1_1.at_ 1 _ rfl
            have k1_1_2 := K1_1.at_ 2 _ rfl
            have k1_1_3 := K1_1.at_ 3 _ rfl
            have k1_1_4 := K1_1.at_ 4 _ rfl
            have k1_1_5 := K1_1.at_ 5 _ rfl
            have k1_1_6 := K1_1.at_ 6 _ rfl
            have k1_1_7 := K1_1.at_ 7 _ rfl
            have k1_1_8 := K1_1.at_ 8 _ rfl
            have k1_1_f := K1_1.fr
            have k1_1_l := K1_1.lt
            go_wp2_with fail
            refine (HLK1.out _).mono ?_
            rintro _ W2 ⟨rfl, b2⟩
            have K2_0 := K1_0.below b2
            have K2_1 := K1_1.below b2
            clear k1_1_0 k1_1_1 k1_1_2 k1_1_3 k1_1_4 k1_1_5 k1_1_6 k1_1_7 k1_1_8 k1_1_f k1_1_l
            have B2 := upB B1 b2
            clear b2 K1_0 K1_1 B1
            generalize hL : spLen (setC x k) r = L at *
            clear hL HLK1
            have e1 : IntKind.i64.wrap (L - z) = L - z := IntWalk.i64_in _ (by omega)
            have e2 : IntKind.i64.wrap (z - L) = z - L := IntWalk.i64_in _ (by omega)
            have e3 : IntKind.i64.wrap (O - z) = O - z := IntWalk.i64_in _ (by omega)
            have e4 : IntKind.i64.wrap (z - O) = z - O := IntWalk.i64_in _ (by omega)
            have e5 : IntKind.i64.wrap ((k : Int) + 1) = (k : Int) + 1 := IntWalk.i64_in _ (by omega)
            have hmax : ∀ a b : Int, (if a < b then b else a) = max a b := fun a b => by split <;> omega
            go_wp2_with fail
            go_roundw
            case rel => exact ⟨k + 1, by omega, by go_num, K2_0, ⟨_, K2_1⟩, B2⟩
            case measure => simp [intOf]; omega
          · obtain rfl : k = K := by omega
            have hltI : ¬ (k : Int) < (k : Int) := by omega
            have k0_0 := K0.at_ 0 _ rfl
            have k0_1 := K0.at_ 1 _ rfl
            have k0_2 := K0.at_ 2 _ rfl
            have k0_3 := K0.at_ 3 _ rfl
            have k0_4 := K0.at_ 4 _ rfl
            have k0_5 := K0.at_ 5 _ rfl
            have k0_6 := K0.at_ 6 _ rfl
            have k0_7 := K0.at_ 7 _ rfl
            have k0_8 := K0.at_ 8 _ rfl
            have k0_f := K0.fr
            have k0_l := K0.lt
            go_wp2_with fail
            go_ret
            exact ⟨rfl, B0⟩
      · have hf1 : (f != 0) = true := by simpa using hf0
        go_wp2_with fail
        go_ret
        exact ⟨rfl, B8⟩

set_option maxRecDepth 100000 in
theorem lifted (os : Os) (started : os.Started) (H : Type) (enc : TypeId × Value → H) :
    ReturnsInHanded {} Try.checked os 5 .any (Rows.fnSharesSpec.pre6 enc Try.prog Try.f5 Rows.fnSharesRow.domain false) (Rows.fnSharesSpec.post enc Try.prog Try.f5 false true false false) := by
  refine returnsInHanded_of_change_sized (C := Try.checked) own started (by kernel_rfl) Try.func5
    (ChangeSpec.witness6 (enc := enc) (C := Try.checked) false ⟨#[], #[.slice none 0 0], []⟩ 8 (by kernel_rfl) (by kernel_rfl) (by kernel_rfl) (by kernel_rfl)) ?_
  intro W base args ds gs before hval0 hW hcnd hsz0 _
  have hsz : (DataW.weightsEach Try.prog (Try.f5.params.toList ++ Rows.fnSharesSpec.plain.varTypes Try.prog) (ds ++ gs)).all (· ≤ reachBytes) = true := hsz0
  clear hsz0
  have hval : ∀ (j : Nat) t v, Try.f5.params[j]? = some t → args[j]? = some v → Value.okWide Try.prog W .any base t v := hval0
  clear hval0
  have hW' := hW
  obtain ⟨p, q, hA0, hV, rfl, hfz, hnd⟩ := hW
  have hA : DataW.TrodAll enc Try.prog W 0 (fun _ => true) true Try.f5.params.toList args.toList ds p := hA0
  rw [Try.params5] at hA hval hsz
  obtain ⟨v0, vs0, d0, ds0, p0, q0, hargs, rfl, rfl, h0, r0⟩ := trodAll_cons hA
  obtain ⟨rfl, rfl, rfl⟩ := trodAll_nil r0
  obtain rfl : args = #[v0] := by cases args; simp_all
  obtain ⟨rfl, rfl⟩ := trodVars_none hV
  obtain ⟨a0, len0, cap0, rfl⟩ := okWide_slice Try.underlying22 (hval 0 22 v0 rfl rfl)
  have k0 := h0
  have lt0 : ∀ x ∈ p0, x.block < W.heap.size := by obtain ⟨m, hm⟩ := k0; exact DataW.trod_lt m _ _ _ hm
  obtain ⟨⟨z0, rd0, sz0⟩, hlc0, hp0⟩ := open_list_bytes h0
  have reach0 : len0 * 1 ≤ 140737488351232 := by
    rcases hp0 with hp0 | ⟨E0, S0, rfl, hl0⟩
    · omega
    · have := sized_slice hsz (j := 0) (t := 22) (e := 5) rfl rfl Try.underlying22
      rw [show Try.prog.bytesOf 5 = 1 by kernel_rfl] at this
      simp only [reachBytes] at this
      omega
  clear hA0
  refine (walk a0 len0 cap0 z0 W rd0 reach0 sz0).mono fun e W' ⟨he, bel⟩ => ?_
  subst he
  exact ⟨_, rfl, _, _, _, [], _, [], hW', trodAll_mk1 (shut_bool Try.underlying4 _), (trodAll_cons_mk (Below.trod laidOut (by kernel_rfl) (of_decide_eq_true (by kernel_rfl)) k0 bel lt0) trodAll_mk0), rfl, bel.frame _, fun h => by cases h⟩

theorem over : Rows.fnSharesRow.holds Try.pinned (OpenSpec.ofChange Rows.fnSharesSpec) :=
  OpenClaim.holds_of_wide 5 Try.f5 rfl rfl rfl rfl rfl rfl rfl ⟨rfl, rfl, rfl, rfl, rfl⟩ rfl rfl rfl rfl rfl (by kernel_rfl) Try.func5 (by kernel_rfl)
    (of_decide_eq_true (by kernel_rfl)) (by unfold Func.isWrapper; first | (rw [if_pos (by decide +kernel)]; kernel_rfl) | (rw [if_neg (by decide +kernel)]; exact ⟨rfl, rfl⟩))
    (fun os started H enc _ => lifted os started H enc)

theorem proved : Rows.FnSharesSaid := over
end Go.Proofs.Ytabcbecmieolhaa.fnShares
