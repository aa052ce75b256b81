/- FnChosen holds: for every code, choices, spokes for a wheel and length ranges of the drawn inputs are as the model's; a chosen spoke is in its stock, near enough and the greatest that is; the range has the wheel's own length. -/
import Derived.Test.YtifblmcocikopabRows
import Derived.Test.YtifblmcocikopabSpokeImpl
import Derived.Test.YtifblmcocikopabDrawSp1
import Derived.Test.YtifblmcocikopabDrawSp3
import Derived.Test.YtifblmcocikopabBig
import Derived.Test.YtifblmcocikopabOpenB
import Derived.Test.YtifblmcocikopabBox
import Derived.Test.YtifblmcocikopabPlainSpoke5
import Derived.Test.YtifblmcocikopabHasInt
import Derived.WalkKit
import Derived.ProofKit
import Derived.OpenShut
import Derived.ShutString
import Derived.SizedLaws
namespace Go.Proofs.Ytifblmcocikopab.fnChosen
open Go.ChangeShapes Go.WideShapes Go.ChangeAt Go.RowKit
open Go.ChangeMaps (open_string shut_string)
set_option linter.unusedVariables false

theorem rdUp {W W1 : World} {A : Option Addr} {n : Nat} {xs : List Value} (h : Rd W 0 W.heap.size A n xs) (hb : Below W.heap.size W W1) : Rd W1 0 W1.heap.size A n xs := (h.below hb (Nat.le_refl _)).mono (Nat.le_refl _) hb.size
theorem below_of_drewN {W W1 : World} {d : Nat} (h : W1 = W.drewN d) : Below W.heap.size W W1 := by subst h; exact below_drewN (Below.refl _ _) d
theorem insideQ (n a b : Int) (w : World) (h1 : a ≤ n) (h2 : n ≤ b) : Calls Try.prog 17 #[.int .i64 n, .agg #[.int .i64 a, .int .i64 b]] w (IsV w (.bool true)) := by
  go_enter Try.func17, Try.ntmps17
  go_wp2_with fail
  go_ret
  exact ⟨rfl, by go_grown⟩
set_option maxRecDepth 100000 in
set_option maxHeartbeats 16000000 in
theorem walk (A : Option Addr) (n cap : Nat) (bs : List Int) (w : World) (h : Rd w 0 w.heap.size A n (byts bs)) (hn : n * 1 ≤ 140737488351232) (hs : ∀ z ∈ bs, 0 ≤ z ∧ z ≤ 255) :
    Calls Try.prog 3 #[.slice A n cap] w fun e w' => e = .returned (.bool true) ∧ Below w.heap.size w w' := by
  have HB := Go.Lib.hid (big_ A n cap w)
  by_cases hbig : (4096 : Int) < n
  · go_enter Try.func3, Try.ntmps3
    go_wp2_with fail
    refine HB.out.mono ?_
    rintro e w' ⟨rfl, rfl⟩
    go_wp2_with fail
    go_ret
    exact ⟨rfl, Below.refl _ _⟩
  · have hb2 := big_ A n cap w
    rw [decide_eq_false hbig] at hb2
    have HB2 := Go.Lib.hid hb2
    have HRD := Go.Lib.hid (fun w1 (hb : Below w.heap.size w w1) => (h.below hb (Nat.le_refl _)).mono (Nat.le_refl _) hb.size)
    clear hb2 HB hbig
    go_enter Try.func3, Try.ntmps3
    go_wp2_with fail
    refine HB2.out.mono ?_
    rintro e w' ⟨rfl, rfl⟩
    have B0 : Below w.heap.size w w := Below.refl _ _
    go_wp2_with fail
    refine (drawChooseSpoke A n cap bs _ (HRD.out _ B0) hs (by omega)).mono ?_
    rintro _ W1 ⟨zs, A1, c1, z, rfl, ho1, hm1, b1⟩
    have B1 := upB B0 b1
    clear b1  B0
    have R1 := Go.Lib.hid (ho1.rd.mono (Nat.zero_le _) (Nat.le_refl _))
    clear ho1
    obtain ⟨c, f, hcf⟩ : ∃ c f, choA zs z = (c, f) := ⟨_, _, rfl⟩
    have HI := Go.Lib.hid (fun w0 h0 => implChooseSpoke A1 zs.length c1 zs z 0 w0 h0 (by omega))
    have HS := Go.Lib.hid (fun w0 h0 => specChooseSpoke A1 zs.length c1 zs z 0 (World.heap w0).size w0 h0 (by omega))
    rw [hcf] at HI HS
    dsimp only [pairI] at HI HS
    have HCF := Go.Lib.hid hcf
    clear hcf
    have hnc : (c != c) = false := by simp
    have hnf : (f != f) = false := by simp
    go_wp2_with fail
    refine (HI.out _ R1.out).mono ?_
    rintro _ W2 ⟨rfl, b2⟩
    have R1 := Go.Lib.hid (rdUp R1.out b2)
    have B2 := upB B1 b2
    clear b2  B1
    go_wp2_with fail
    refine (HS.out _ R1.out).mono ?_
    rintro _ W3 ⟨rfl, d2, hd2⟩
    have b3 := below_of_drewN hd2
    clear hd2
    have R1 := Go.Lib.hid (rdUp R1.out b3)
    have B3 := upB B2 b3
    clear b3  B2
    clear HI HS
    go_wp2_with fail
    refine (drawSpokesFor A n cap bs _ (HRD.out _ B3) hs (by omega)).mono ?_
    rintro _ W4 ⟨x, ls, A2, c2, rfl, ho2, hm2, b4⟩
    have R1 := Go.Lib.hid (rdUp R1.out b4)
    have B4 := upB B3 b4
    clear b4  B3
    have R2 := Go.Lib.hid (ho2.rd.mono (Nat.zero_le _) (Nat.le_refl _))
    clear ho2
    go_upto_region 7 with fail
    refine wp_gen (R := fun w' => Box w' W4.heap.size [.int .i64 x.h.n, .int .i64 x.h.l, .int .i64 x.h.r, .int .i64 x.h.a, .int .i64 x.h.b, .int .i64 x.r.n, .int .i64 x.r.d, .int .i64 x.r.o, .int .i64 x.c] ∧ Rd w' 0 w'.heap.size A1 zs.length (ints zs) ∧ Rd w' 0 w'.heap.size A2 ls.length (ints ls) ∧ Below w.heap.size w w') ⟨Box.new rfl rfl, rdUp R1.out ((Below.refl _ _).alloc (Nat.le_refl _) _), rdUp R2.out ((Below.refl _ _).alloc (Nat.le_refl _) _), B4.alloc B4.size _⟩ ?_
    clear R1 R2 B4
    rintro W5 ⟨K5_0, R1_, R2_, B5⟩
    have R1 := Go.Lib.hid R1_
    clear R1_
    have R2 := Go.Lib.hid R2_
    clear R2_
    obtain ⟨a, b, e, hfo⟩ : ∃ a b e, forA x ls = (a, b, e) := ⟨_, _, _, rfl⟩
    have HI := Go.Lib.hid (fun w0 h0 => implSpokesFor x A2 ls.length c2 ls 0 w0 h0 (by omega))
    have HS := Go.Lib.hid (fun w0 h0 => specSpokesFor x A2 ls.length c2 ls 0 w0 h0 (by omega))
    rw [hfo] at HI HS
    dsimp only [tripI] at HI HS
    have HFO := Go.Lib.hid hfo
    clear hfo
    have hna : (a != a) = false := by simp
    have hnb : (b != b) = false := by simp
    have hne : (e != e) = false := by simp
    have k5_0_0 := K5_0.at_ 0 _ rfl
    have k5_0_1 := K5_0.at_ 1 _ rfl
    have k5_0_2 := K5_0.at_ 2 _ rfl
    have k5_0_3 := K5_0.at_ 3 _ rfl
    have k5_0_4 := K5_0.at_ 4 _ rfl
    have k5_0_5 := K5_0.at_ 5 _ rfl
    have k5_0_6 := K5_0.at_ 6 _ rfl
    have k5_0_7 := K5_0.at_ 7 _ rfl
    have k5_0_8 := K5_0.at_ 8 _ rfl
    have k5_0_f := K5_0.fr
    have k5_0_l := K5_0.lt
    go_wp2_with fail
    refine (HI.out _ R2.out).mono ?_
    rintro _ W6 ⟨rfl, b6⟩
    have K6_0 := K5_0.below b6
    clear k5_0_0 k5_0_1 k5_0_2 k5_0_3 k5_0_4 k5_0_5 k5_0_6 k5_0_7 k5_0_8 k5_0_f k5_0_l
    have R1 := Go.Lib.hid (rdUp R1.out b6)
    have R2 := Go.Lib.hid (rdUp R2.out b6)
    have B6 := upB B5 b6
    clear b6 K5_0 B5
    have k6_0_0 := K6_0.at_ 0 _ rfl
    have k6_0_1 := K6_0.at_ 1 _ rfl
    have k6_0_2 := K6_0.at_ 2 _ rfl
    have k6_0_3 := K6_0.at_ 3 _ rfl
    have k6_0_4 := K6_0.at_ 4 _ rfl
    have k6_0_5 := K6_0.at_ 5 _ rfl
    have k6_0_6 := K6_0.at_ 6 _ rfl
    have k6_0_7 := K6_0.at_ 7 _ rfl
    have k6_0_8 := K6_0.at_ 8 _ rfl
    have k6_0_f := K6_0.fr
    have k6_0_l := K6_0.lt
    go_wp2_with fail
    refine (HS.out _ R2.out).mono ?_
    rintro _ W7 ⟨rfl, b7⟩
    have K7_0 := K6_0.below b7
    clear k6_0_0 k6_0_1 k6_0_2 k6_0_3 k6_0_4 k6_0_5 k6_0_6 k6_0_7 k6_0_8 k6_0_f k6_0_l
    have R1 := Go.Lib.hid (rdUp R1.out b7)
    have R2 := Go.Lib.hid (rdUp R2.out b7)
    have B7 := upB B6 b7
    clear b7 K6_0 B6
    clear HI HS
    go_wp2_with fail
    refine (drawLengthRange A n cap bs _ (HRD.out _ B7) hs (by omega)).mono ?_
    rintro _ W8 ⟨y, sd, t, rfl, b8⟩
    have K8_0 := K7_0.below b8
    have R1 := Go.Lib.hid (rdUp R1.out b8)
    have R2 := Go.Lib.hid (rdUp R2.out b8)
    have B8 := upB B7 b8
    clear b8 K7_0 B7
    clear HRD HB2 hs h
    go_upto_region 10 with fail
    refine wp_gen (R := fun w' => Box w' W4.heap.size [.int .i64 x.h.n, .int .i64 x.h.l, .int .i64 x.h.r, .int .i64 x.h.a, .int .i64 x.h.b, .int .i64 x.r.n, .int .i64 x.r.d, .int .i64 x.r.o, .int .i64 x.c] ∧ Box w' W8.heap.size [.int .i64 y.h.n, .int .i64 y.h.l, .int .i64 y.h.r, .int .i64 y.h.a, .int .i64 y.h.b, .int .i64 y.r.n, .int .i64 y.r.d, .int .i64 y.r.o, .int .i64 y.c] ∧ Rd w' 0 w'.heap.size A1 zs.length (ints zs) ∧ Rd w' 0 w'.heap.size A2 ls.length (ints ls) ∧ Below w.heap.size w w') ⟨K8_0.alloc _, Box.new rfl rfl, rdUp R1.out ((Below.refl _ _).alloc (Nat.le_refl _) _), rdUp R2.out ((Below.refl _ _).alloc (Nat.le_refl _) _), B8.alloc B8.size _⟩ ?_
    clear K8_0 R1 R2 B8
    rintro W9 ⟨K9_0, K9_1, R1_, R2_, B9⟩
    have R1 := Go.Lib.hid R1_
    clear R1_
    have R2 := Go.Lib.hid R2_
    clear R2_
    obtain ⟨lo, hi, g, hrg⟩ : ∃ lo hi g, rngA y sd t = ((lo, hi), g) := ⟨_, _, _, rfl⟩
    have HI := Go.Lib.hid (fun w0 => implLengthRange y sd t w0)
    have HS := Go.Lib.hid (fun w0 => specLengthRange y sd t w0)
    rw [hrg] at HI HS
    dsimp only [rngV, ivP] at HI HS
    have HRG := Go.Lib.hid hrg
    clear hrg
    have hnl : (lo != lo) = false := by simp
    have hnh : (hi != hi) = false := by simp
    have hng : (g != g) = false := by simp
    have hql : (lo == lo) = true := by simp
    have hqh : (hi == hi) = true := by simp
    have k9_1_0 := K9_1.at_ 0 _ rfl
    have k9_1_1 := K9_1.at_ 1 _ rfl
    have k9_1_2 := K9_1.at_ 2 _ rfl
    have k9_1_3 := K9_1.at_ 3 _ rfl
    have k9_1_4 := K9_1.at_ 4 _ rfl
    have k9_1_5 := K9_1.at_ 5 _ rfl
    have k9_1_6 := K9_1.at_ 6 _ rfl
    have k9_1_7 := K9_1.at_ 7 _ rfl
    have k9_1_8 := K9_1.at_ 8 _ rfl
    have k9_1_f := K9_1.fr
    have k9_1_l := K9_1.lt
    go_wp2_with fail
    refine (HI.out _).mono ?_
    rintro _ W10 ⟨rfl, b10⟩
    have K10_0 := K9_0.below b10
    have K10_1 := K9_1.below b10
    clear k9_1_0 k9_1_1 k9_1_2 k9_1_3 k9_1_4 k9_1_5 k9_1_6 k9_1_7 k9_1_8 k9_1_f k9_1_l
    have R1 := Go.Lib.hid (rdUp R1.out b10)
    have R2 := Go.Lib.hid (rdUp R2.out b10)
    have B10 := upB B9 b10
    clear b10 K9_0 K9_1 B9
    go_upto_region 11 with fail
    refine wp_gen (R := fun w' => Box w' W4.heap.size [.int .i64 x.h.n, .int .i64 x.h.l, .int .i64 x.h.r, .int .i64 x.h.a, .int .i64 x.h.b, .int .i64 x.r.n, .int .i64 x.r.d, .int .i64 x.r.o, .int .i64 x.c] ∧ Box w' W8.heap.size [.int .i64 y.h.n, .int .i64 y.h.l, .int .i64 y.h.r, .int .i64 y.h.a, .int .i64 y.h.b, .int .i64 y.r.n, .int .i64 y.r.d, .int .i64 y.r.o, .int .i64 y.c] ∧ Box w' W10.heap.size [.int .i64 lo, .int .i64 hi] ∧ Rd w' 0 w'.heap.size A1 zs.length (ints zs) ∧ Rd w' 0 w'.heap.size A2 ls.length (ints ls) ∧ Below w.heap.size w w') ⟨K10_0.alloc _, K10_1.alloc _, Box.new rfl rfl, rdUp R1.out ((Below.refl _ _).alloc (Nat.le_refl _) _), rdUp R2.out ((Below.refl _ _).alloc (Nat.le_refl _) _), B10.alloc B10.size _⟩ ?_
    clear K10_0 K10_1 R1 R2 B10
    rintro W11 ⟨K11_0, K11_1, K11_2, R1_, R2_, B11⟩
    have R1 := Go.Lib.hid R1_
    clear R1_
    have R2 := Go.Lib.hid R2_
    clear R2_
    have k11_1_0 := K11_1.at_ 0 _ rfl
    have k11_1_1 := K11_1.at_ 1 _ rfl
    have k11_1_2 := K11_1.at_ 2 _ rfl
    have k11_1_3 := K11_1.at_ 3 _ rfl
    have k11_1_4 := K11_1.at_ 4 _ rfl
    have k11_1_5 := K11_1.at_ 5 _ rfl
    have k11_1_6 := K11_1.at_ 6 _ rfl
    have k11_1_7 := K11_1.at_ 7 _ rfl
    have k11_1_8 := K11_1.at_ 8 _ rfl
    have k11_1_f := K11_1.fr
    have k11_1_l := K11_1.lt
    go_wp2_with fail
    refine (HS.out _).mono ?_
    rintro _ W12 ⟨rfl, b12⟩
    have K12_0 := K11_0.below b12
    have K12_1 := K11_1.below b12
    have K12_2 := K11_2.below b12
    clear k11_1_0 k11_1_1 k11_1_2 k11_1_3 k11_1_4 k11_1_5 k11_1_6 k11_1_7 k11_1_8 k11_1_f k11_1_l
    have R1 := Go.Lib.hid (rdUp R1.out b12)
    have R2 := Go.Lib.hid (rdUp R2.out b12)
    have B12 := upB B11 b12
    clear b12 K11_0 K11_1 K11_2 B11
    go_upto_region 12 with fail
    refine wp_gen (R := fun w' => Box w' W4.heap.size [.int .i64 x.h.n, .int .i64 x.h.l, .int .i64 x.h.r, .int .i64 x.h.a, .int .i64 x.h.b, .int .i64 x.r.n, .int .i64 x.r.d, .int .i64 x.r.o, .int .i64 x.c] ∧ Box w' W8.heap.size [.int .i64 y.h.n, .int .i64 y.h.l, .int .i64 y.h.r, .int .i64 y.h.a, .int .i64 y.h.b, .int .i64 y.r.n, .int .i64 y.r.d, .int .i64 y.r.o, .int .i64 y.c] ∧ Box w' W10.heap.size [.int .i64 lo, .int .i64 hi] ∧ Box w' W12.heap.size [.int .i64 lo, .int .i64 hi] ∧ Rd w' 0 w'.heap.size A1 zs.length (ints zs) ∧ Rd w' 0 w'.heap.size A2 ls.length (ints ls) ∧ Below w.heap.size w w') ⟨K12_0.alloc _, K12_1.alloc _, K12_2.alloc _, Box.new rfl rfl, rdUp R1.out ((Below.refl _ _).alloc (Nat.le_refl _) _), rdUp R2.out ((Below.refl _ _).alloc (Nat.le_refl _) _), B12.alloc B12.size _⟩ ?_
    clear K12_0 K12_1 K12_2 R1 R2 B12
    rintro W13 ⟨K13_0, K13_1, K13_2, K13_3, R1_, R2_, B13⟩
    have R1 := Go.Lib.hid R1_
    clear R1_
    have R2 := Go.Lib.hid R2_
    clear R2_
    clear HI HS
    have k13_2_0 := K13_2.at_ 0 _ rfl
    have k13_2_1 := K13_2.at_ 1 _ rfl
    have k13_2_f := K13_2.fr
    have k13_2_l := K13_2.lt
    have k13_3_0 := K13_3.at_ 0 _ rfl
    have k13_3_1 := K13_3.at_ 1 _ rfl
    have k13_3_f := K13_3.fr
    have k13_3_l := K13_3.lt
    go_upto_if 123 with fail
    clear k13_2_0 k13_2_1 k13_2_f k13_2_l k13_3_0 k13_3_1 k13_3_f k13_3_l
    clear hna hnb hne hnl hnh hng hql hqh hnc hnf
    go_cut [] (fun wx => Box wx W4.heap.size [.int .i64 x.h.n, .int .i64 x.h.l, .int .i64 x.h.r, .int .i64 x.h.a, .int .i64 x.h.b, .int .i64 x.r.n, .int .i64 x.r.d, .int .i64 x.r.o, .int .i64 x.c] ∧ Rd wx 0 wx.heap.size A1 zs.length (ints zs) ∧ Rd wx 0 wx.heap.size A2 ls.length (ints ls) ∧ Below w.heap.size w wx)
    case first =>
      by_cases hg0 : g = 0
      · subst hg0
        obtain ⟨hl, hlo, hhi⟩ := rng_ok HRG.out
        have HL := Go.Lib.hid (fun w0 => implSpokeLength y sd w0)
        rw [hl] at HL
        dsimp only [pairI] at HL
        clear hl
        generalize spLen y sd = L at HL hlo hhi
        have HIN := Go.Lib.hid (fun w0 => insideQ L lo hi w0 hlo hhi)
        clear hlo hhi
        have k13_1_0 := K13_1.at_ 0 _ rfl
        have k13_1_1 := K13_1.at_ 1 _ rfl
        have k13_1_2 := K13_1.at_ 2 _ rfl
        have k13_1_3 := K13_1.at_ 3 _ rfl
        have k13_1_4 := K13_1.at_ 4 _ rfl
        have k13_1_5 := K13_1.at_ 5 _ rfl
        have k13_1_6 := K13_1.at_ 6 _ rfl
        have k13_1_7 := K13_1.at_ 7 _ rfl
        have k13_1_8 := K13_1.at_ 8 _ rfl
        have k13_1_f := K13_1.fr
        have k13_1_l := K13_1.lt
        go_wp2_with fail
        refine (HL.out _).mono ?_
        rintro _ W14 ⟨rfl, b14⟩
        have K14_0 := K13_0.below b14
        have K14_1 := K13_1.below b14
        have K14_2 := K13_2.below b14
        have K14_3 := K13_3.below b14
        clear k13_1_0 k13_1_1 k13_1_2 k13_1_3 k13_1_4 k13_1_5 k13_1_6 k13_1_7 k13_1_8 k13_1_f k13_1_l
        have R1 := Go.Lib.hid (rdUp R1.out b14)
        have R2 := Go.Lib.hid (rdUp R2.out b14)
        have B14 := upB B13 b14
        clear b14 K13_0 K13_1 K13_2 K13_3 B13
        have k14_2_0 := K14_2.at_ 0 _ rfl
        have k14_2_1 := K14_2.at_ 1 _ rfl
        have k14_2_f := K14_2.fr
        have k14_2_l := K14_2.lt
        go_wp2_with fail
        refine (HIN.out _).mono ?_
        rintro _ W15 ⟨rfl, b15⟩
        have K15_0 := K14_0.below b15
        have K15_1 := K14_1.below b15
        have K15_2 := K14_2.below b15
        have K15_3 := K14_3.below b15
        clear k14_2_0 k14_2_1 k14_2_f k14_2_l
        have R1 := Go.Lib.hid (rdUp R1.out b15)
        have R2 := Go.Lib.hid (rdUp R2.out b15)
        have B15 := upB B14 b15
        clear b15 K14_0 K14_1 K14_2 K14_3 B14
        go_wp2_with fail
        go_meet
        exact ⟨K15_0, R1.out, R2.out, B15⟩
      · have hg1 : (g == 0) = false := by simpa using hg0
        go_wp2_with fail
        go_meet
        exact ⟨K13_0, R1.out, R2.out, B13⟩
    case rest =>
      obtain ⟨K23_0, R1_, R2_, B23⟩ := hcut
      clear K13_0 K13_1 K13_2 K13_3 R1 R2 B13
      have R1 := Go.Lib.hid R1_
      clear R1_
      have R2 := Go.Lib.hid R2_
      clear R2_
      go_upto_if 139 with fail
      go_cut [] (fun wx => Box wx W4.heap.size [.int .i64 x.h.n, .int .i64 x.h.l, .int .i64 x.h.r, .int .i64 x.h.a, .int .i64 x.h.b, .int .i64 x.r.n, .int .i64 x.r.d, .int .i64 x.r.o, .int .i64 x.c] ∧ Rd wx 0 wx.heap.size A1 zs.length (ints zs) ∧ Rd wx 0 wx.heap.size A2 ls.length (ints ls) ∧ Below w.heap.size w wx)
      case first =>
        by_cases he0 : e = 0
        · subst he0
          obtain ⟨hl, hc⟩ := for_ok HFO.out
          have HL := Go.Lib.hid (fun w0 => implSpokeLength x false w0)
          have HC := Go.Lib.hid (fun w0 h0 => implChooseSpoke A2 ls.length c2 ls (spLen x false) 0 w0 h0 (by omega))
          rw [hl] at HL
          rw [hc] at HC
          dsimp only [pairI] at HL HC
          clear hl hc
          generalize spLen x false = L at HL HC
          have hna : (a != a) = false := by simp
          have k23_0_0 := K23_0.at_ 0 _ rfl
          have k23_0_1 := K23_0.at_ 1 _ rfl
          have k23_0_2 := K23_0.at_ 2 _ rfl
          have k23_0_3 := K23_0.at_ 3 _ rfl
          have k23_0_4 := K23_0.at_ 4 _ rfl
          have k23_0_5 := K23_0.at_ 5 _ rfl
          have k23_0_6 := K23_0.at_ 6 _ rfl
          have k23_0_7 := K23_0.at_ 7 _ rfl
          have k23_0_8 := K23_0.at_ 8 _ rfl
          have k23_0_f := K23_0.fr
          have k23_0_l := K23_0.lt
          go_wp2_with fail
          refine (HL.out _).mono ?_
          rintro _ W24 ⟨rfl, b24⟩
          have K24_0 := K23_0.below b24
          clear k23_0_0 k23_0_1 k23_0_2 k23_0_3 k23_0_4 k23_0_5 k23_0_6 k23_0_7 k23_0_8 k23_0_f k23_0_l
          have R1 := Go.Lib.hid (rdUp R1.out b24)
          have R2 := Go.Lib.hid (rdUp R2.out b24)
          have B24 := upB B23 b24
          clear b24 K23_0 B23
          go_wp2_with fail
          refine (HC.out _ R2.out).mono ?_
          rintro _ W25 ⟨rfl, b25⟩
          have K25_0 := K24_0.below b25
          have R1 := Go.Lib.hid (rdUp R1.out b25)
          have R2 := Go.Lib.hid (rdUp R2.out b25)
          have B25 := upB B24 b25
          clear b25 K24_0 B24
          go_wp2_with fail
          go_meet
          exact ⟨K25_0, R1.out, R2.out, B25⟩
        · have he1 : (e == 0) = false := by simpa using he0
          go_wp2_with fail
          go_meet
          exact ⟨K23_0, R1.out, R2.out, B23⟩
      case rest =>
        obtain ⟨K33_0, R1_, R2_, B33⟩ := hcut
        clear K23_0 R1 R2 B23
        have R1 := Go.Lib.hid R1_
        clear R1_
        have R2 := Go.Lib.hid R2_
        clear R2_
        clear HFO HRG
        by_cases hf0 : f = 0
        · subst hf0
          obtain ⟨⟨z0, z1⟩, hmem, l0, l1, hall⟩ := cho_ok HCF.out
          have HALL := Go.Lib.hid hall
          have HM := Go.Lib.hid hmem
          clear hall hmem
          have e1 : IntKind.i64.wrap (z + 10) = z + 10 := IntWalk.i64_in _ (by omega)
          have e2 : IntKind.i64.wrap (z - 20) = z - 20 := IntWalk.i64_in _ (by omega)
          clear K33_0
          clear R2
          go_wp2_with fail
          go_loopw [30] (fun i wr => ∃ k : Nat, k ≤ zs.length ∧ i = .int .i64 k ∧ wr = wc) (fun i _ => zs.length - (intOf i).toNat)
          case atStart => exact ⟨0, Nat.zero_le _, rfl, rfl⟩
          case round =>
            obtain ⟨k, hk, rfl, rfl⟩ := hrel
            by_cases hlt : k < zs.length
            · have hno := HALL.out k hlt
              obtain ⟨b1, o1, rfl, -, -, cc⟩ := R1.out.at_ hlt
              have hcell : wr.cell? ⟨b1, o1 + k, none⟩ = some (.int .i64 (zs.getD k 0)) := cc k _ (ints_at zs k hlt)
              clear cc
              generalize zs.getD k 0 = v at hno hcell
              by_cases hv : c < v
              · have hv2 : ¬ v ≤ z + 10 := by have := hno hv; omega
                have hv3 : decide (v ≤ z + 10) = false := by simpa using hv2
                clear hno
                go_wp2_with fail
                go_roundw
                case rel => exact ⟨k + 1, by omega, by go_num, trivial⟩
                case measure => simp [intOf]; omega
              · clear hno
                go_wp2_with fail
                go_roundw
                case rel => exact ⟨k + 1, by omega, by go_num, trivial⟩
                case measure => simp [intOf]; omega
            · obtain rfl : k = zs.length := by omega
              have hltI : ¬ (zs.length : Int) < (zs.length : Int) := by omega
              have HH := Go.Lib.hid (hasInt_mem A1 zs.length c1 zs 0 _ c wr R1.out HM.out (by omega))
              go_wp2_with fail
              refine HH.out.mono ?_
              rintro _ _ ⟨rfl, rfl⟩
              go_wp2_with fail
              go_ret
              exact ⟨rfl, B33⟩
        · have hf1 : (f != 0) = true := by simpa using hf0
          go_wp2_with fail
          go_ret
          exact ⟨rfl, B33⟩

set_option maxRecDepth 100000 in
theorem lifted (os : Os) (started : os.Started) (H : Type) (enc : TypeId × Value → H) :
    ReturnsInHanded {} Try.checked os 3 .any (Rows.fnChosenSpec.pre6 enc Try.prog Try.f3 Rows.fnChosenRow.domain false) (Rows.fnChosenSpec.post enc Try.prog Try.f3 false true false false) := by
  refine returnsInHanded_of_change_sized (C := Try.checked) own started (by kernel_rfl) Try.func3
    (ChangeSpec.witness6 (enc := enc) (C := Try.checked) false ⟨#[], #[.slice none 0 0], []⟩ 8 (by kernel_rfl) (by kernel_rfl) (by kernel_rfl) (by kernel_rfl)) ?_
  intro W base args ds gs before hval0 hW hcnd hsz0 _
  have hsz : (DataW.weightsEach Try.prog (Try.f3.params.toList ++ Rows.fnChosenSpec.plain.varTypes Try.prog) (ds ++ gs)).all (· ≤ reachBytes) = true := hsz0
  clear hsz0
  have hval : ∀ (j : Nat) t v, Try.f3.params[j]? = some t → args[j]? = some v → Value.okWide Try.prog W .any base t v := hval0
  clear hval0
  have hW' := hW
  obtain ⟨p, q, hA0, hV, rfl, hfz, hnd⟩ := hW
  have hA : DataW.TrodAll enc Try.prog W 0 (fun _ => true) true Try.f3.params.toList args.toList ds p := hA0
  rw [Try.params3] at hA hval hsz
  obtain ⟨v0, vs0, d0, ds0, p0, q0, hargs, rfl, rfl, h0, r0⟩ := trodAll_cons hA
  obtain ⟨rfl, rfl, rfl⟩ := trodAll_nil r0
  obtain rfl : args = #[v0] := by cases args; simp_all
  obtain ⟨rfl, rfl⟩ := trodVars_none hV
  obtain ⟨a0, len0, cap0, rfl⟩ := okWide_slice Try.underlying22 (hval 0 22 v0 rfl rfl)
  have k0 := h0
  have lt0 : ∀ x ∈ p0, x.block < W.heap.size := by obtain ⟨m, hm⟩ := k0; exact DataW.trod_lt m _ _ _ hm
  obtain ⟨⟨z0, rd0, sz0⟩, hlc0, hp0⟩ := open_list_bytes h0
  have reach0 : len0 * 1 ≤ 140737488351232 := by
    rcases hp0 with hp0 | ⟨E0, S0, rfl, hl0⟩
    · omega
    · have := sized_slice hsz (j := 0) (t := 22) (e := 5) rfl rfl Try.underlying22
      rw [show Try.prog.bytesOf 5 = 1 by kernel_rfl] at this
      simp only [reachBytes] at this
      omega
  clear hA0
  refine (walk a0 len0 cap0 z0 W rd0 reach0 sz0).mono fun e W' ⟨he, bel⟩ => ?_
  subst he
  exact ⟨_, rfl, _, _, _, [], _, [], hW', trodAll_mk1 (shut_bool Try.underlying4 _), (trodAll_cons_mk (Below.trod laidOut (by kernel_rfl) (of_decide_eq_true (by kernel_rfl)) k0 bel lt0) trodAll_mk0), rfl, bel.frame _, fun h => by cases h⟩

theorem over : Rows.fnChosenRow.holds Try.pinned (OpenSpec.ofChange Rows.fnChosenSpec) :=
  OpenClaim.holds_of_wide 3 Try.f3 rfl rfl rfl rfl rfl rfl rfl ⟨rfl, rfl, rfl, rfl, rfl⟩ rfl rfl rfl rfl rfl (by kernel_rfl) Try.func3 (by kernel_rfl)
    (of_decide_eq_true (by kernel_rfl)) (by unfold Func.isWrapper; first | (rw [if_pos (by decide +kernel)]; kernel_rfl) | (rw [if_neg (by decide +kernel)]; exact ⟨rfl, rfl⟩))
    (fun os started H enc _ => lifted os started H enc)

theorem proved : Rows.FnChosenSaid := over
end Go.Proofs.Ytifblmcocikopab.fnChosen
