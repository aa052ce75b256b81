/- The program's stocks and choices of spokes. -/
import Derived.Test.YtifblmcocikopabSpA
import Derived.Test.YtifblmcocikopabSpoke3
namespace Go.Proofs.Ytifblmcocikopab
open Go.RowKit

theorem implIsLength (n : Int) (w : World) : Calls Try.prog 27 #[.int .i64 n] w (Just (.bool (inB n 0 5000)) w) := by
  go_enter Try.func27, Try.ntmps27
  go_wp2_with fail
  refine (implInN _ _ _ _).mono ?_
  rintro _ _ ⟨rfl, rfl⟩
  go_wp2_with fail
  go_ret
  exact ⟨rfl, rfl⟩
theorem implRise5 (A : Option Addr) (n cap : Nat) (zs : List Int) (lo hi : Nat) (w : World) (h : Rd w lo hi A n (ints zs)) (hn : n ≤ 1048576) :
    Calls Try.prog 43 #[.slice A n cap, .int .i64 0, .int .i64 5000] w (Just (.bool (riseTo zs 5001 n)) w) := by
  have hz : zs.length = n := by have := h.len; rwa [ints_len] at this
  have HZ := Go.Lib.hid hz
  clear hz
  go_enter Try.func43, Try.ntmps43
  go_wp2_with fail
  go_loopw [11] (fun i wr => ∃ k : Nat, k ≤ n ∧ i = .int .i64 k ∧ wr = w ∧ riseTo zs 5001 k = true) (fun i _ => n - (intOf i).toNat)
  case atStart => exact ⟨0, Nat.zero_le _, rfl, rfl, rfl⟩
  case round =>
    obtain ⟨k, hk, rfl, rfl, hr⟩ := hrel
    by_cases hlt : k < n
    · obtain ⟨b, o, rfl, p, q, c⟩ := h.at_ hlt
      have hkz : k < zs.length := by have := HZ.out; omega
      have hcell : wr.cell? ⟨b, o + k, none⟩ = some (.int .i64 (zs.getD k 0)) := c k _ (ints_at zs k hkz)
      have hnx := riseTo_next zs 5001 k
      rw [hr, Bool.true_and] at hnx
      have hat : riseAt zs 5001 k = (inB (zs.getD k 0) 0 5000 && (decide (k = 0) || decide (zs.getD (k - 1) 0 < zs.getD k 0))) := rfl
      have HNO := Go.Lib.hid (fun e => riseTo_no (L := zs) (n := 5001) hlt e)
      have HI := Go.Lib.hid (fun w0 => implInN (zs.getD k 0) 0 5000 w0)
      cases hb : inB (zs.getD k 0) 0 5000
      · rw [hb, Bool.false_and] at hat
        have HF := Go.Lib.hid (HNO.out hat)
        rw [hb] at HI
        generalize zs.getD k 0 = x at hcell HI
        clear hat hnx hb c HNO hr h
        go_wp2_with fail
        refine (HI.out _).mono ?_
        rintro _ _ ⟨rfl, rfl⟩
        go_wp2_with fail
        go_ret
        exact ⟨by rw [HF.out]; rfl, rfl⟩
      · rw [hb] at HI
        rw [hb, Bool.true_and] at hat
        by_cases h0 : k = 0
        · have HN : Hid (riseTo zs 5001 (k + 1) = true) := by rw [hnx, hat, decide_eq_true h0]; rfl
          subst h0
          generalize zs.getD 0 0 = x at hcell HI
          rw [Nat.add_zero] at hcell
          clear hat hnx hb c HNO hr h
          go_wp2_with fail
          refine (HI.out _).mono ?_
          rintro _ _ ⟨rfl, rfl⟩
          go_wp2_with fail
          go_roundw
          case rel => exact ⟨1, by omega, by go_num, trivial, HN.out⟩
          case measure => simp [intOf]; omega
        · have hk1 : ((k - 1 : Nat) : Int) = (k : Int) - 1 := by omega
          have hcell2 : wr.cell? ⟨b, o + (k - 1), none⟩ = some (.int .i64 (zs.getD (k - 1) 0)) := c (k - 1) _ (ints_at zs (k - 1) (by omega))
          have hk0 : (0 : Int) < (k : Int) := by omega
          have hk2 : 0 < k := by omega
          have i1 : IntKind.i64.wrap ((k : Int) - 1) = (k : Int) - 1 := IntWalk.i64_in _ (by omega)
          have i2 : (0 : Int) ≤ (k : Int) - 1 := by omega
          have i3 : (k : Int) - 1 < (n : Int) := by omega
          have i4 : ((k : Int) - 1).toNat = k - 1 := by omega
          rw [decide_eq_false h0, Bool.false_or] at hat
          generalize zs.getD k 0 = x at hcell HI hat
          generalize zs.getD (k - 1) 0 = y at hcell2 hat
          by_cases hy : y < x
          · have HN : Hid (riseTo zs 5001 (k + 1) = true) := by rw [hnx, hat, decide_eq_true hy]; rfl
            have hd : decide (x ≤ y) = false := by simpa using hy
            have hd2 : ¬ x ≤ y := by omega
            clear hat hnx hb c HNO hr h h0 hk1
            go_wp2_with fail
            refine (HI.out _).mono ?_
            rintro _ _ ⟨rfl, rfl⟩
            go_wp2_with fail
            go_roundw
            case rel => exact ⟨k + 1, by omega, by go_num, trivial, HN.out⟩
            case measure => simp [intOf]; omega
          · have HF := Go.Lib.hid (HNO.out (by rw [hat, decide_eq_false hy]))
            have hd : decide (x ≤ y) = true := by simpa using hy
            have hd2 : x ≤ y := by omega
            clear hat hnx hb c HNO hr h h0 hk1
            go_wp2_with fail
            refine (HI.out _).mono ?_
            rintro _ _ ⟨rfl, rfl⟩
            go_wp2_with fail
            go_ret
            exact ⟨by rw [HF.out]; rfl, rfl⟩
    · obtain rfl : k = n := by omega
      go_wp2_with fail
      go_ret
      exact ⟨by rw [hr]; rfl, rfl⟩
theorem implIsStock (A : Option Addr) (n cap : Nat) (zs : List Int) (lo hi : Nat) (w : World) (h : Rd w lo hi A n (ints zs)) (hn : n ≤ 1048576) :
    Calls Try.prog 26 #[.slice A n cap] w (Just (.bool (stockB zs)) w) := by
  have hz : zs.length = n := by have := h.len; rwa [ints_len] at this
  have HR := Go.Lib.hid (implRise5 A n cap zs lo hi w h hn)
  have hv : stockB zs = (riseTo zs 5001 n && decide (n ≤ 30)) := by unfold stockB; rw [hz]
  rw [hv]
  clear hv hz h
  generalize riseTo zs 5001 n = r at *
  by_cases h3 : n ≤ 30
  · have h4 : (n : Int) ≤ 30 := by omega
    have hd : decide ((n : Int) ≤ 30) = true := decide_eq_true h4
    rw [decide_eq_true h3, Bool.and_true]
    go_enter Try.func26, Try.ntmps26
    go_wp2_with fail
    refine HR.out.mono ?_
    rintro _ _ ⟨rfl, rfl⟩
    go_wp2_with fail
    go_ret
    exact ⟨rfl, rfl⟩
  · have h4 : ¬ (n : Int) ≤ 30 := by omega
    have hd : decide ((n : Int) ≤ 30) = false := decide_eq_false h4
    rw [decide_eq_false h3, Bool.and_false]
    go_enter Try.func26, Try.ntmps26
    go_wp2_with fail
    go_ret
    exact ⟨rfl, rfl⟩
/-- What chooseSpoke answers. -/
def choP (L : List Int) (m : Int) : Int × Int := if choL L m < 0 then (0, 4) else (choL L m, 0)
theorem implChoose (A : Option Addr) (n cap : Nat) (zs : List Int) (m : Int) (lo hi : Nat) (w : World) (h : Rd w lo hi A n (ints zs)) (hn : n ≤ 1048576) (hs : stockB zs = true) (m0 : -1000000 ≤ m) (m1 : m ≤ 1000000) :
    Calls Try.prog 28 #[.slice A n cap, .int .i64 m] w (Just (pairI (choP zs m)) w) := by
  have hz : zs.length = n := by have := h.len; rwa [ints_len] at this
  have HR : Hid (∀ i, i < n → 0 ≤ zs.getD i 0) := fun i hi => by
    unfold stockB at hs
    rw [Bool.and_eq_true, hz] at hs
    exact (rise_ge hs.1 hi).1
  clear hs
  have HZ := Go.Lib.hid hz
  have HV : Hid (choL zs m = choTo zs m n) := by unfold choL; rw [hz]; rfl
  have HP : Hid (choP zs m = if choL zs m < 0 then (0, 4) else (choL zs m, 0)) := rfl
  clear hz
  have w1 : IntKind.i64.wrap ((n : Int) - 1) = (n : Int) - 1 := IntWalk.i64_in _ (by omega)
  have w2 : IntKind.i64.wrap (m - 20) = m - 20 := IntWalk.i64_in _ (by omega)
  have w3 : IntKind.i64.wrap (m + 10) = m + 10 := IntWalk.i64_in _ (by omega)
  go_enter Try.func28, Try.ntmps28
  go_wp2_with fail
  go_loopw [6] (fun i wr => ∃ k : Nat, k ≤ n ∧ i = .int .i64 ((k : Int) - 1) ∧ wr = w ∧ choL zs m = choTo zs m k) (fun i _ => (intOf i + 1).toNat)
  case atStart => exact ⟨n, Nat.le_refl _, rfl, rfl, HV.out⟩
  case round =>
    clear HV w1
    obtain ⟨k, hk, rfl, rfl, hc⟩ := hrel
    cases k with
    | zero =>
      have HC : Hid (choP zs m = (0, 4)) := by rw [HP.out, hc]; rfl
      clear hc
      go_wp2_with fail
      go_ret2
      exact ⟨by rw [HC.out]; rfl, rfl⟩
    | succ j =>
      have ej : ((j + 1 : Nat) : Int) - 1 = j := by omega
      rw [ej]
      obtain ⟨b, o, rfl, p, q, c⟩ := h.at_ (k := j) (by omega)
      have hkz : j < zs.length := by have := HZ.out; omega
      have hcell : wr.cell? ⟨b, o + j, none⟩ = some (.int .i64 (zs.getD j 0)) := c j _ (ints_at zs j hkz)
      have hst : choTo zs m (j + 1) = if inB (zs.getD j 0) (m - 20) (m + 10) then zs.getD j 0 else choTo zs m j := rfl
      rw [hst] at hc
      have HI1 := Go.Lib.hid (fun w0 => implInN (zs.getD j 0) (m - 20) (m + 10) w0)
      have w4 : IntKind.i64.wrap ((j : Int) - 1) = (j : Int) - 1 := IntWalk.i64_in _ (by omega)
      have h0 := HR.out j (by omega)
      clear HR
      generalize inB (zs.getD j 0) (m - 20) (m + 10) = bb at *
      generalize zs.getD j 0 = x at hcell HI1 hc h0
      cases bb
      · rw [if_neg (by simp)] at hc
        have HC := Go.Lib.hid hc
        clear hc c ej hst h h0
        go_wp2_with fail
        refine (HI1.out _).mono ?_
        rintro _ _ ⟨rfl, rfl⟩
        go_wp2_with fail
        go_roundw
        case rel => exact ⟨j, by omega, by first | rfl | go_num, trivial, HC.out⟩
        case measure => simp [intOf]
      · rw [if_pos rfl] at hc
        have HC : Hid (choP zs m = (x, 0)) := by rw [HP.out, hc, if_neg (by omega)]; rfl
        clear hc c ej hst h h0
        go_wp2_with fail
        refine (HI1.out _).mono ?_
        rintro _ _ ⟨rfl, rfl⟩
        go_wp2_with fail
        go_ret2
        exact ⟨by rw [HC.out]; rfl, rfl⟩
theorem implChooseSpoke (A : Option Addr) (n cap : Nat) (zs : List Int) (m : Int) (lo : Nat) (w : World) (h : Rd w lo w.heap.size A n (ints zs)) (hn : n ≤ 1048576) : Calls Try.prog 8 #[.slice A n cap, .int .i64 m] w (IsV w (pairI (choA zs m))) := by
  have HS := Go.Lib.hid (implIsStock A n cap zs lo _ w h hn)
  cases hs : stockB zs
  · rw [hs] at HS
    have HV : Hid (choA zs m = (0, 1)) := by unfold choA; rw [hs]; rfl
    clear hs
    go_enter Try.func8, Try.ntmps8
    go_wp2_with fail
    refine HS.out.mono ?_
    rintro _ _ ⟨rfl, rfl⟩
    go_wp2_with fail
    go_ret2
    exact ⟨by rw [HV.out]; rfl, Below.refl _ _⟩
  · rw [hs] at HS
    have HI := Go.Lib.hid (fun w0 => implIsLength m w0)
    cases hb : inB m 0 5000
    · rw [hb] at HI
      have HV : Hid (choA zs m = (0, 2)) := by unfold choA; rw [hs, hb]; rfl
      clear hs hb
      go_enter Try.func8, Try.ntmps8
      go_wp2_with fail
      refine HS.out.mono ?_
      rintro _ _ ⟨rfl, rfl⟩
      go_wp2_with fail
      refine (HI.out _).mono ?_
      rintro _ _ ⟨rfl, rfl⟩
      go_wp2_with fail
      go_ret2
      exact ⟨by rw [HV.out]; rfl, Below.refl _ _⟩
    · rw [hb] at HI
      obtain ⟨m0, m1⟩ := inB_iff.1 hb
      have HV : Hid (choA zs m = choP zs m) := by unfold choA; rw [hs, hb]; rfl
      have HC := Go.Lib.hid (implChoose A n cap zs m lo _ w h hn hs (by omega) (by omega))
      generalize choP zs m = P at *
      obtain ⟨p1, p2⟩ := P
      dsimp only [pairI] at HC
      clear hs hb m0 m1
      go_enter Try.func8, Try.ntmps8
      go_wp2_with fail
      refine HS.out.mono ?_
      rintro _ _ ⟨rfl, rfl⟩
      go_wp2_with fail
      refine (HI.out _).mono ?_
      rintro _ _ ⟨rfl, rfl⟩
      go_wp2_with fail
      refine HC.out.mono ?_
      rintro _ _ ⟨rfl, rfl⟩
      go_wp2_with fail
      go_ret2
      exact ⟨by rw [HV.out]; rfl, Below.refl _ _⟩
set_option maxRecDepth 100000 in
set_option maxHeartbeats 4000000 in
theorem implSpokesFor (x : Wh) (A : Option Addr) (n cap : Nat) (zs : List Int) (lo : Nat) (w : World) (h : Rd w lo w.heap.size A n (ints zs)) (hn : n ≤ 1048576) : Calls Try.prog 11 #[wheelV x, .slice A n cap] w (IsV w (tripI (forA x zs))) := by
  have HW := Go.Lib.hid (fun w0 => implIsWheel x w0)
  have HH := Go.Lib.hid h
  have HS := Go.Lib.hid (fun w0 (h0 : Rd w0 lo w.heap.size A n (ints zs)) => implIsStock A n cap zs lo w.heap.size w0 h0 hn)
  clear h
  cases hb : wheelB x
  · rw [hb] at HW
    have HV : Hid (forA x zs = (0, 0, 1)) := by unfold forA; rw [hb]; rfl
    clear hb
    go_enter Try.func11, Try.ntmps11
    go_wp2_with fail
    refine calls_gen (R := fun w' => Box w' w.heap.size [.int .i64 x.h.n, .int .i64 x.h.l, .int .i64 x.h.r, .int .i64 x.h.a, .int .i64 x.h.b, .int .i64 x.r.n, .int .i64 x.r.d, .int .i64 x.r.o, .int .i64 x.c] ∧ Below w.heap.size w w') ⟨Box.new rfl rfl, by go_grown⟩ ?_
    rintro W1 ⟨K1_0, B1⟩
    refine (HW.out _).mono ?_
    rintro _ W2 ⟨rfl, b2⟩
    have K2_0 := K1_0.below b2
    have B2 := upB B1 b2
    clear b2 K1_0 B1
    have k2_0_0 := K2_0.at_ 0 _ rfl
    have k2_0_1 := K2_0.at_ 1 _ rfl
    have k2_0_2 := K2_0.at_ 2 _ rfl
    have k2_0_3 := K2_0.at_ 3 _ rfl
    have k2_0_4 := K2_0.at_ 4 _ rfl
    have k2_0_5 := K2_0.at_ 5 _ rfl
    have k2_0_6 := K2_0.at_ 6 _ rfl
    have k2_0_7 := K2_0.at_ 7 _ rfl
    have k2_0_8 := K2_0.at_ 8 _ rfl
    have k2_0_f := K2_0.fr
    have k2_0_l := K2_0.lt
    go_wp2_with fail
    go_ret3
    exact ⟨by rw [HV.out]; rfl, B2⟩
  · rw [hb] at HW
    cases hs : stockB zs
    · rw [hs] at HS
      have HV : Hid (forA x zs = (0, 0, 1)) := by unfold forA; rw [hb, hs]; rfl
      clear hb hs
      go_enter Try.func11, Try.ntmps11
      go_wp2_with fail
      refine calls_gen (R := fun w' => Box w' w.heap.size [.int .i64 x.h.n, .int .i64 x.h.l, .int .i64 x.h.r, .int .i64 x.h.a, .int .i64 x.h.b, .int .i64 x.r.n, .int .i64 x.r.d, .int .i64 x.r.o, .int .i64 x.c] ∧ Below w.heap.size w w') ⟨Box.new rfl rfl, by go_grown⟩ ?_
      rintro W1 ⟨K1_0, B1⟩
      refine (HW.out _).mono ?_
      rintro _ W2 ⟨rfl, b2⟩
      have K2_0 := K1_0.below b2
      have B2 := upB B1 b2
      clear b2 K1_0 B1
      have k2_0_0 := K2_0.at_ 0 _ rfl
      have k2_0_1 := K2_0.at_ 1 _ rfl
      have k2_0_2 := K2_0.at_ 2 _ rfl
      have k2_0_3 := K2_0.at_ 3 _ rfl
      have k2_0_4 := K2_0.at_ 4 _ rfl
      have k2_0_5 := K2_0.at_ 5 _ rfl
      have k2_0_6 := K2_0.at_ 6 _ rfl
      have k2_0_7 := K2_0.at_ 7 _ rfl
      have k2_0_8 := K2_0.at_ 8 _ rfl
      have k2_0_f := K2_0.fr
      have k2_0_l := K2_0.lt
      go_wp2_with fail
      refine (HS.out _ (HH.out.below B2 (Nat.le_refl _))).mono ?_
      rintro _ _ ⟨rfl, rfl⟩
      go_wp2_with fail
      go_ret3
      exact ⟨by rw [HV.out]; rfl, B2⟩
    · rw [hs] at HS
      have HL := Go.Lib.hid (fun r w0 => implLen x r w0 hb)
      have hl1 := spLen_bd (r := false) hb
      have hl2 := spLen_bd (r := true) hb
      have HC := Go.Lib.hid (fun m w0 (h0 : Rd w0 lo w.heap.size A n (ints zs)) (m0 : -1000000 ≤ m) (m1 : m ≤ 1000000) => implChoose A n cap zs m lo w.heap.size w0 h0 hn hs m0 m1)
      have HC1 := Go.Lib.hid (fun w0 h0 => HC.out (spLen x false) w0 h0 (by omega) (by omega))
      have HC2 := Go.Lib.hid (fun w0 h0 => HC.out (spLen x true) w0 h0 (by omega) (by omega))
      have hv : forA x zs = if choL zs (spLen x false) < 0 ∨ choL zs (spLen x true) < 0 then (0, 0, 4) else (choL zs (spLen x false), choL zs (spLen x true), 0) := by unfold forA; rw [hb, hs]; rfl
      have HL1 := Go.Lib.hid (HL.out false)
      have HL2 := Go.Lib.hid (HL.out true)
      clear hb hs HC HL hl1 hl2
      unfold choP at HC1 HC2
      generalize spLen x false = p1 at *
      generalize spLen x true = p2 at *
      generalize choL zs p1 = c1 at *
      generalize choL zs p2 = c2 at *
      by_cases h1 : c1 < 0
      · have HV : Hid (forA x zs = (0, 0, 4)) := by rw [hv, if_pos (.inl h1)]; rfl
        rw [if_pos h1] at HC1
        have HC3 : ∃ a b, (if c2 < 0 then ((0 : Int), (4 : Int)) else (c2, 0)) = (a, b) := ⟨_, _, rfl⟩
        obtain ⟨a, b, hab⟩ := HC3
        rw [hab] at HC2
        dsimp only [pairI] at HC1 HC2
        clear hv h1 hab
        go_enter Try.func11, Try.ntmps11
        go_wp2_with fail
        refine calls_gen (R := fun w' => Box w' w.heap.size [.int .i64 x.h.n, .int .i64 x.h.l, .int .i64 x.h.r, .int .i64 x.h.a, .int .i64 x.h.b, .int .i64 x.r.n, .int .i64 x.r.d, .int .i64 x.r.o, .int .i64 x.c] ∧ Below w.heap.size w w') ⟨Box.new rfl rfl, by go_grown⟩ ?_
        rintro W1 ⟨K1_0, B1⟩
        refine (HW.out _).mono ?_
        rintro _ W2 ⟨rfl, b2⟩
        have K2_0 := K1_0.below b2
        have B2 := upB B1 b2
        clear b2 K1_0 B1
        have k2_0_0 := K2_0.at_ 0 _ rfl
        have k2_0_1 := K2_0.at_ 1 _ rfl
        have k2_0_2 := K2_0.at_ 2 _ rfl
        have k2_0_3 := K2_0.at_ 3 _ rfl
        have k2_0_4 := K2_0.at_ 4 _ rfl
        have k2_0_5 := K2_0.at_ 5 _ rfl
        have k2_0_6 := K2_0.at_ 6 _ rfl
        have k2_0_7 := K2_0.at_ 7 _ rfl
        have k2_0_8 := K2_0.at_ 8 _ rfl
        have k2_0_f := K2_0.fr
        have k2_0_l := K2_0.lt
        go_wp2_with fail
        refine (HS.out _ (HH.out.below B2 (Nat.le_refl _))).mono ?_
        rintro _ _ ⟨rfl, rfl⟩
        go_wp2_with fail
        refine (HL1.out _).mono ?_
        rintro _ W3 ⟨rfl, b3⟩
        have K3_0 := K2_0.below b3
        clear k2_0_0 k2_0_1 k2_0_2 k2_0_3 k2_0_4 k2_0_5 k2_0_6 k2_0_7 k2_0_8 k2_0_f k2_0_l
        have B3 := upB B2 b3
        clear b3 K2_0 B2
        have k3_0_0 := K3_0.at_ 0 _ rfl
        have k3_0_1 := K3_0.at_ 1 _ rfl
        have k3_0_2 := K3_0.at_ 2 _ rfl
        have k3_0_3 := K3_0.at_ 3 _ rfl
        have k3_0_4 := K3_0.at_ 4 _ rfl
        have k3_0_5 := K3_0.at_ 5 _ rfl
        have k3_0_6 := K3_0.at_ 6 _ rfl
        have k3_0_7 := K3_0.at_ 7 _ rfl
        have k3_0_8 := K3_0.at_ 8 _ rfl
        have k3_0_f := K3_0.fr
        have k3_0_l := K3_0.lt
        go_wp2_with fail
        refine (HC1.out _ (HH.out.below B3 (Nat.le_refl _))).mono ?_
        rintro _ _ ⟨rfl, rfl⟩
        go_wp2_with fail
        refine (HL2.out _).mono ?_
        rintro _ W4 ⟨rfl, b4⟩
        have K4_0 := K3_0.below b4
        clear k3_0_0 k3_0_1 k3_0_2 k3_0_3 k3_0_4 k3_0_5 k3_0_6 k3_0_7 k3_0_8 k3_0_f k3_0_l
        have B4 := upB B3 b4
        clear b4 K3_0 B3
        have k4_0_0 := K4_0.at_ 0 _ rfl
        have k4_0_1 := K4_0.at_ 1 _ rfl
        have k4_0_2 := K4_0.at_ 2 _ rfl
        have k4_0_3 := K4_0.at_ 3 _ rfl
        have k4_0_4 := K4_0.at_ 4 _ rfl
        have k4_0_5 := K4_0.at_ 5 _ rfl
        have k4_0_6 := K4_0.at_ 6 _ rfl
        have k4_0_7 := K4_0.at_ 7 _ rfl
        have k4_0_8 := K4_0.at_ 8 _ rfl
        have k4_0_f := K4_0.fr
        have k4_0_l := K4_0.lt
        go_wp2_with fail
        refine (HC2.out _ (HH.out.below B4 (Nat.le_refl _))).mono ?_
        rintro _ _ ⟨rfl, rfl⟩
        go_wp2_with fail
        go_ret3
        exact ⟨by rw [HV.out]; rfl, B4⟩
      · rw [if_neg h1] at HC1
        by_cases h2 : c2 < 0
        · have HV : Hid (forA x zs = (0, 0, 4)) := by rw [hv, if_pos (.inr h2)]; rfl
          rw [if_pos h2] at HC2
          dsimp only [pairI] at HC1 HC2
          clear hv h1 h2
          go_enter Try.func11, Try.ntmps11
          go_wp2_with fail
          refine calls_gen (R := fun w' => Box w' w.heap.size [.int .i64 x.h.n, .int .i64 x.h.l, .int .i64 x.h.r, .int .i64 x.h.a, .int .i64 x.h.b, .int .i64 x.r.n, .int .i64 x.r.d, .int .i64 x.r.o, .int .i64 x.c] ∧ Below w.heap.size w w') ⟨Box.new rfl rfl, by go_grown⟩ ?_
          rintro W1 ⟨K1_0, B1⟩
          refine (HW.out _).mono ?_
          rintro _ W2 ⟨rfl, b2⟩
          have K2_0 := K1_0.below b2
          have B2 := upB B1 b2
          clear b2 K1_0 B1
          have k2_0_0 := K2_0.at_ 0 _ rfl
          have k2_0_1 := K2_0.at_ 1 _ rfl
          have k2_0_2 := K2_0.at_ 2 _ rfl
          have k2_0_3 := K2_0.at_ 3 _ rfl
          have k2_0_4 := K2_0.at_ 4 _ rfl
          have k2_0_5 := K2_0.at_ 5 _ rfl
          have k2_0_6 := K2_0.at_ 6 _ rfl
          have k2_0_7 := K2_0.at_ 7 _ rfl
          have k2_0_8 := K2_0.at_ 8 _ rfl
          have k2_0_f := K2_0.fr
          have k2_0_l := K2_0.lt
          go_wp2_with fail
          refine (HS.out _ (HH.out.below B2 (Nat.le_refl _))).mono ?_
          rintro _ _ ⟨rfl, rfl⟩
          go_wp2_with fail
          refine (HL1.out _).mono ?_
          rintro _ W3 ⟨rfl, b3⟩
          have K3_0 := K2_0.below b3
          clear k2_0_0 k2_0_1 k2_0_2 k2_0_3 k2_0_4 k2_0_5 k2_0_6 k2_0_7 k2_0_8 k2_0_f k2_0_l
          have B3 := upB B2 b3
          clear b3 K2_0 B2
          have k3_0_0 := K3_0.at_ 0 _ rfl
          have k3_0_1 := K3_0.at_ 1 _ rfl
          have k3_0_2 := K3_0.at_ 2 _ rfl
          have k3_0_3 := K3_0.at_ 3 _ rfl
          have k3_0_4 := K3_0.at_ 4 _ rfl
          have k3_0_5 := K3_0.at_ 5 _ rfl
          have k3_0_6 := K3_0.at_ 6 _ rfl
          have k3_0_7 := K3_0.at_ 7 _ rfl
          have k3_0_8 := K3_0.at_ 8 _ rfl
          have k3_0_f := K3_0.fr
          have k3_0_l := K3_0.lt
          go_wp2_with fail
          refine (HC1.out _ (HH.out.below B3 (Nat.le_refl _))).mono ?_
          rintro _ _ ⟨rfl, rfl⟩
          go_wp2_with fail
          refine (HL2.out _).mono ?_
          rintro _ W4 ⟨rfl, b4⟩
          have K4_0 := K3_0.below b4
          clear k3_0_0 k3_0_1 k3_0_2 k3_0_3 k3_0_4 k3_0_5 k3_0_6 k3_0_7 k3_0_8 k3_0_f k3_0_l
          have B4 := upB B3 b4
          clear b4 K3_0 B3
          have k4_0_0 := K4_0.at_ 0 _ rfl
          have k4_0_1 := K4_0.at_ 1 _ rfl
          have k4_0_2 := K4_0.at_ 2 _ rfl
          have k4_0_3 := K4_0.at_ 3 _ rfl
          have k4_0_4 := K4_0.at_ 4 _ rfl
          have k4_0_5 := K4_0.at_ 5 _ rfl
          have k4_0_6 := K4_0.at_ 6 _ rfl
          have k4_0_7 := K4_0.at_ 7 _ rfl
          have k4_0_8 := K4_0.at_ 8 _ rfl
          have k4_0_f := K4_0.fr
          have k4_0_l := K4_0.lt
          go_wp2_with fail
          refine (HC2.out _ (HH.out.below B4 (Nat.le_refl _))).mono ?_
          rintro _ _ ⟨rfl, rfl⟩
          go_wp2_with fail
          go_ret3
          exact ⟨by rw [HV.out]; rfl, B4⟩
        · have HV : Hid (forA x zs = (c1, c2, 0)) := by rw [hv, if_neg (by omega)]; rfl
          rw [if_neg h2] at HC2
          dsimp only [pairI] at HC1 HC2
          clear hv h1 h2
          go_enter Try.func11, Try.ntmps11
          go_wp2_with fail
          refine calls_gen (R := fun w' => Box w' w.heap.size [.int .i64 x.h.n, .int .i64 x.h.l, .int .i64 x.h.r, .int .i64 x.h.a, .int .i64 x.h.b, .int .i64 x.r.n, .int .i64 x.r.d, .int .i64 x.r.o, .int .i64 x.c] ∧ Below w.heap.size w w') ⟨Box.new rfl rfl, by go_grown⟩ ?_
          rintro W1 ⟨K1_0, B1⟩
          refine (HW.out _).mono ?_
          rintro _ W2 ⟨rfl, b2⟩
          have K2_0 := K1_0.below b2
          have B2 := upB B1 b2
          clear b2 K1_0 B1
          have k2_0_0 := K2_0.at_ 0 _ rfl
          have k2_0_1 := K2_0.at_ 1 _ rfl
          have k2_0_2 := K2_0.at_ 2 _ rfl
          have k2_0_3 := K2_0.at_ 3 _ rfl
          have k2_0_4 := K2_0.at_ 4 _ rfl
          have k2_0_5 := K2_0.at_ 5 _ rfl
          have k2_0_6 := K2_0.at_ 6 _ rfl
          have k2_0_7 := K2_0.at_ 7 _ rfl
          have k2_0_8 := K2_0.at_ 8 _ rfl
          have k2_0_f := K2_0.fr
          have k2_0_l := K2_0.lt
          go_wp2_with fail
          refine (HS.out _ (HH.out.below B2 (Nat.le_refl _))).mono ?_
          rintro _ _ ⟨rfl, rfl⟩
          go_wp2_with fail
          refine (HL1.out _).mono ?_
          rintro _ W3 ⟨rfl, b3⟩
          have K3_0 := K2_0.below b3
          clear k2_0_0 k2_0_1 k2_0_2 k2_0_3 k2_0_4 k2_0_5 k2_0_6 k2_0_7 k2_0_8 k2_0_f k2_0_l
          have B3 := upB B2 b3
          clear b3 K2_0 B2
          have k3_0_0 := K3_0.at_ 0 _ rfl
          have k3_0_1 := K3_0.at_ 1 _ rfl
          have k3_0_2 := K3_0.at_ 2 _ rfl
          have k3_0_3 := K3_0.at_ 3 _ rfl
          have k3_0_4 := K3_0.at_ 4 _ rfl
          have k3_0_5 := K3_0.at_ 5 _ rfl
          have k3_0_6 := K3_0.at_ 6 _ rfl
          have k3_0_7 := K3_0.at_ 7 _ rfl
          have k3_0_8 := K3_0.at_ 8 _ rfl
          have k3_0_f := K3_0.fr
          have k3_0_l := K3_0.lt
          go_wp2_with fail
          refine (HC1.out _ (HH.out.below B3 (Nat.le_refl _))).mono ?_
          rintro _ _ ⟨rfl, rfl⟩
          go_wp2_with fail
          refine (HL2.out _).mono ?_
          rintro _ W4 ⟨rfl, b4⟩
          have K4_0 := K3_0.below b4
          clear k3_0_0 k3_0_1 k3_0_2 k3_0_3 k3_0_4 k3_0_5 k3_0_6 k3_0_7 k3_0_8 k3_0_f k3_0_l
          have B4 := upB B3 b4
          clear b4 K3_0 B3
          have k4_0_0 := K4_0.at_ 0 _ rfl
          have k4_0_1 := K4_0.at_ 1 _ rfl
          have k4_0_2 := K4_0.at_ 2 _ rfl
          have k4_0_3 := K4_0.at_ 3 _ rfl
          have k4_0_4 := K4_0.at_ 4 _ rfl
          have k4_0_5 := K4_0.at_ 5 _ rfl
          have k4_0_6 := K4_0.at_ 6 _ rfl
          have k4_0_7 := K4_0.at_ 7 _ rfl
          have k4_0_8 := K4_0.at_ 8 _ rfl
          have k4_0_f := K4_0.fr
          have k4_0_l := K4_0.lt
          go_wp2_with fail
          refine (HC2.out _ (HH.out.below B4 (Nat.le_refl _))).mono ?_
          rintro _ _ ⟨rfl, rfl⟩
          go_wp2_with fail
          go_ret3
          exact ⟨by rw [HV.out]; rfl, B4⟩
end Go.Proofs.Ytifblmcocikopab
