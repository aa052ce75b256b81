/- Contracts of the model's stocks and choices of spokes. -/
import Derived.Test.YtifblmcocikopabSpoke1
import Derived.BigQuiet
import Derived.Deep.LoopGhost
namespace Go.Proofs.Ytifblmcocikopab
open Go.RowKit

/-- An answer; the world has at most drawn. -/
def Dr (v : Value) (w : World) (e : Ending) (w' : World) : Prop := e = .returned v ∧ ∃ d, w' = w.drewN d
theorem inQ (n a b : Int) (w : World) : Calls Try.prog 30 #[.int .i64 n, .int .i64 a, .int .i64 b] w fun e w' => e = .returned (.bool (inB n a b)) ∧ w' = w :=
  (inN2 n a b w).mono fun _ _ h => ⟨h.1, h.2.symm⟩

theorem inQ2 (n a b : Int) (w : World) (d x : Nat) : Calls Try.prog 30 #[.int .i64 n, .int .i64 a, .int .i64 b] (w.drewN (d + x)) fun e w' => e = .returned (.bool (inB n a b)) ∧ ∃ k, w' = w.drewN (d + k) :=
  (inN2 n a b _).mono fun _ _ h => ⟨h.1, x, h.2.symm⟩
theorem specRises (A : Option Addr) (n cap : Nat) (zs : List Int) (m : Int) (lo hi : Nat) (w : World) (h : Rd w lo hi A n (ints zs)) (hn : n ≤ 1048576) (m0 : 1 ≤ m) (m1 : m ≤ 1000000) :
    Calls Try.prog 44 #[.slice A n cap, .int .i64 m] w (Dr (.bool (riseTo zs m n)) w) := by
  have hz : zs.length = n := by have := h.len; rwa [ints_len] at this
  have HZ := Go.Lib.hid hz
  clear hz
  go_enter Try.func44, Try.ntmps44
  go_wp2_with fail
  go_loopw [5] (fun i wr => ∃ k d : Nat, k ≤ n ∧ i = .int .i64 k ∧ wr = w.drewN d ∧ riseTo zs m k = true) (fun i _ => n - (intOf i).toNat)
  case atStart => exact ⟨0, 0, Nat.zero_le _, rfl, rfl, rfl⟩
  case round =>
    obtain ⟨k, d, hk, rfl, rfl, hr⟩ := hrel
    have hm1 : IntKind.i64.wrap (m - 1) = m - 1 := IntWalk.i64_in _ (by omega)
    by_cases hlt : k < n
    · obtain ⟨b, o, rfl, p, q, c⟩ := h.at_ hlt
      have hkz : k < zs.length := by have := HZ.out; omega
      have hcell : w.cell? ⟨b, o + k, none⟩ = some (.int .i64 (zs.getD k 0)) := c k _ (ints_at zs k hkz)
      have hnx := riseTo_next zs m k
      rw [hr, Bool.true_and] at hnx
      have hat : riseAt zs m k = (inB (zs.getD k 0) 0 (m - 1) && (decide (k = 0) || decide (zs.getD (k - 1) 0 < zs.getD k 0))) := rfl
      have HNO := Go.Lib.hid (fun e => riseTo_no (L := zs) (n := m) hlt e)
      have HI := Go.Lib.hid (fun d0 x0 => inQ2 (zs.getD k 0) 0 (m - 1) w d0 x0)
      cases hb : inB (zs.getD k 0) 0 (m - 1)
      · rw [hb, Bool.false_and] at hat
        have HF := Go.Lib.hid (HNO.out hat)
        rw [hb] at HI
        generalize zs.getD k 0 = x at hcell HI
        clear hat hnx hb c HNO hr h
        go_wp2_with fail
        go_quiet ((go_at_call 30; exact HI.out _ _))
        go_wp2
        go_ret
        exact ⟨by rw [HF.out]; rfl, _, by first | rfl | exact World.drewN_drewN _ _ _⟩
      · rw [hb] at HI
        rw [hb, Bool.true_and] at hat
        by_cases h0 : k = 0
        · have HN : Hid (riseTo zs m (k + 1) = true) := by rw [hnx, hat, decide_eq_true h0]; rfl
          subst h0
          generalize zs.getD 0 0 = x at hcell HI
          rw [Nat.add_zero] at hcell
          clear hat hnx hb c HNO hr h
          go_wp2_with fail
          go_quiet ((go_at_call 30; exact HI.out _ _))
          go_wp2
          go_roundw
          case rel => exact ⟨1, _, by omega, by go_num, rfl, HN.out⟩
          case measure => simp [intOf]; omega
        · have hk1 : ((k - 1 : Nat) : Int) = (k : Int) - 1 := by omega
          have hcell2 : w.cell? ⟨b, o + (k - 1), none⟩ = some (.int .i64 (zs.getD (k - 1) 0)) := c (k - 1) _ (ints_at zs (k - 1) (by omega))
          have hk0 : (0 : Int) < (k : Int) := by omega
          have hk2 : 0 < k := by omega
          have i1 : IntKind.i64.wrap ((k : Int) - 1) = (k : Int) - 1 := IntWalk.i64_in _ (by omega)
          have i2 : (0 : Int) ≤ (k : Int) - 1 := by omega
          have i3 : (k : Int) - 1 < (n : Int) := by omega
          have i4 : ((k : Int) - 1).toNat = k - 1 := by omega
          rw [decide_eq_false h0, Bool.false_or] at hat
          generalize zs.getD k 0 = x at hcell HI hat
          generalize zs.getD (k - 1) 0 = y at hcell2 hat
          by_cases hy : y < x
          · have HN : Hid (riseTo zs m (k + 1) = true) := by rw [hnx, hat, decide_eq_true hy]; rfl
            have hd : decide (x ≤ y) = false := by simpa using hy
            clear hat hnx hb c HNO hr h h0 hk1
            go_wp2_with fail
            go_quiet ((go_at_call 30; exact HI.out _ _))
            go_wp2
            go_roundw
            case rel => exact ⟨k + 1, _, by omega, by go_num, rfl, HN.out⟩
            case measure => simp [intOf]; omega
          · have HF := Go.Lib.hid (HNO.out (by rw [hat, decide_eq_false hy]))
            have hd : decide (x ≤ y) = true := by simpa using hy
            clear hat hnx hb c HNO hr h h0 hk1
            go_wp2_with fail
            go_quiet ((go_at_call 30; exact HI.out _ _))
            go_wp2
            go_ret
            exact ⟨by rw [HF.out]; rfl, _, by first | rfl | exact World.drewN_drewN _ _ _⟩
    · obtain rfl : k = n := by omega
      go_wp2
      go_ret
      exact ⟨by rw [hr]; rfl, d, rfl⟩
theorem specStock (A : Option Addr) (n cap : Nat) (zs : List Int) (lo hi : Nat) (w : World) (h : Rd w lo hi A n (ints zs)) (hn : n ≤ 1048576) :
    Calls Try.prog 29 #[.slice A n cap] w (Dr (.bool (stockB zs)) w) := by
  have hz : zs.length = n := by have := h.len; rwa [ints_len] at this
  have HR := Go.Lib.hid (specRises A n cap zs 5001 lo hi w h hn (by omega) (by omega))
  have hv : stockB zs = (riseTo zs 5001 n && decide (n ≤ 30)) := by unfold stockB; rw [hz]
  rw [hv]
  clear hv hz h
  generalize riseTo zs 5001 n = r at HR ⊢
  cases r
  · go_enter Try.func29, Try.ntmps29
    go_wp2_with fail
    refine HR.out.mono ?_
    rintro _ _ ⟨rfl, d, rfl⟩
    go_wp2_with fail
    go_ret
    exact ⟨rfl, _, rfl⟩
  · by_cases h3 : n ≤ 30
    · have hd : decide ((n : Int) ≤ 30) = true := by simp; omega
      rw [decide_eq_true h3]
      go_enter Try.func29, Try.ntmps29
      go_wp2_with fail
      refine HR.out.mono ?_
      rintro _ _ ⟨rfl, d, rfl⟩
      go_wp2_with fail
      go_ret
      exact ⟨rfl, _, rfl⟩
    · have hd : decide ((n : Int) ≤ 30) = false := by simp; omega
      rw [decide_eq_false h3]
      go_enter Try.func29, Try.ntmps29
      go_wp2_with fail
      refine HR.out.mono ?_
      rintro _ _ ⟨rfl, d, rfl⟩
      go_wp2_with fail
      go_ret
      exact ⟨rfl, _, rfl⟩
theorem specChoose (A : Option Addr) (n cap : Nat) (zs : List Int) (m : Int) (lo hi : Nat) (w : World) (h : Rd w lo hi A n (ints zs)) (hn : n ≤ 1048576) (m0 : -1000000 ≤ m) (m1 : m ≤ 1000000) :
    Calls Try.prog 31 #[.slice A n cap, .int .i64 m] w (Dr (.int .i64 (choL zs m)) w) := by
  have hz : zs.length = n := by have := h.len; rwa [ints_len] at this
  have HZ := Go.Lib.hid hz
  have HV : Hid (choL zs m = choTo zs m n) := by unfold choL; rw [hz]; rfl
  clear hz
  have w1 : IntKind.i64.wrap ((n : Int) - 1) = (n : Int) - 1 := IntWalk.i64_in _ (by omega)
  have w2 : IntKind.i64.wrap (m - 20) = m - 20 := IntWalk.i64_in _ (by omega)
  have w3 : IntKind.i64.wrap (m + 10) = m + 10 := IntWalk.i64_in _ (by omega)
  go_enter Try.func31, Try.ntmps31
  go_wp2_with fail
  go_loopw [5] (fun i wr => ∃ k d : Nat, k ≤ n ∧ i = .int .i64 ((k : Int) - 1) ∧ wr = w.drewN d ∧ choL zs m = choTo zs m k) (fun i _ => (intOf i + 1).toNat)
  case atStart => exact ⟨n, 0, Nat.le_refl _, rfl, rfl, HV.out⟩
  case round =>
    clear HV w1
    obtain ⟨k, d, hk, rfl, rfl, hc⟩ := hrel
    cases k with
    | zero =>
      have HC : Hid (choL zs m = -1) := hc
      clear hc
      go_wp2_with fail
      go_ret
      exact ⟨by rw [HC.out]; rfl, _, rfl⟩
    | succ j =>
      have ej : ((j + 1 : Nat) : Int) - 1 = j := by omega
      rw [ej]
      obtain ⟨b, o, rfl, p, q, c⟩ := h.at_ (k := j) (by omega)
      have hkz : j < zs.length := by have := HZ.out; omega
      have hcell : w.cell? ⟨b, o + j, none⟩ = some (.int .i64 (zs.getD j 0)) := c j _ (ints_at zs j hkz)
      have hst : choTo zs m (j + 1) = if inB (zs.getD j 0) (m - 20) (m + 10) then zs.getD j 0 else choTo zs m j := rfl
      rw [hst] at hc
      have HI := Go.Lib.hid (fun d0 x0 => inQ2 (zs.getD j 0) (m - 20) (m + 10) w d0 x0)
      have HI1 := Go.Lib.hid (fun w0 => inQ (zs.getD j 0) (m - 20) (m + 10) w0)
      have w4 : IntKind.i64.wrap ((j : Int) - 1) = (j : Int) - 1 := IntWalk.i64_in _ (by omega)
      generalize inB (zs.getD j 0) (m - 20) (m + 10) = bb at *
      generalize zs.getD j 0 = x at hcell HI HI1 hc
      cases bb
      · rw [if_neg (by simp)] at hc
        have HC := Go.Lib.hid hc
        clear hc c ej hst h
        go_wp2_with fail
        first
          | (go_quiet ((go_at_call 30; exact HI.out _ _)))
          | (refine (HI1.out _).mono ?_; rintro _ _ ⟨rfl, rfl⟩)
        go_wp2
        go_roundw
        case rel => exact ⟨j, _, by omega, by first | rfl | go_num, by first | rfl | exact World.drewN_drewN _ _ _, HC.out⟩
        case measure => simp [intOf]
      · rw [if_pos rfl] at hc
        have HC := Go.Lib.hid hc
        clear hc c ej hst h
        go_wp2_with fail
        first
          | (go_quiet ((go_at_call 30; exact HI.out _ _)))
          | (refine (HI1.out _).mono ?_; rintro _ _ ⟨rfl, rfl⟩)
        go_wp2
        go_ret
        exact ⟨by rw [HC.out]; rfl, _, by first | rfl | exact World.drewN_drewN _ _ _⟩
theorem specChooseSpoke (A : Option Addr) (n cap : Nat) (zs : List Int) (m : Int) (lo hi : Nat) (w : World) (h : Rd w lo hi A n (ints zs)) (hn : n ≤ 1048576) : Calls Try.prog 9 #[.slice A n cap, .int .i64 m] w (Dr (pairI (choA zs m)) w) := by
  have HS := Go.Lib.hid (specStock A n cap zs lo hi w h hn)
  cases hs : stockB zs
  · rw [hs] at HS
    have HV : Hid (choA zs m = (0, 1)) := by unfold choA; rw [hs]; rfl
    clear hs
    go_enter Try.func9, Try.ntmps9
    go_wp2_with fail
    refine HS.out.mono ?_
    rintro _ _ ⟨rfl, d, rfl⟩
    go_wp2_with fail
    go_ret2
    exact ⟨by rw [HV.out]; rfl, _, by first | rfl | exact World.drewN_drewN _ _ _⟩
  · rw [hs] at HS
    have HI := Go.Lib.hid (fun w0 => inQ m 0 5000 w0)
    cases hi2 : inB m 0 5000
    · rw [hi2] at HI
      have HV : Hid (choA zs m = (0, 2)) := by unfold choA; rw [hs, hi2]; rfl
      clear hs hi2
      go_enter Try.func9, Try.ntmps9
      go_wp2_with fail
      refine HS.out.mono ?_
      rintro _ _ ⟨rfl, d, rfl⟩
      go_wp2_with fail
      refine (HI.out _).mono ?_
      rintro _ _ ⟨rfl, rfl⟩
      go_wp2_with fail
      go_ret2
      exact ⟨by rw [HV.out]; rfl, _, by first | rfl | exact World.drewN_drewN _ _ _⟩
    · rw [hi2] at HI
      obtain ⟨m0, m1⟩ := inB_iff.1 hi2
      have HC := Go.Lib.hid (fun d => specChoose A n cap zs m lo hi (w.drewN d) (h.drewN d) hn (by omega) (by omega))
      have hv : choA zs m = if choL zs m < 0 then (0, 4) else (choL zs m, 0) := by unfold choA; rw [hs, hi2]; rfl
      clear hs hi2 m0 m1
      generalize choL zs m = c at *
      by_cases hc : c < 0
      · have HV : Hid (choA zs m = (0, 4)) := by rw [hv, if_pos hc]; rfl
        clear hv
        go_enter Try.func9, Try.ntmps9
        go_wp2_with fail
        refine HS.out.mono ?_
        rintro _ _ ⟨rfl, d, rfl⟩
        go_wp2_with fail
        refine (HI.out _).mono ?_
        rintro _ _ ⟨rfl, rfl⟩
        go_wp2_with fail
        refine (HC.out _).mono ?_
        rintro _ _ ⟨rfl, d2, rfl⟩
        go_wp2_with fail
        go_ret2
        exact ⟨by rw [HV.out]; rfl, _, by first | rfl | exact World.drewN_drewN _ _ _⟩
      · have HV : Hid (choA zs m = (c, 0)) := by rw [hv, if_neg hc]; rfl
        clear hv
        go_enter Try.func9, Try.ntmps9
        go_wp2_with fail
        refine HS.out.mono ?_
        rintro _ _ ⟨rfl, d, rfl⟩
        go_wp2_with fail
        refine (HI.out _).mono ?_
        rintro _ _ ⟨rfl, rfl⟩
        go_wp2_with fail
        refine (HC.out _).mono ?_
        rintro _ _ ⟨rfl, d2, rfl⟩
        go_wp2_with fail
        go_ret2
        exact ⟨by rw [HV.out]; rfl, _, by first | rfl | exact World.drewN_drewN _ _ _⟩
end Go.Proofs.Ytifblmcocikopab
