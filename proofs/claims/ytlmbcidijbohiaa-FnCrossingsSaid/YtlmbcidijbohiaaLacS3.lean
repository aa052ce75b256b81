/- The model: the usual lacing; crossings. -/
import Derived.Test.YtlmbcidijbohiaaLacS2
import Derived.Test.YtlmbcidijbohiaaLacIEven
import Derived.Test.YtlmbcidijbohiaaPlainLac3
namespace Go.Proofs.Ytlmbcidijbohiaa
open Go.RowKit
set_option linter.unusedSimpArgs false
set_option linter.unusedVariables false

set_option maxRecDepth 100000 in
set_option maxHeartbeats 4000000 in
theorem specUsual (n cr : Int) (w : World) : Calls Try.prog 23 #[.int .i64 n, .int .i64 cr] w (GivesLN (usualR n cr) w) := by
  have H1 := Go.Lib.hid (fun w0 => specHoles6 n w0)
  by_cases hh : holes6 n = true
  case neg =>
    rw [Bool.not_eq_true] at hh
    rw [hh] at H1
    have HV := Go.Lib.hid (show usualR n cr = ([], 1) by simp [usualR, hh])
    clear hh
    go_enter Try.func23, Try.ntmps23
    go_wp2_with fail
    refine (H1.out _).mono ?_
    rintro _ w1 ⟨rfl, b1⟩
    have B1 := Go.Lib.hid b1
    clear b1
    go_wp2_with fail
    go_ret2
    exact GivesLN.nil HV.out B1.out
  case pos =>
  rw [hh] at H1
  obtain ⟨r0, r1, r2⟩ := holes6_bd hh
  have HR := Go.Lib.hid (fun w0 => inN cr 0 (n / 2 - 1) w0)
  have q1 : n.tdiv 2 = n / 2 := Int.tdiv_eq_ediv_of_nonneg (by omega)
  by_cases hp : 0 ≤ cr ∧ cr ≤ n / 2 - 1
  case neg =>
    have hp' : (decide (0 ≤ cr) && decide (cr ≤ n / 2 - 1)) = false := by simp; omega
    rw [hp'] at HR
    have HV := Go.Lib.hid (show usualR n cr = ([], 2) by unfold usualR; rw [if_pos hh, if_neg hp])
    clear hh hp hp'
    go_enter Try.func23, Try.ntmps23
    go_wp2_with fail
    refine (H1.out _).mono ?_
    rintro _ w1 ⟨rfl, b1⟩
    have B1 := Go.Lib.hid b1
    clear b1
    go_wp2_with fail
    refine (HR.out _).mono ?_
    rintro _ _ ⟨rfl, rfl⟩
    go_wp2_with fail
    go_ret2
    exact GivesLN.nil HV.out B1.out
  case pos =>
  have hp' : (decide (0 ≤ cr) && decide (cr ≤ n / 2 - 1)) = true := by simpa using hp
  rw [hp'] at HR
  have HV := Go.Lib.hid (show usualR n cr = (usualI n cr, 0) by unfold usualR; rw [if_pos hh, if_pos hp])
  obtain ⟨p0, p1⟩ := hp
  have p2 : cr ≤ 12 := by omega
  obtain ⟨i0, hi, hz0, hz1, hz2⟩ := info_parts infoI64
  clear hh hp'
  obtain ⟨m, rfl⟩ := Int.eq_ofNat_of_zero_le (show 0 ≤ n by omega)
  have R2 := Go.Lib.hid r2
  clear r2
  go_enter Try.func23, Try.ntmps23
  go_wp2_with fail
  refine (H1.out _).mono ?_
  rintro _ w1 ⟨rfl, b1⟩
  have HG := Go.Lib.hid (Gat.start b1)
  clear b1 H1
  go_wp2_with fail
  refine (HR.out _).mono ?_
  rintro _ _ ⟨rfl, rfl⟩
  go_wp2_with fail
  go_loopw [6, 7] (fun o i wr => ∃ k : Nat, k ≤ m ∧ i = .int .i64 k ∧ Gat w ((List.range k).map (fun (k : Nat) => (if k % 2 = 1 then (k : Int) - cr else k + cr) % (m : Int))) o wr) (fun _ i _ => m - (intOf i).toNat)
  case atStart => exact ⟨0, Nat.zero_le _, rfl, HG.out⟩
  case round =>
    obtain ⟨k, hk, rfl, hgat⟩ := hrel
    clear HG
    by_cases hlt : k < m
    case neg =>
      obtain rfl : k = m := by omega
      have HF := Go.Lib.hid (hgat.done (p := usualR k cr) (by rw [HV.out]; rfl))
      clear hgat
      go_wp2_with fail
      go_ret2
      exact HF.out
    case pos =>
      have hkl : (k : Int) < m := by omega
      have hk0 : (0 : Int) ≤ k := by omega
      have hrow := hgat.row
      have hbs := hgat.b.size
      have hln : ((List.range k).map (fun (k : Nat) => (if k % 2 = 1 then (k : Int) - cr else k + cr) % (m : Int))).length = k := by simp
      have HLN := Go.Lib.hid hln
      rw [hln] at hrow
      have HGT := Go.Lib.hid hgat
      clear hgat hln
      by_cases hpar : k % 2 = 1
      case pos =>
        have HS := Go.Lib.hid (show (List.range (k + 1)).map (fun (k : Nat) => (if k % 2 = 1 then (k : Int) - cr else k + cr) % (m : Int)) = (List.range k).map (fun (k : Nat) => (if k % 2 = 1 then (k : Int) - cr else k + cr) % (m : Int)) ++ [((k : Int) - cr) % (m : Int)] by simp [List.range_succ, hpar])
        have hq : (k : Int).tmod 2 = 1 := by rw [Int.tmod_eq_emod_of_nonneg hk0]; omega
        have hq2 : (k : Int) % 2 = 1 := by omega
        have HCALL := Go.Lib.hid (specMod ((k : Int) - cr) m wr (by omega) (by omega) (by omega) (by omega))
        generalize (List.range k).map (fun (k : Nat) => (if k % 2 = 1 then (k : Int) - cr else k + cr) % (m : Int)) = ms at *
        generalize ((k : Int) - cr) % (m : Int) = z at *
        clear hpar
        go_wp2_with fail
        refine HCALL.out.mono ?_
        rintro _ _ ⟨rfl, rfl⟩
        go_wp2_with (at_builtin; refine wpList_append_own_at _ rfl _ _ 24 rfl w.heap.size 2 i0 (.int .i64 0) 1 8 Try.underlying24 hi hz0 hz1 hz2 rfl (by decide) _ _ _ rfl (hrow.alloc _) ⟨wr.heap.size, 0, none⟩ 1 1 [.int .i64 z] rfl rfl (cell_one_new _ _ _) (by simp [Value.oneCell']) (by unfold maxLen; omega) (by omega) (by simp; omega) ?_; intro v' w3 hown' hgrow hnil hat; clear hnil hat)
        have HN := Go.Lib.hid (HGT.out.step (by rw [HLN.out]; exact hown') hgrow)
        clear hown' hgrow hrow
        go_wp2_with fail
        go_roundw
        case rel => exact ⟨k + 1, by omega, by go_num, by rw [HS.out]; exact HN.out⟩
        case measure => simp [intOf]; omega
      case neg =>
        have HS := Go.Lib.hid (show (List.range (k + 1)).map (fun (k : Nat) => (if k % 2 = 1 then (k : Int) - cr else k + cr) % (m : Int)) = (List.range k).map (fun (k : Nat) => (if k % 2 = 1 then (k : Int) - cr else k + cr) % (m : Int)) ++ [((k : Int) + cr) % (m : Int)] by simp [List.range_succ, hpar])
        have hq : (k : Int).tmod 2 = 0 := by rw [Int.tmod_eq_emod_of_nonneg hk0]; omega
        have hq2 : (k : Int) % 2 = 0 := by omega
        have HCALL := Go.Lib.hid (specMod ((k : Int) + cr) m wr (by omega) (by omega) (by omega) (by omega))
        generalize (List.range k).map (fun (k : Nat) => (if k % 2 = 1 then (k : Int) - cr else k + cr) % (m : Int)) = ms at *
        generalize ((k : Int) + cr) % (m : Int) = z at *
        clear hpar
        go_wp2_with fail
        refine HCALL.out.mono ?_
        rintro _ _ ⟨rfl, rfl⟩
        go_wp2_with (at_builtin; refine wpList_append_own_at _ rfl _ _ 24 rfl w.heap.size 2 i0 (.int .i64 0) 1 8 Try.underlying24 hi hz0 hz1 hz2 rfl (by decide) _ _ _ rfl (hrow.alloc _) ⟨wr.heap.size, 0, none⟩ 1 1 [.int .i64 z] rfl rfl (cell_one_new _ _ _) (by simp [Value.oneCell']) (by unfold maxLen; omega) (by omega) (by simp; omega) ?_; intro v' w3 hown' hgrow hnil hat; clear hnil hat)
        have HN := Go.Lib.hid (HGT.out.step (by rw [HLN.out]; exact hown') hgrow)
        clear hown' hgrow hrow
        go_wp2_with fail
        go_roundw
        case rel => exact ⟨k + 1, by omega, by go_num, by rw [HS.out]; exact HN.out⟩
        case measure => simp [intOf]; omega

set_option maxRecDepth 100000 in
set_option maxHeartbeats 4000000 in
theorem specCount (n : Int) (A : Option Addr) (c : Nat) (zs : List Int) (k : Nat) (w : World) (lo hi : Nat) (h0 : Rd w lo hi A zs.length (ints zs)) (hL : Lac n zs) (hk : k < zs.length) :
    Calls Try.prog 62 #[.int .i64 n, .slice A zs.length c, .int .i64 k] w (IsV w (.int .i64 (countAt n zs k : Nat))) := by
  have h := Go.Lib.hid h0.here
  clear h0
  have hlen := hL.len
  obtain ⟨r0, r1, r2⟩ := hL.rim
  have R2 := Go.Lib.hid r2
  have HL := Go.Lib.hid hL
  have HALL := Go.Lib.hid (cntD_all hlen hk)
  clear hL r2
  subst hlen
  have hkn : (k : Int) < zs.length := by omega
  go_enter Try.func62, Try.ntmps62
  go_wp2_with fail
  go_loopw [7, 8] (fun q i wr => ∃ j : Nat, j + 1 ≤ zs.length ∧ i = .int .i64 ((j : Int) + 1) ∧ q = .int .i64 (cntD zs.length zs k j : Nat) ∧ Eqw w wr) (fun _ i _ => zs.length - (intOf i).toNat)
  case atStart => exact ⟨0, by omega, rfl, rfl, Eqw.refl _⟩
  case round =>
    obtain ⟨j, hj, rfl, rfl, hwr⟩ := hrel
    have HW := Go.Lib.hid hwr
    by_cases hlt : j + 1 < zs.length
    case neg =>
      obtain rfl : j = zs.length - 1 := by omega
      rw [HALL.out]
      have hj1 : ((zs.length - 1 : Nat) : Int) + 1 = zs.length := by omega
      rw [hj1]
      clear hwr
      go_wp2_with fail
      go_ret
      exact ⟨rfl, HW.out.below (Below.refl _ _)⟩
    case pos =>
      have hl := far_lt (m := zs.length) (k := k) (i := j) (by omega)
      have hin : In0 (zs.length : Int) (far zs.length k j : Nat) := ⟨by omega, by omega⟩
      have HSH := Go.Lib.hid (fun (l : Nat) (hl : l < zs.length) => specShift zs.length A c zs l wr.drew _ _ (hwr.drew.rd h.out) HL.out hl)
      have HX := Go.Lib.hid (cntD_succ zs.length zs k j)
      have hcl := cntD_le zs.length zs k j
      have s1 := shiftI_bd (n := zs.length) (k := k) (z := zs.getD k 0) (by omega) R2.out
      have s2 := shiftI_bd (n := zs.length) (k := (far zs.length k j : Nat)) (z := zs.getD (far zs.length k j) 0) (by omega) R2.out
      have hw1 : IntKind.i64.wrap ((k : Int) + ((j : Int) + 1)) = (k : Int) + ((j : Int) + 1) := IntWalk.i64_in _ (by omega)
      have ht : ((k : Int) + ((j : Int) + 1)).tmod (zs.length : Int) = ((far zs.length k j : Nat) : Int) := by
        rw [Int.tmod_eq_emod_of_nonneg (by omega)]
        unfold far
        rw [show (k : Int) + ((j : Int) + 1) = ((k + (j + 1) : Nat) : Int) by omega]
        exact (Int.natCast_emod _ _).symm
      have HCD := Go.Lib.hid (show crossD zs.length zs k (far zs.length k j) ((j : Int) + 1) = (decide (shAt zs.length zs k - shAt zs.length zs (far zs.length k j) > (j : Int) + 1) || decide (shAt zs.length zs k - shAt zs.length zs (far zs.length k j) < (j : Int) + 1 - zs.length)) from rfl)
      change -((zs.length : Int) / 2) ≤ shAt zs.length zs k ∧ shAt zs.length zs k < (zs.length : Int) / 2 at s1
      change -((zs.length : Int) / 2) ≤ shAt zs.length zs (far zs.length k j) ∧ shAt zs.length zs (far zs.length k j) < (zs.length : Int) / 2 at s2
      have hw2 : IntKind.i64.wrap (shAt zs.length zs k - shAt zs.length zs (far zs.length k j)) = shAt zs.length zs k - shAt zs.length zs (far zs.length k j) := IntWalk.i64_in _ (by omega)
      generalize far zs.length k j = l at *
      generalize cntD zs.length zs k j = q at *
      have hne : ¬ zs = [] := by rintro rfl; simp at hk
      clear hwr hin
      go_upto_region 5 with fail
      go_region_held3 (fun w' => Eqw w w') (first | exact HW.out.drew | assumption) ((go_at_call 52; refine (HSH.out _ (by assumption)).mono ?_; rintro _ _ ⟨rfl, rfl⟩))
      generalize shAt zs.length zs k - shAt zs.length zs l = u at *
      clear s1 s2
      by_cases h1 : (j : Int) + 1 < u
      case pos =>
        have hc : crossD zs.length zs k l ((j : Int) + 1) = true := by rw [HCD.out]; simp [h1]
        rw [hc] at HX
        clear hc
        go_wp2_with fail
        go_roundw
        case rel => exact ⟨j + 1, by omega, by go_num, by rw [HX.out]; go_num, HW.out.drew⟩
        case measure => simp [intOf]; omega
      case neg =>
        by_cases h2 : u < (j : Int) + 1 - zs.length
        case pos =>
          have hc : crossD zs.length zs k l ((j : Int) + 1) = true := by rw [HCD.out]; simp [h2]
          rw [hc] at HX
          clear hc
          go_wp2_with fail
          go_roundw
          case rel => exact ⟨j + 1, by omega, by go_num, by rw [HX.out]; go_num, HW.out.drew⟩
          case measure => simp [intOf]; omega
        case neg =>
          have hc : crossD zs.length zs k l ((j : Int) + 1) = false := by rw [HCD.out]; simp; omega
          rw [hc] at HX
          clear hc
          go_wp2_with fail
          go_roundw
          case rel => exact ⟨j + 1, by omega, by go_num, by rw [HX.out]; rfl, HW.out.drew⟩
          case measure => simp [intOf]; omega
end Go.Proofs.Ytlmbcidijbohiaa
