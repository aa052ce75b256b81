/- The program: shifts; do two spokes cross? -/
import Derived.Test.YtlmbcidijbohiaaLacI1
import Derived.Test.YtlmbcidijbohiaaPlainLac2
import Derived.Deep.RegionHeld3
import Derived.Deep.DeepCutAuto
namespace Go.Proofs.Ytlmbcidijbohiaa
open Go.RowKit
attribute [local go_sem] Oper.semAt_some

/-- 0 to n - 1. -/
def In0 (n x : Int) : Prop := 0 ≤ x ∧ x < n
structure Rim6 (n : Int) : Prop where
  lo : 6 ≤ n
  hi : n ≤ 24
  ev : n % 2 = 0
theorem Lac.rim {n : Int} {zs : List Int} (h : Lac n zs) : Rim6 n := ⟨(holes6_bd h.ok).1, (holes6_bd h.ok).2.1, (holes6_bd h.ok).2.2⟩
theorem Lac.in0 {n : Int} {zs : List Int} (h : Lac n zs) {k : Nat} (hk : k < zs.length) : In0 n (zs.getD k 0) := by
  have : zs.getD k 0 = zs[k] := by simp [hk]
  rw [this]
  exact h.rng _ (List.getElem_mem hk)
theorem quo_half {n : Int} (h : Rim6 n) : n.tdiv 2 = n / 2 ∧ (-n).tdiv 2 = -(n / 2) := by
  have h1 := Int.tdiv_eq_ediv_of_nonneg (a := n) (b := 2) (by have := h.lo; omega)
  exact ⟨h1, by rw [Int.neg_tdiv, h1]⟩

theorem implShift (n k z : Int) (w : World) (hr : Rim6 n) (hk : In0 n k) (hz : In0 n z) :
    Calls Try.prog 50 #[.int .i64 n, .int .i64 k, .int .i64 z] w (Just (.int .i64 (shiftI n k z)) w) := by
  obtain ⟨k0, k1⟩ := hk
  obtain ⟨z0, z1⟩ := hz
  obtain ⟨q1, q2⟩ := quo_half hr
  obtain ⟨r0, r1, r2⟩ := hr
  have r2' : Hid (n % 2 = 0) := Go.Lib.hid r2
  have hw : wrap64 (-n.tdiv 2) = -(n / 2) := by rw [q1]; unfold wrap64; omega
  have hw2 : wrap64 (-(n / 2)) = -(n / 2) := by unfold wrap64; omega
  clear r2 q2
  by_cases hl : z - k < -(n / 2)
  · have e := Go.Lib.hid (shiftI_low (n := n) (k := k) (z := z) (by omega) r2'.out (by omega) (by omega))
    go_enter Try.func50, Try.ntmps50
    go_wp2
    go_ret
    exact ⟨by rw [e.out]; rfl, rfl⟩
  · by_cases hh : n / 2 ≤ z - k
    · have e := Go.Lib.hid (shiftI_high (n := n) (k := k) (z := z) (by omega) r2'.out (by omega) (by omega))
      go_enter Try.func50, Try.ntmps50
      go_wp2
      go_ret
      exact ⟨by rw [e.out]; rfl, rfl⟩
    · have e := Go.Lib.hid (shiftI_mid (n := n) (k := k) (z := z) (by omega) (by omega) r2'.out (by omega))
      go_enter Try.func50, Try.ntmps50
      go_wp2
      go_ret
      exact ⟨by rw [e.out]; rfl, rfl⟩

set_option maxRecDepth 100000 in
set_option maxHeartbeats 4000000 in
theorem implCross (n : Int) (A : Option Addr) (c : Nat) (zs : List Int) (k l : Nat) (w : World) (lo hi : Nat) (h : Rd w lo hi A zs.length (ints zs)) (hL : Lac n zs) (hk : k < zs.length) (hl : l < zs.length) (hkl : l ≠ k) :
    Calls Try.prog 68 #[.int .i64 n, .slice A zs.length c, .int .i64 k, .int .i64 l] w fun e w' => e = .returned (.bool (crossB n zs k l)) ∧ ∃ m, w' = w.drewN m := by
  have hlen := hL.len
  obtain ⟨r0, r1, r2⟩ := hL.rim
  have HR := Go.Lib.hid hL.rim
  have ik : In0 n (k : Int) := ⟨by omega, by omega⟩
  have il : In0 n (l : Int) := ⟨by omega, by omega⟩
  have zk := hL.in0 hk
  have zl := hL.in0 hl
  have HSH := Go.Lib.hid (fun (k z : Int) (w0 : World) (a : In0 n k) (b : In0 n z) => implShift n k z w0 HR.out a b)
  obtain ⟨b, o, rfl, -, -, hc⟩ := h.at_ hk
  have d1 := hc k _ (ints_at zs k hk)
  have d2 := hc l _ (ints_at zs l hl)
  have s1 := shiftI_bd (n := n) (k := k) (z := zs.getD k 0) (by omega) r2
  have s2 := shiftI_bd (n := n) (k := l) (z := zs.getD l 0) (by omega) r2
  have hd0 := Int.emod_nonneg ((l : Int) - k + n) (show n ≠ 0 by omega)
  have hd1 := Int.emod_lt_of_pos ((l : Int) - k + n) (show 0 < n by omega)
  have hmod : ((l : Int) - k + n).tmod n = ((l : Int) - k + n) % n := Int.tmod_eq_emod_of_nonneg (by omega)
  have HV := Go.Lib.hid (show crossB n zs k l = (decide (shiftI n k (zs.getD k 0) - shiftI n l (zs.getD l 0) > ((l : Int) - k + n) % n) || decide (shiftI n k (zs.getD k 0) - shiftI n l (zs.getD l 0) < ((l : Int) - k + n) % n - n)) from rfl)
  generalize zs.getD k 0 = x at d1 s1 zk HV
  generalize zs.getD l 0 = y at d2 s2 zl HV
  generalize ((l : Int) - k + n) % n = d at hd0 hd1 hmod HV
  clear hc h hkl hL
  have HLN := Go.Lib.hid hlen
  have R2 := Go.Lib.hid r2
  clear hlen r2
  have hk' : (k : Int) < zs.length := by omega
  have hl' : (l : Int) < zs.length := by omega
  have hkn : (k : Int) < n := ik.2
  have hln : (l : Int) < n := il.2
  have w1 : IntKind.i64.wrap (shiftI n k x - shiftI n l y) = shiftI n k x - shiftI n l y := IntWalk.i64_in _ (by omega)
  go_enter Try.func68, Try.ntmps68
  go_upto_region 2 with fail
  go_region_held3 (fun w' => w'.cell? ⟨b, o + k, none⟩ = some (.int .i64 x) ∧ w'.cell? ⟨b, o + l, none⟩ = some (.int .i64 y) ∧ ∃ m, w' = w.drewN m) (first | exact ⟨d1, d2, 1, rfl⟩ | (go_split_ands; assumption) | assumption)
    ((go_at_call 50; refine (HSH.out _ _ _ (by assumption) (by assumption)).mono ?_; rintro _ _ ⟨rfl, rfl⟩))
  generalize shiftI n k x - shiftI n l y = u at *
  by_cases h1 : d < u
  · have hres := Go.Lib.hid (show crossB n zs k l = true by rw [HV.out]; simp [h1])
    go_wp2
    go_ret
    exact ⟨by rw [hres.out]; rfl, 1, rfl⟩
  · by_cases h2 : u < d - n
    · have hres := Go.Lib.hid (show crossB n zs k l = true by rw [HV.out]; simp [h2])
      go_wp2
      go_ret
      exact ⟨by rw [hres.out]; rfl, 1, rfl⟩
    · have hres := Go.Lib.hid (show crossB n zs k l = false by rw [HV.out]; simp; omega)
      go_wp2
      go_ret
      exact ⟨by rw [hres.out]; rfl, 1, rfl⟩
end Go.Proofs.Ytlmbcidijbohiaa
