/- The model: lists that are made by appending. -/
import Derived.Test.YtlmbcidijbohiaaLacS1
import Derived.Test.YtlmbcidijbohiaaLacIUsual
namespace Go.Proofs.Ytlmbcidijbohiaa
open Go.RowKit
set_option linter.unusedSimpArgs false
set_option linter.unusedVariables false

/-- A list in the making. -/
structure Gat (w : World) (zs : List Int) (v : Value) (wr : World) : Prop where
  row : wr.ownsRow w.heap.size 2 1 v zs.length (ints zs)
  b : Below w.heap.size w wr
theorem Gat.start {w w1 : World} (hb : Below w.heap.size w w1) : Gat w [] (.slice (some ⟨w1.heap.size, 0, none⟩) 0 0) (w1.alloc (.cells #[] 2)) :=
  ⟨⟨rfl, .inr ⟨w1.heap.size, 0, #[], rfl, hb.size, heap_alloc_new w1 _, Nat.le_refl _, Nat.zero_le _, rfl, rfl⟩⟩, hb.alloc hb.size _⟩
theorem Gat.step {w wr w3 : World} {zs : List Int} {v v' : Value} {z : Int} {o : Obj} (h : Gat w zs v wr) (hown : w3.ownsRow w.heap.size 2 1 v' (zs.length + 1) (ints zs ++ [.int .i64 z])) (hgrow : (wr.alloc o).grownBy w3 v.ownBlock) : Gat w (zs ++ [z]) v' w3 := by
  have e : ints (zs ++ [z]) = ints zs ++ [.int .i64 z] := by simp [ints]
  refine ⟨by rw [e, List.length_append]; exact hown, h.b.trans ((((Below.refl w.heap.size wr).alloc h.b.size o).grown hgrow (by simp; have := h.b.size; omega) fun j ej => ?_))⟩
  rcases h.row.2 with ⟨rfl, _⟩ | ⟨g, cap, cur, rfl, hb, _, _⟩
  · simp [Value.ownBlock] at ej
  · obtain rfl : g = j := by simpa [Value.ownBlock] using ej
    exact hb
theorem row_ow2 {w : World} {base k : Nat} {t : TypeId} {v : Value} {xs : List Value} (h : w.ownsRow base t 1 v k xs) : ∃ A cap, v = .slice A k cap ∧ Ow w base w.heap.size t A k cap xs := by
  rcases h.2 with ⟨rfl, h0⟩ | ⟨g, cap, cur, rfl, r⟩
  · subst h0
    exact ⟨none, 0, rfl, h, fun g hg => by simp [Value.ownBlock] at hg⟩
  · exact ⟨_, _, rfl, h, fun g' hg' => (h.lt g' hg').2⟩
theorem Gat.done {w wr : World} {zs : List Int} {v : Value} {p : List Int × Int} (h : Gat w zs v wr) (hp : p = (zs, 0)) : GivesLN p w (.returned (.tuple #[v, .int .i64 0])) wr := by
  subst hp
  obtain ⟨A, cap, rfl, ho⟩ := row_ow2 h.row
  exact ⟨A, cap, rfl, ho, h.b⟩
theorem codeL_one {n p : Int} {zs : List Int} (h : ¬ Lac n zs) : codeL n zs p = 1 := by simp [codeL, h]
theorem codeL_zero {n : Int} {zs : List Int} (h : Lac n zs) : codeL n zs 0 = 0 := by
  have : placeB n 0 = true := placeB_iff.2 ⟨Int.le_refl _, by have := h.rim.lo; omega⟩
  simp [codeL, h, this]

set_option maxRecDepth 100000 in
set_option maxHeartbeats 4000000 in
theorem specShifts (n : Int) (A : Option Addr) (c : Nat) (zs : List Int)  (w : World) (lo hi : Nat) (h0 : Rd w lo hi A zs.length (ints zs)) (hc : zs.length ≤ c) :
    Calls Try.prog 18 #[.int .i64 n, .slice A zs.length c] w (GivesLN (shiftsR n zs) w) := by
  have HC := Go.Lib.hid (specLacCode n A c zs 0 w lo hi h0 hc)
  have h := Go.Lib.hid h0.here
  clear h0 hc
  by_cases hL : Lac n zs
  case neg =>
    have HV := Go.Lib.hid (show shiftsR n zs = ([], 1) by simp [shiftsR, hL])
    rw [codeL_one hL] at HC
    clear hL
    go_enter Try.func18, Try.ntmps18
    go_wp2_with fail
    refine HC.out.mono ?_
    rintro _ w1 ⟨rfl, b1⟩
    have B1 := Go.Lib.hid b1
    clear b1
    go_wp2_with fail
    go_ret2
    exact GivesLN.nil HV.out B1.out
  case pos =>
  have HV := Go.Lib.hid (show shiftsR n zs = (shiftsI n zs, 0) by simp [shiftsR, hL])
  rw [codeL_zero hL] at HC
  have HL := Go.Lib.hid hL
  have hlen := hL.len
  obtain ⟨r0, r1, -⟩ := hL.rim
  obtain ⟨i0, hi, hz0, hz1, hz2⟩ := info_parts infoI64
  clear hL 
  subst hlen
  go_enter Try.func18, Try.ntmps18
  go_wp2_with fail
  refine HC.out.mono ?_
  rintro _ w1 ⟨rfl, b1⟩
  have HG := Go.Lib.hid (Gat.start b1)
  clear b1 HC
  go_wp2_with fail
  go_loopw [7, 8] (fun o i wr => ∃ k : Nat, k ≤ zs.length ∧ i = .int .i64 k ∧ Gat w ((List.range k).map (shAt zs.length zs)) o wr) (fun _ i _ => zs.length - (intOf i).toNat)
  case atStart => exact ⟨0, Nat.zero_le _, rfl, HG.out⟩
  case round =>
    obtain ⟨k, hk, rfl, hgat⟩ := hrel
    clear HG
    by_cases hlt : k < zs.length
    case neg =>
      obtain rfl : k = zs.length := by omega
      have HF := Go.Lib.hid (hgat.done (p := shiftsR zs.length zs) (by rw [HV.out]; exact Prod.ext (rfl) rfl))
      clear hgat
      go_wp2_with fail
      go_ret2
      exact HF.out
    case pos =>
      have hkl : (k : Int) < zs.length := by omega
      have hk0 : (0 : Int) ≤ k := by omega
      have HS := Go.Lib.hid (show (List.range (k + 1)).map (shAt zs.length zs) = (List.range k).map (shAt zs.length zs) ++ [shAt zs.length zs k] by simp [List.range_succ])
      have hrd := h.out.below hgat.b (Nat.le_refl _)
      have hrow := hgat.row
      have hbs := hgat.b.size
      have hln : ((List.range k).map (shAt zs.length zs)).length = k := by simp
      have HGT := Go.Lib.hid hgat
      clear hgat
      have HCALL := Go.Lib.hid (specShift zs.length A c zs k wr _ _ hrd HL.out hlt)
      clear hrd
      generalize (List.range k).map (shAt zs.length zs) = ms at *
      have HLN := Go.Lib.hid hln
      rw [hln] at hrow
      obtain ⟨z, hz⟩ : ∃ z, shAt zs.length zs k = z := ⟨_, rfl⟩
      have HZ := Go.Lib.hid hz
      try simp only [hz] at HS HCALL
      clear hz hln
      go_wp2_with fail
      refine HCALL.out.mono ?_
      rintro _ _ ⟨rfl, rfl⟩
      go_wp2_with (at_builtin; refine wpList_append_own_at _ rfl _ _ 24 rfl w.heap.size 2 i0 (.int .i64 0) 1 8 Try.underlying24 hi hz0 hz1 hz2 rfl (by decide) _ _ _ rfl (hrow.alloc _) ⟨wr.heap.size, 0, none⟩ 1 1 [.int .i64 z] rfl rfl (cell_one_new _ _ _) (by simp [Value.oneCell']) (by unfold maxLen; omega) (by omega) (by simp; omega) ?_; intro v' w3 hown' hgrow hnil hat; clear hnil hat)
      have HN := Go.Lib.hid (HGT.out.step (by rw [HLN.out]; exact hown') hgrow)
      clear hown' hgrow hrow
      go_wp2_with fail
      go_roundw
      case rel => exact ⟨k + 1, by omega, by go_num, by rw [HS.out]; exact HN.out⟩
      case measure => simp [intOf]; omega

set_option maxRecDepth 100000 in
set_option maxHeartbeats 4000000 in
theorem specRotate (n : Int) (A : Option Addr) (c : Nat) (zs : List Int) (r : Int) (w : World) (lo hi : Nat) (h0 : Rd w lo hi A zs.length (ints zs)) (hc : zs.length ≤ c) :
    Calls Try.prog 41 #[.int .i64 n, .slice A zs.length c, .int .i64 r] w (GivesLN (rotR n r zs) w) := by
  have HC := Go.Lib.hid (specLacCode n A c zs r w lo hi h0 hc)
  have h := Go.Lib.hid h0.here
  clear h0 hc
  by_cases hL : Lac n zs
  case neg =>
    have HV := Go.Lib.hid (show rotR n r zs = ([], 1) by simp [rotR, hL])
    rw [codeL_one hL] at HC
    clear hL
    go_enter Try.func41, Try.ntmps41
    go_wp2_with fail
    refine HC.out.mono ?_
    rintro _ w1 ⟨rfl, b1⟩
    have B1 := Go.Lib.hid b1
    clear b1
    go_wp2_with fail
    go_ret2
    exact GivesLN.nil HV.out B1.out
  case pos =>
  by_cases hp : placeB n r = true
  case neg =>
    have HV := Go.Lib.hid (show rotR n r zs = ([], 2) by simp [rotR, hL, hp])
    rw [show codeL n zs r = 2 by simp [codeL, hL, hp]] at HC
    clear hL hp
    go_enter Try.func41, Try.ntmps41
    go_wp2_with fail
    refine HC.out.mono ?_
    rintro _ w1 ⟨rfl, b1⟩
    have B1 := Go.Lib.hid b1
    clear b1
    go_wp2_with fail
    go_ret2
    exact GivesLN.nil HV.out B1.out
  case pos =>
  have HV := Go.Lib.hid (show rotR n r zs = (rotI n r zs, 0) by simp [rotR, hL, hp])
  rw [show codeL n zs r = 0 by simp [codeL, hL, hp]] at HC
  obtain ⟨p0, p1⟩ := placeB_iff.1 hp
  have HL := Go.Lib.hid hL
  have hlen := hL.len
  obtain ⟨r0, r1, -⟩ := hL.rim
  obtain ⟨i0, hi, hz0, hz1, hz2⟩ := info_parts infoI64
  clear hL hp
  subst hlen
  go_enter Try.func41, Try.ntmps41
  go_wp2_with fail
  refine HC.out.mono ?_
  rintro _ w1 ⟨rfl, b1⟩
  have HG := Go.Lib.hid (Gat.start b1)
  clear b1 HC
  go_wp2_with fail
  go_loopw [9, 10] (fun o i wr => ∃ k : Nat, k ≤ zs.length ∧ i = .int .i64 k ∧ Gat w ((List.range k).map (fun k => (zs.getD k 0 + r) % (zs.length : Int))) o wr) (fun _ i _ => zs.length - (intOf i).toNat)
  case atStart => exact ⟨0, Nat.zero_le _, rfl, HG.out⟩
  case round =>
    obtain ⟨k, hk, rfl, hgat⟩ := hrel
    clear HG
    by_cases hlt : k < zs.length
    case neg =>
      obtain rfl : k = zs.length := by omega
      have HF := Go.Lib.hid (hgat.done (p := rotR zs.length r zs) (by rw [HV.out]; exact Prod.ext (by rw [rotI_eq]) rfl))
      clear hgat
      go_wp2_with fail
      go_ret2
      exact HF.out
    case pos =>
      have hkl : (k : Int) < zs.length := by omega
      have hk0 : (0 : Int) ≤ k := by omega
      have HS := Go.Lib.hid (show (List.range (k + 1)).map (fun k => (zs.getD k 0 + r) % (zs.length : Int)) = (List.range k).map (fun k => (zs.getD k 0 + r) % (zs.length : Int)) ++ [(zs.getD k 0 + r) % (zs.length : Int)] by simp [List.range_succ])
      have hrd := h.out.below hgat.b (Nat.le_refl _)
      have hrow := hgat.row
      have hbs := hgat.b.size
      have hln : ((List.range k).map (fun k => (zs.getD k 0 + r) % (zs.length : Int))).length = k := by simp
      have HGT := Go.Lib.hid hgat
      clear hgat
      obtain ⟨y0, y1⟩ := HL.out.in0 hlt
      obtain ⟨b, o, rfl, -, -, hc1⟩ := hrd.at_ hlt
      have hcell := hc1 k _ (ints_at zs k hlt)
      have HCALL := Go.Lib.hid (specMod (zs.getD k 0 + r) zs.length wr (by omega) (by omega) (by omega) (by omega))
      have HSX := HS
      clear hrd hc1 HSX
      generalize (List.range k).map (fun k => (zs.getD k 0 + r) % (zs.length : Int)) = ms at *
      have HLN := Go.Lib.hid hln
      rw [hln] at hrow
      obtain ⟨z, hz⟩ : ∃ z, (zs.getD k 0 + r) % (zs.length : Int) = z := ⟨_, rfl⟩
      have HZ := Go.Lib.hid hz
      try simp only [hz] at HS HCALL
      clear hz hln
      generalize zs.getD k 0 = y at *
      go_wp2_with fail
      refine HCALL.out.mono ?_
      rintro _ _ ⟨rfl, rfl⟩
      go_wp2_with (at_builtin; refine wpList_append_own_at _ rfl _ _ 24 rfl w.heap.size 2 i0 (.int .i64 0) 1 8 Try.underlying24 hi hz0 hz1 hz2 rfl (by decide) _ _ _ rfl (hrow.alloc _) ⟨wr.heap.size, 0, none⟩ 1 1 [.int .i64 z] rfl rfl (cell_one_new _ _ _) (by simp [Value.oneCell']) (by unfold maxLen; omega) (by omega) (by simp; omega) ?_; intro v' w3 hown' hgrow hnil hat; clear hnil hat)
      have HN := Go.Lib.hid (HGT.out.step (by rw [HLN.out]; exact hown') hgrow)
      clear hown' hgrow hrow
      go_wp2_with fail
      go_roundw
      case rel => exact ⟨k + 1, by omega, by go_num, by rw [HS.out]; exact HN.out⟩
      case measure => simp [intOf]; omega
end Go.Proofs.Ytlmbcidijbohiaa
