/- The program: the ring is made, turned, read. -/
import Derived.Test.YtpcaakmcjdginabTenI2
import Derived.Test.YtpcaakmcjdginabRing
import Derived.StillTailTactics
namespace Go.Proofs.Ytpcaakmcjdginab
open Go.RowKit
set_option linter.unusedSimpArgs false
set_option linter.unusedVariables false

theorem infoRing : (Try.prog.info? 54).map (fun i => (i.zero, i.size, i.bytes)) = some (some (.agg #[.int .i64 0, .pointer none, .pointer none]), 3, 24) := by kernel_rfl
theorem next_tmod {n k : Nat} (hk : k < n) : ((k : Int) + 1).tmod (n : Int) = ((nextP n k : Nat) : Int) := by
  rw [Int.tmod_eq_emod_of_nonneg (by omega), nextP_eq hk]
  split
  · have : (k : Int) + 1 = n := by omega
    rw [this, Int.emod_self]; rfl
  · rw [Int.emod_eq_of_lt (by omega) (by omega)]; omega
set_option maxRecDepth 100000 in
set_option maxHeartbeats 4000000 in
theorem implRing (A : Option Addr) (c n : Nat) (zs : List Int) (w : World) (L : Ls zs A c w) (hz : zs.length = n) (h4 : 4 ≤ n) (h48 : n ≤ 48) :
    Calls Try.prog 46 #[.slice A n c] w fun e w' => ∃ g, e = .returned (.pointer (some ⟨g, 0, none⟩)) ∧ w.heap.size ≤ g ∧ Rng w' g n zs ∧ Below w.heap.size w w' := by
  have HL := Go.Lib.hid L
  have HZ := Go.Lib.hid hz
  obtain ⟨i0, hi, hz0, hz1, hz2⟩ := info_parts infoRing
  clear L hz
  go_enter Try.func46, Try.ntmps46
  go_wp2_with (at_make; refine wpList_make_full _ rfl _ _ 63 rfl w.heap.size 54 i0 _ 3 Try.underlying63 hi hz0 hz1 .i64 .i64 _ _ n rfl rfl rfl rfl (by rw [hz2]; omega) (by unfold maxLen; omega) (Nat.le_refl _) ?_; intro w1 hown hg; have HP := Go.Lib.hid (Box.of_row hown (by omega)); have HBL := Go.Lib.hid (Bl.of_row hown (by omega)); have HG := Go.Lib.hid ((Below.refl w.heap.size w).grown hg (Nat.le_refl _) (by simp)); clear hown hg)
  have H0 := Go.Lib.hid (show Box w1 w.heap.size (partL w.heap.size n zs 0) by rw [partL_zero, ← made_ring]; exact HP.out)
  clear HP
  obtain ⟨g, hg⟩ : ∃ g, w.heap.size = g := ⟨_, rfl⟩
  rw [hg] at H0 HBL
  have HGW := Go.Lib.hid hg
  simp only [hg]
  clear hg hz0 hz1 hz2 hi
  have hn0 : (0 : Int) < n := by omega
  go_loopw [12] (fun i wr => ∃ k : Nat, k ≤ n ∧ i = .int .i64 k ∧ Box wr g (partL g n zs k) ∧ Bl wr g ∧ Below w.heap.size w wr) (fun i _ => n - (intOf i).toNat)
  case atStart => exact ⟨0, Nat.zero_le _, rfl, H0.out, HBL.out, HG.out⟩
  case round =>
    obtain ⟨k, hk, rfl, hbox, hbl, hb⟩ := hrel
    have HX := Go.Lib.hid hbox
    have HB := Go.Lib.hid hb
    have HBK := Go.Lib.hid hbl
    clear H0 HG HBL hbl
    by_cases hlt : k < n
    case neg =>
      obtain rfl : k = n := by omega
      clear hbox hb
      go_wp2_with fail
      go_ret
      exact ⟨g, rfl, by have := HGW.out; omega, ⟨by rw [← partL_end]; exact HX.out, HZ.out, HBK.out⟩, HB.out⟩
    case pos =>
      obtain ⟨b, o, rfl, -, hcs⟩ := (HL.out.below hb).at_ (k := k) (by have := HZ.out; omega)
      have hcell := hcs k (by have := HZ.out; omega)
      have ht := next_tmod hlt
      have hnl := nextP_lt (n := n) (i := k) (by omega)
      have HST := Go.Lib.hid (partL_step (g := g) (zs := zs) hlt)
      have hln : (partL g n zs k).length = 3 * n := partL_len ..
      generalize zs.getD k 0 = z at *
      generalize nextP n k = m at *
      obtain ⟨u1, hu1⟩ : ∃ u, wr.cell? ⟨g, k * 3, none⟩ = some u := ⟨_, hbox.at_ _ _ (List.getElem?_eq_getElem (by omega))⟩
      have hfr := hbox.fr
      have HX1 := Go.Lib.hid (hbox.set (k := k * 3) (.int .i64 z) (by omega))
      have HX2 := Go.Lib.hid (HX1.out.set (k := k * 3 + 2) (.pointer (some ⟨g, m * 3, none⟩)) (by simp; omega))
      have HX3 := Go.Lib.hid (HX2.out.set (k := m * 3 + 1) (.pointer (some ⟨g, k * 3, none⟩)) (by simp; omega))
      rw [HST.out] at HX3
      have hml : (m : Int) < n := by omega
      have hm0 : (0 : Int) ≤ m := by omega
      have hkl : (k : Int) < n := by omega
      clear hbox hb hcs
      obtain ⟨u2, hu2⟩ : ∃ u, (wr.setCell ⟨g, k * 3, none⟩ (.int .i64 z)).cell? ⟨g, k * 3 + 2, none⟩ = some u := ⟨_, HX1.out.at_ _ _ (List.getElem?_eq_getElem (by simp; omega))⟩
      obtain ⟨u3, hu3⟩ : ∃ u, ((wr.setCell ⟨g, k * 3, none⟩ (.int .i64 z)).setCell ⟨g, k * 3 + 2, none⟩ (.pointer (some ⟨g, m * 3, none⟩))).cell? ⟨g, m * 3 + 1, none⟩ = some u := ⟨_, HX2.out.at_ _ _ (List.getElem?_eq_getElem (by simp; omega))⟩
      have hgl : w.heap.size ≤ g := by have := HGW.out; omega
      have HB3 := Go.Lib.hid (show Below w.heap.size w (((wr.setCell ⟨g, k * 3, none⟩ (.int .i64 z)).setCell ⟨g, k * 3 + 2, none⟩ (.pointer (some ⟨g, m * 3, none⟩))).setCell ⟨g, m * 3 + 1, none⟩ (.pointer (some ⟨g, k * 3, none⟩))) from ((HB.out.setCell (p := ⟨g, k * 3, none⟩) hgl _).setCell (p := ⟨g, k * 3 + 2, none⟩) hgl _).setCell (p := ⟨g, m * 3 + 1, none⟩) hgl _)
      clear hgl
      go_wp2_with fail
      go_roundw
      case rel => exact ⟨k + 1, by omega, by go_num, HX3.out, ((HBK.out.set _).set _).set _, HB3.out⟩
      case measure => simp [intOf]; omega
def tensR (zs : List Int) : List Int × Int := if tenB zs then (zs, 0) else ([], 3)
def ringM (n : Nat) : Value → Nat
  | .pointer (some a) => if a.off = 0 then 0 else 3 * n - a.off
  | _ => 0
theorem lit_gat (w : World) (x : Int) : Gat w [x] (.slice (some ⟨w.heap.size, 0, none⟩) 1 1) (w.alloc (.cells #[.int .i64 x] 2)) :=
  ⟨World.ownsRow_lit w #[.int .i64 x] 1 (Nat.le_refl _) (by unfold maxLen; omega) rfl, (Below.refl _ _).alloc (Nat.le_refl _) _⟩
set_option maxRecDepth 100000 in
set_option maxHeartbeats 4000000 in
theorem implTensions (g n : Nat) (zs : List Int) (w : World) (R : Rng w g n zs) (h4 : 4 ≤ n) (h48 : n ≤ 48) :
    Calls Try.prog 48 #[.pointer (some ⟨g, 0, none⟩)] w (GivesLN (tensR zs) w) := by
  have HR := Go.Lib.hid R
  have hzl := R.len
  have HZ := Go.Lib.hid hzl
  have hv0 : w.cell? ⟨g, 0, none⟩ = some (.int .i64 (zs.getD 0 0)) := by have := R.val (k := 0) (by omega); simpa using this
  have hnx := R.next (k := 0) (by omega)
  rw [nextP_eq (by omega), if_neg (by omega)] at hnx
  have hnx0 : w.cell? ⟨g, 2, none⟩ = some (.pointer (some ⟨g, 3, none⟩)) := by simpa using hnx
  have hgl : g < w.heap.size := R.box.lt
  have HT1 := Go.Lib.hid (show zs.take 1 = [zs.getD 0 0] by have := take_succ (zs := zs) (k := 0) (by omega); simpa using this)
  have HTE := Go.Lib.hid (fun (D : Option Addr) (d : Nat) w0 L0 => implTen D d zs w0 L0)
  rw [hzl] at HTE
  obtain ⟨i0, hi, hz0, hz1, hz2⟩ := info_parts infoI64
  clear R hnx hzl
  generalize hx : zs.getD 0 0 = x at *
  clear hx
  go_enter Try.func48, Try.ntmps48
  go_upto_region 2 with fail
  refine wp_gen (R := fun W => W.cell? ⟨g, 2, none⟩ = some (.pointer (some ⟨g, 3, none⟩)) ∧ Gat w [x] (.slice (some ⟨w.heap.size, 0, none⟩) 1 1) W) ⟨(World.cell?_alloc_lt _ _ _ hgl).trans hnx0, lit_gat w x⟩ ?_
  rintro W ⟨hc, hG⟩
  have HG := Go.Lib.hid hG
  clear hG hnx0 hv0
  go_wp2_with fail
  go_loopw [4, 5] (fun o r wr => ∃ j : Nat, 1 ≤ j ∧ j ≤ n ∧ r = .pointer (some ⟨g, (if j = n then 0 else j) * 3, none⟩) ∧ Gat w (zs.take j) o wr) (fun _ r _ => ringM n r)
  case atStart => exact ⟨1, Nat.le_refl _, by omega, by rw [if_neg (by omega)], by rw [HT1.out]; exact HG.out⟩
  case round =>
    obtain ⟨j, hj1, hj, rfl, hgat⟩ := hrel
    clear HG
    have HGT := Go.Lib.hid hgat
    by_cases hlt : j = n
    case pos =>
      subst hlt
      rw [if_pos rfl]
      have htk : zs.take j = zs := by rw [List.take_of_length_le (by have := HZ.out; omega)]
      rw [htk] at hgat HGT
      obtain ⟨D, d, rfl, ho⟩ := hgat.form
      rw [HZ.out] at ho ⊢
      have HO := Go.Lib.hid ho
      have HT2 := Go.Lib.hid (HTE.out D d wr ⟨by rw [HZ.out]; exact ho.rd.here, by rw [HZ.out]; exact ho.le, by rw [HZ.out]; omega⟩)
      have HB := Go.Lib.hid hgat.b
      have hcmp : (binOp .neq 50 (.pointer (some ⟨g, 0, none⟩)) (.pointer (some ⟨g, 0, none⟩))).run Try.prog wr = .ok (.bool false) wr := by
        obtain ⟨i1, k1, -, k3, -⟩ := info_parts infoRing
        exact run_neq_ptr_same wr _ Try.underlying50 k1
      rw [Nat.zero_mul]
      clear hgat ho htk HGT
      by_cases ht : tenB zs = true
      case pos =>
        have HV := Go.Lib.hid (show tensR zs = (zs, 0) by unfold tensR; rw [if_pos ht])
        rw [ht] at HT2
        clear ht
        go_wp2_with fail
        refine HT2.out.mono ?_
        rintro _ _ ⟨rfl, rfl⟩
        go_wp2_with fail
        go_ret2
        exact GivesLN.own HV.out HZ.out HO.out HB.out
      case neg =>
        have HV := Go.Lib.hid (show tensR zs = ([], 3) by unfold tensR; rw [if_neg ht])
        rw [Bool.not_eq_true] at ht
        rw [ht] at HT2
        clear ht
        go_wp2_with fail
        refine HT2.out.mono ?_
        rintro _ _ ⟨rfl, rfl⟩
        go_wp2_with fail
        go_ret2
        exact GivesLN.nil HV.out HB.out
    case neg =>
      have hjn : j < n := by omega
      rw [if_neg hlt]
      have hlj : (zs.take j).length = j := by rw [List.length_take]; have := HZ.out; omega
      have hrow := hgat.row
      have hbs := hgat.b.size
      rw [hlj] at hrow
      have hvj := (HR.out.below hgat.b).val hjn
      have HNX := Go.Lib.hid (fun (W : World) (hb : Below w.heap.size w W) => (HR.out.below hb).next hjn)
      have HS := Go.Lib.hid (take_succ (zs := zs) (k := j) (by have := HZ.out; omega))
      have HN := Go.Lib.hid (fun v' w3 o' (h1 : World.ownsRow w3 w.heap.size 2 1 v' (j + 1) (ints (zs.take j) ++ [.int .i64 (zs.getD j 0)])) h2 => HGT.out.step (z := zs.getD j 0) (w3 := w3) (v' := v') (o := o') (by rw [hlj]; exact h1) h2)
      have HNE := Go.Lib.hid (nextP_eq hjn)
      have hcmp : (binOp .neq 50 (.pointer (some ⟨g, j * 3, none⟩)) (.pointer (some ⟨g, 0, none⟩))).run Try.prog wr = .ok (.bool true) wr := by
        obtain ⟨i1, k1, -, k3, -⟩ := info_parts infoRing
        have hbl := HR.out.bl.below hgl hgat.b
        exact run_neq_ptr_other wr Try.underlying50 k1 (by rw [k3]; decide) (by simp <;> omega) hbl hbl
      clear hgat hlj HGT
      generalize zs.take j = ms at *
      generalize zs.getD j 0 = z at *
      generalize nextP n j = m at *
      have hne : j * 3 ≠ 0 := by omega
      have hne2 : ¬ j = 0 := by omega
      go_wp2_with (at_builtin; refine wpList_append_own_at _ rfl _ _ 24 rfl w.heap.size 2 i0 (.int .i64 0) 1 8 Try.underlying24 hi hz0 hz1 hz2 rfl (by decide) _ _ _ rfl (hrow.alloc _) ⟨wr.heap.size, 0, none⟩ 1 1 [.int .i64 z] rfl rfl (cell_one_new _ _ _) (by simp [Value.oneCell']) (by unfold maxLen; omega) (by omega) (by simp; omega) ?_; intro v' w3 hown' hgrow hnil hat; clear hnil hat; have HGN := Go.Lib.hid (HN.out _ _ _ hown' hgrow); have hnx3 := HNX.out _ HGN.out.b; clear hown' hgrow hrow)
      go_roundw
      case rel => exact ⟨j + 1, by omega, by omega, by rw [HNE.out], by rw [HS.out]; exact HGN.out⟩
      case measure =>
        have hm := HNE.out
        simp only [ringM]
        by_cases e : j + 1 = n
        · rw [if_pos e] at hm
          subst hm
          rw [if_pos rfl, if_neg hne]
          omega
        · rw [if_neg e] at hm
          subst hm
          rw [if_neg (by omega), if_neg hne]
          omega
end Go.Proofs.Ytpcaakmcjdginab
