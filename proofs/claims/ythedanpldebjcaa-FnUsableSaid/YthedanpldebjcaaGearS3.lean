/- The model: the order of gears. -/
import Derived.Test.YthedanpldebjcaaGearS2
import Derived.Test.YthedanpldebjcaaRowsZ
import Derived.Test.YthedanpldebjcaaMgUsable10
import Derived.Deep.DeepCutAuto
import Derived.Deep.CutBlock
namespace Go.Proofs.Ythedanpldebjcaa
open Go.RowKit
set_option linter.unusedSimpArgs false
set_option linter.unusedVariables false

theorem take_cells {W c : World} {g0 j : Nat} {us : List Value} (hc : ∀ i u, us[i]? = some u → W.cell? ⟨g0, i, none⟩ = some u) (hg : g0 < W.heap.size) (b : Below W.heap.size W c) : ∀ i u, (us.take j)[i]? = some u → c.cell? ((⟨g0, 0, none⟩ : Addr).add i) = some u := fun i u hu => by
  rw [List.getElem?_take] at hu
  split at hu
  · have := (b.cell (p := ⟨g0, i, none⟩) hg).trans (hc i u hu)
    by_cases h0 : i = 0
    · subst h0; simpa [Addr.add] using this
    · simpa [Addr.add, h0] using this
  · cases hu
theorem drop_cells {W c : World} {g0 j : Nat} {us : List Value} (hc : ∀ i u, us[i]? = some u → W.cell? ⟨g0, i, none⟩ = some u) (hg : g0 < W.heap.size) (b : Below W.heap.size W c) : ∀ i u, (us.drop j)[i]? = some u → c.cell? ((⟨g0, j, none⟩ : Addr).add i) = some u := fun i u hu => by
  rw [List.getElem?_drop] at hu
  have := (b.cell (p := ⟨g0, j + i, none⟩) hg).trans (hc (j + i) u hu)
  by_cases h0 : i = 0
  · subst h0; simpa [Addr.add] using this
  · simpa [Addr.add, h0] using this
theorem drop_empty {c : World} {g0 j : Nat} {us : List Value} (h : us.length ≤ j) : ∀ i u, (us.drop j)[i]? = some u → c.cell? ((⟨g0, 0, none⟩ : Addr).add i) = some u := fun i u hu => by
  rw [List.drop_eq_nil_of_le h] at hu
  cases hu
theorem one_cell {w : World} {q : Nat} {u : Value} (h : Box w q [u]) : ∀ i v, [u][i]? = some v → w.cell? ((⟨q, 0, none⟩ : Addr).add i) = some v := fun i v hv => by
  match i, hv with
  | 0, hv => simpa [Addr.add] using h.at_ 0 v hv
theorem cell_in {w : World} {a : Addr} {v : Value} (h : w.cell? a = some v) : a.block < w.heap.size := World.block_lt_of_cell? w a h
theorem Box.grow {w w' : World} {q g : Nat} {cs : List Value} (h : Box w q cs) (k : w.grownBy w' (some g)) (hq : q ≠ g) : Box w' q cs :=
  h.keep (lo := g) (hi := g + 1) ((Keep.refl g (g + 1) w).trans ⟨k.os, k.tape, k.output, k.size, fun i hi ho => k.block i hi (by simp; omega)⟩) (by omega)
set_option maxRecDepth 100000 in
set_option maxHeartbeats 16000000 in
theorem specOrder (x : Trn) (A : Option Addr) (c : Nat) (B : Option Addr) (d : Nat) (w : World) (T : TrL x A c B d w) (hT : Train x) :
    Calls Try.prog 91 #[trainV x A c B d] w fun e w' => ∃ g cap, e = .returned (.slice (some ⟨g, 0, none⟩) (rowsG (ordI x)).length cap) ∧ OwZ w.heap.size (rowsG (ordI x)) g cap w' ∧ Below w.heap.size w w' := by
  have hfn := hT.f.few
  have hrn := hT.r.few
  have HT := Go.Lib.hid T
  have HX := Go.Lib.hid (boxT_box x A c B d w)
  have HXB := Go.Lib.hid (boxT_below x A c B d w)
  clear T
  have HTR := Go.Lib.hid hT
  obtain ⟨i1, hi, hz0, hz1, hz2⟩ := info_parts infoRow
  have HOI := Go.Lib.hid (show ordI x = ordTo x (x.f.length * x.r.length) from rfl)
  have HC := Go.Lib.hid (fun a b D e E h w0 T0 ha hb R R2 => specCmp x A c B d a b D e E h w0 T0 hT ha hb R R2)
  have hr1 := hT.r.one
  clear hT
  unfold trainV at *
  go_enter Try.func91, Try.ntmps91
  go_upto_region 1 with fail
  refine wp_gen (R := fun W => Box W w.heap.size (trainC x A c B d) ∧ Below w.heap.size w W) ⟨HX.out, HXB.out⟩ ?_
  rintro W ⟨hx, hb⟩
  have HX1 := Go.Lib.hid hx
  have HB1 := Go.Lib.hid hb
  have HT1 := Go.Lib.hid (HT.out.below hb)
  clear hx hb HX HXB
  have HZ0 := Go.Lib.hid (show OwZ w.heap.size (rowsG (ordTo x (0 * x.r.length))) W.heap.size 0 (W.alloc (.cells #[] 24)) from ⟨⟨[], by rw [Nat.zero_mul]; exact own_none HB1.out.size, by rw [Nat.zero_mul]; trivial⟩⟩)
  have HB2 := Go.Lib.hid (HB1.out.alloc HB1.out.size (.cells #[] 24))
  have HX2 := Go.Lib.hid (HX1.out.alloc (.cells #[] 24))
  have HL0 := Go.Lib.hid (show (rowsG (ordTo x (0 * x.r.length))).length = 0 by rw [Nat.zero_mul]; rfl)
  clear HX1 HB1
  go_wp2_with fail
  go_loopw [3, 4] (fun v u wr => ∃ (f g cap : Nat), f ≤ x.f.length ∧ u = .int .i64 f ∧ v = .slice (some ⟨g, 0, none⟩) (rowsG (ordTo x (f * x.r.length))).length cap ∧ OwZ w.heap.size (rowsG (ordTo x (f * x.r.length))) g cap wr ∧ Box wr w.heap.size (trainC x A c B d) ∧ Below w.heap.size w wr) (fun _ u _ => x.f.length - (intOf u).toNat)
  case atStart => exact ⟨0, W.heap.size, 0, Nat.zero_le _, rfl, by rw [HL0.out], HZ0.out, HX2.out, HB2.out⟩
  case round =>
    obtain ⟨f, g, cap, hf, rfl, rfl, hz, hx, hb⟩ := hrel
    have HZF := Go.Lib.hid hz
    have HXF := Go.Lib.hid hx
    have HBF := Go.Lib.hid hb
    have hc0 : wr.cell? ⟨w.heap.size, 0, none⟩ = some (.slice A x.f.length c) := hx.at_ 0 _ rfl
    clear hz hx hb HZ0 HB2 HX2 HL0 HT1
    by_cases hlf : f < x.f.length
    case neg =>
      obtain rfl : f = x.f.length := by omega
      rw [← HOI.out] at HZF ⊢
      go_wp2_with fail
      go_ret
      exact ⟨g, cap, rfl, HZF.out, HBF.out⟩
    case pos =>
      have hlf2 : (f : Int) < x.f.length := by omega
      go_wp2_with fail
      clear hc0
      go_loopw [3, 5] (fun v u wr => ∃ (r g cap : Nat), r ≤ x.r.length ∧ u = .int .i64 r ∧ v = .slice (some ⟨g, 0, none⟩) (rowsG (ordTo x (f * x.r.length + r))).length cap ∧ OwZ w.heap.size (rowsG (ordTo x (f * x.r.length + r))) g cap wr ∧ Box wr w.heap.size (trainC x A c B d) ∧ Below w.heap.size w wr) (fun _ u _ => x.r.length - (intOf u).toNat)
      case atStart => exact ⟨0, g, cap, Nat.zero_le _, rfl, rfl, HZF.out, HXF.out, HBF.out⟩
      case round =>
        obtain ⟨r, g0, cap0, hr, rfl, rfl, hz, hx, hb⟩ := hrel
        have HZR := Go.Lib.hid hz
        have HXR := Go.Lib.hid hx
        have HBR := Go.Lib.hid hb
        have hc1 : wr.cell? ⟨w.heap.size, 1, none⟩ = some (.slice B x.r.length d) := hx.at_ 1 _ rfl
        clear hz hx hb HZF HXF HBF
        by_cases hlr : r < x.r.length
        case neg =>
          obtain rfl : r = x.r.length := by omega
          have HE := Go.Lib.hid (show f * x.r.length + x.r.length = (f + 1) * x.r.length by rw [Nat.add_mul, Nat.one_mul])
          rw [HE.out] at HZR ⊢
          go_wp2_with fail
          go_roundw
          case rel => exact ⟨f + 1, g0, cap0, by omega, by go_num, rfl, HZR.out, HXR.out, HBR.out⟩
          case measure => simp [intOf]; omega
        case pos =>
          have hmul : f * x.r.length ≤ 2 * 12 := Nat.mul_le_mul (by omega) (by omega)
          have HNG := Go.Lib.hid (nth_of (x := x) (f := f) hlr)
          have HGO := Go.Lib.hid (show GOk x (f, r) from ⟨hlf, hlr⟩)
          have HKT := Go.Lib.hid (show f * x.r.length + r < x.f.length * x.r.length by
            have h1 : (f + 1) * x.r.length ≤ x.f.length * x.r.length := Nat.mul_le_mul_right _ (by omega)
            rw [Nat.add_mul, Nat.one_mul] at h1
            omega)
          have hlr2 : (r : Int) < x.r.length := by omega
          obtain ⟨kk, hK⟩ : ∃ kk, f * x.r.length + r = kk := ⟨_, rfl⟩
          have HKE := Go.Lib.hid hK
          have hKb : kk ≤ 36 := by omega
          rw [hK] at HZR HNG HKT ⊢
          have HKL := Go.Lib.hid (show (rowsG (ordTo x kk)).length = kk by rw [rowsG_len, ordTo_len])
          have HL1 := Go.Lib.hid (show (rowsG (ordTo x (kk + 1))).length = kk + 1 by rw [rowsG_len, ordTo_len])
          have HOS := Go.Lib.hid (show ordTo x (kk + 1) = ins x (f, r) (ordTo x kk) by rw [ordTo, HNG.out])
          have HOK := Go.Lib.hid (fun i (hi : i < kk) => ordTo_ok (x := x) (k := kk) (by have := HKT.out; omega) (mem_getD (gs := ordTo x kk) (i := i) (by rw [ordTo_len]; exact hi)))
          have HRA := Go.Lib.hid (fun i (hi : i < kk) => rowsG_at (gs := ordTo x kk) (i := i) (by rw [ordTo_len]; exact hi))
          have HINS := Go.Lib.hid (fun j (hj : j ≤ kk) (h1 : ∀ i, i < j → leG x ((ordTo x kk).getD i (0, 0)) (f, r)) (h2 : j < kk → ¬ leG x ((ordTo x kk).getD j (0, 0)) (f, r)) => rowsG_ins (x := x) (gs := ordTo x kk) (g := (f, r)) (j := j) (by rw [ordTo_len]; exact hj) h1 (fun hl => h2 (by rw [ordTo_len] at hl; exact hl)))
          rw [HKL.out]
          clear hmul hK
          have HLT := Go.Lib.hid (lit2_ls wr (f : Int) (r : Int))
          have HBL := Go.Lib.hid (show Below wr.heap.size wr (wr.alloc (.cells #[.int .i64 f, .int .i64 r] 2)) from (Below.refl _ _).alloc (Nat.le_refl _) _)
          go_upto_region 9 with fail
          refine wp_gen (R := fun W2 => Ls (rowG (f, r)) (some ⟨wr.heap.size, 0, none⟩) 2 W2 ∧ Below wr.heap.size wr W2) ⟨HLT.out, HBL.out⟩ ?_
          rintro wo ⟨hgl, hbo⟩
          obtain ⟨q, hq⟩ : ∃ q, wr.heap.size = q := ⟨_, rfl⟩
          simp only [hq] at hgl ⊢
          have HGO2 := Go.Lib.hid hgl
          have HZO := Go.Lib.hid (HZR.out.below hbo)
          have HXO := Go.Lib.hid (HXR.out.below hbo)
          have HBO := Go.Lib.hid (HBR.out.trans (hbo.mono HBR.out.size))
          clear hgl hbo hq HZR HXR HBR HLT HBL hc1
          go_upto_block 4 with fail
          go_cut [7] (fun u wx => ∃ j : Nat, u = .int .i64 j ∧ j ≤ kk ∧ (∀ i, i < j → leG x ((ordTo x kk).getD i (0, 0)) (f, r)) ∧ (j < kk → ¬ leG x ((ordTo x kk).getD j (0, 0)) (f, r)) ∧ Below wo.heap.size wo wx)
          case first =>
            go_wp2_with fail
            go_loopw [7] (fun u wq => ∃ j : Nat, j ≤ kk ∧ u = .int .i64 j ∧ Below wo.heap.size wo wq ∧ ∀ i, i < j → leG x ((ordTo x kk).getD i (0, 0)) (f, r)) (fun u _ => kk - (intOf u).toNat)
            case atStart => exact ⟨0, Nat.zero_le _, rfl, Below.refl _ _, fun i hi => absurd hi (by omega)⟩
            case round =>
              obtain ⟨j, hj, rfl, hbq, hle⟩ := hrel
              have HLE := Go.Lib.hid hle
              have HBQ := Go.Lib.hid hbq
              clear hle
              by_cases hjk : j < kk
              case neg =>
                obtain rfl : j = kk := by omega
                have hd : decide ((j : Int) < (j : Int)) = false := by simp
                clear hbq
                go_upto_region 10 with fail
                go_quiet (fail)
                go_wp2_with fail
                go_meet
                case rel => exact ⟨j, rfl, Nat.le_refl _, HLE.out, fun h => absurd h (by omega), below_drewN HBQ.out _⟩
              case pos =>
                obtain ⟨eb, eo, D, dd, e, -, hrow, hlr3⟩ := ((HZO.out.ls (by rw [HKL.out]; omega)).below hbq).at_ (k := j) (by rw [HKL.out]; exact hjk)
                cases e
                rw [HRA.out j hjk] at hrow hlr3
                rw [Nat.zero_add] at hrow
                have hrow2 : wr.cell? ⟨g0, j, none⟩ = some (.slice D 2 dd) := hrow
                have hxq := HXO.out.below hbq
                have hc0 : wr.cell? ⟨w.heap.size, 0, none⟩ = some (.slice A x.f.length c) := hxq.at_ 0 _ rfl
                have hc1 : wr.cell? ⟨w.heap.size, 1, none⟩ = some (.slice B x.r.length d) := hxq.at_ 1 _ rfl
                have hc2 : wr.cell? ⟨w.heap.size, 2, none⟩ = some (.int .i64 x.n) := hxq.at_ 2 _ rfl
                have HCM := Go.Lib.hid (HC.out ((ordTo x kk).getD j (0, 0)) (f, r) D dd (some ⟨q, 0, none⟩) 2 (wr.drewN 1) (HT.out.below (below_drewN (HBO.out.trans (hbq.mono HBO.out.size)) 1)) (HOK.out j hjk) HGO.out (hlr3.drewN 1) ((HGO2.out.below hbq).drewN 1))
                have hcb : (j : Int) < kk := by omega
                have hjc : (j : Int) < cap0 := by have := (HZO.out.ls (by rw [HKL.out]; omega)).le; rw [HKL.out] at this; omega
                have hd : decide ((j : Int) < (kk : Int)) = true := decide_eq_true hcb
                have HCL2 := Go.Lib.hid (cmpI_le x ((ordTo x kk).getD j (0, 0)) (f, r))
                clear hrow hlr3 hxq hbq
                generalize cmpI x ((ordTo x kk).getD j (0, 0)) (f, r) = cv at *
                have HSW := Go.Lib.hid (show Below wr.heap.size wr (wr.drewN 1) from below_drewN (Below.refl _ _) 1)
                by_cases hcv : cv ≤ 0
                case pos =>
                  have HLN := Go.Lib.hid (HCL2.out.1 hcv)
                  go_upto_region 10 with fail
                  refine wp_region_held_drew (S := fun w' => w'.cell? ⟨w.heap.size, 0, none⟩ = some (.slice A x.f.length c) ∧ w'.cell? ⟨w.heap.size, 1, none⟩ = some (.slice B x.r.length d) ∧ w'.cell? ⟨w.heap.size, 2, none⟩ = some (.int .i64 x.n) ∧ w'.cell? ⟨g0, j, none⟩ = some (.slice D 2 dd)) (by kernel_rfl) (by exact ⟨hc0, hc1, hc2, hrow2⟩) (fun hHeld => ?_)
                  refine wpAnyH_take (i := 0) (v := ?vp1) rfl (by kernel_rfl) (by kernel_rfl) (by kernel_rfl) (fun _ _ _ h => h) (Or.inl ⟨by rfl, ?hyp1⟩) (by assumption) ?restp1
                  case hyp1 => (intro w hSw; (try dsimp only at hSw); go_simp; try with_reducible rfl)
                  try simp only [List.getElem_toArray, List.getElem_cons_succ, List.getElem_cons_zero, Act.put, List.setIfInBounds_toArray, List.set_cons_zero, List.set_cons_succ]
                  refine wpAnyH_take (i := 1) (v := ?vp2) rfl (by kernel_rfl) (by kernel_rfl) (by kernel_rfl) (fun _ _ _ h => h) (Or.inl ⟨by rfl, ?hyp2⟩) (by assumption) ?restp2
                  case hyp2 => (intro w hSw; (try dsimp only at hSw); go_simp; try with_reducible rfl)
                  try simp only [List.getElem_toArray, List.getElem_cons_succ, List.getElem_cons_zero, Act.put, List.setIfInBounds_toArray, List.set_cons_zero, List.set_cons_succ]
                  refine wpAnyH_take (i := 2) (v := ?vp3) rfl (by kernel_rfl) (by kernel_rfl) (by kernel_rfl) (fun _ _ _ h => h) (Or.inl ⟨by rfl, ?hyp3⟩) (by assumption) ?restp3
                  case hyp3 => (intro w hSw; (try dsimp only at hSw); go_simp; try with_reducible rfl)
                  try simp only [List.getElem_toArray, List.getElem_cons_succ, List.getElem_cons_zero, Act.put, List.setIfInBounds_toArray, List.set_cons_zero, List.set_cons_succ]
                  refine wpAnyH_take (i := 3) (v := ?vp4) rfl (by kernel_rfl) (by kernel_rfl) (by kernel_rfl) (fun _ _ _ h => h) (Or.inl ⟨by rfl, ?hyp4⟩) (by assumption) ?restp4
                  case hyp4 => (intro w hSw; (try dsimp only at hSw); go_simp; try with_reducible rfl)
                  try simp only [List.getElem_toArray, List.getElem_cons_succ, List.getElem_cons_zero, Act.put, List.setIfInBounds_toArray, List.set_cons_zero, List.set_cons_succ]
                  refine wpAnyH_take (i := 4) (v := ?vp5) rfl (by kernel_rfl) (by kernel_rfl) (by kernel_rfl) (fun _ _ _ h => h) (Or.inl ⟨by rfl, ?hyp5⟩) (by assumption) ?restp5
                  case hyp5 => (intro w hSw; (try dsimp only at hSw); go_simp; try with_reducible rfl)
                  try simp only [List.getElem_toArray, List.getElem_cons_succ, List.getElem_cons_zero, Act.put, List.setIfInBounds_toArray, List.set_cons_zero, List.set_cons_succ]
                  refine wpAnyH_take (i := 5) (v := ?vp6) rfl (by kernel_rfl) (by kernel_rfl) (by kernel_rfl) (fun _ _ _ h => h) (Or.inl ⟨by rfl, ?hyp6⟩) (by assumption) ?restp6
                  case hyp6 => (intro w hSw; (try dsimp only at hSw); go_simp; try with_reducible rfl)
                  try simp only [List.getElem_toArray, List.getElem_cons_succ, List.getElem_cons_zero, Act.put, List.setIfInBounds_toArray, List.set_cons_zero, List.set_cons_succ]
                  refine wpAnyH_take (i := 6) (v := ?vp7) rfl (by kernel_rfl) (by kernel_rfl) (by kernel_rfl) (fun _ _ _ h => h) (Or.inl ⟨by rfl, ?hyp7⟩) (by assumption) ?restp7
                  case hyp7 => (intro w hSw; (try dsimp only at hSw); go_simp; try with_reducible rfl)
                  try simp only [List.getElem_toArray, List.getElem_cons_succ, List.getElem_cons_zero, Act.put, List.setIfInBounds_toArray, List.set_cons_zero, List.set_cons_succ]
                  refine wpAnyH_take (i := 7) (v := ?vp8) rfl (by kernel_rfl) (by kernel_rfl) (by kernel_rfl) (fun _ _ _ h => h) (Or.inl ⟨by rfl, ?hyp8⟩) (by assumption) ?restp8
                  case hyp8 => (intro w hSw; (try dsimp only at hSw); go_simp; try with_reducible rfl)
                  try simp only [List.getElem_toArray, List.getElem_cons_succ, List.getElem_cons_zero, Act.put, List.setIfInBounds_toArray, List.set_cons_zero, List.set_cons_succ]
                  refine wpAnyH_take (i := 8) (v := ?vp9) rfl (by kernel_rfl) (by kernel_rfl) (by kernel_rfl) (fun _ _ _ h => h) (Or.inl ⟨by rfl, ?hyp9⟩) (by assumption) ?restp9
                  case hyp9 => (intro w hSw; (try dsimp only at hSw); go_simp; try with_reducible rfl)
                  try simp only [List.getElem_toArray, List.getElem_cons_succ, List.getElem_cons_zero, Act.put, List.setIfInBounds_toArray, List.set_cons_zero, List.set_cons_succ]
                  refine wpAnyH_take (i := 9) (v := ?vp10) rfl (by kernel_rfl) (by kernel_rfl) (by kernel_rfl) (fun _ _ _ h => h) (Or.inl ⟨by rfl, ?hyp10⟩) (by assumption) ?restp10
                  case hyp10 => (intro w hSw; (try dsimp only at hSw); go_simp; try with_reducible rfl)
                  try simp only [List.getElem_toArray, List.getElem_cons_succ, List.getElem_cons_zero, Act.put, List.setIfInBounds_toArray, List.set_cons_zero, List.set_cons_succ]
                  refine wpAnyH_take (i := 10) (v := ?vp11) rfl (by kernel_rfl) (by kernel_rfl) (by kernel_rfl) (fun _ _ _ h => h) (Or.inl ⟨by rfl, ?hyp11⟩) (by assumption) ?restp11
                  case hyp11 => (intro w hSw; (try dsimp only at hSw); go_simp; try with_reducible rfl)
                  try simp only [List.getElem_toArray, List.getElem_cons_succ, List.getElem_cons_zero, Act.put, List.setIfInBounds_toArray, List.set_cons_zero, List.set_cons_succ]
                  refine wpAnyH_ready (rs := [11]) (by kernel_rfl) (by simp) ?_
                  refine AllReadyH.cons rfl (fun K hK => ?_) AllReadyH.nil
                  go_simp
                  (go_at_call 99; refine HCM.out.mono ?_; rintro _ wc2 ⟨rfl, bc2⟩)
                  have HB2 := Go.Lib.hid (HSW.out.trans bc2)
                  clear bc2
                  refine hK.out _ _ ?_ (fun hHeld => ?_)
                  · exact ⟨(HB2.out.cell (p := ⟨w.heap.size, 0, none⟩) (cell_in hc0)).trans hc0, (HB2.out.cell (p := ⟨w.heap.size, 1, none⟩) (cell_in hc1)).trans hc1, (HB2.out.cell (p := ⟨w.heap.size, 2, none⟩) (cell_in hc2)).trans hc2, (HB2.out.cell (p := ⟨g0, j, none⟩) (cell_in hrow2)).trans hrow2⟩
                  clear hK K
                  try simp only [List.getElem_toArray, List.getElem_cons_succ, List.getElem_cons_zero, Act.put, List.setIfInBounds_toArray, List.set_cons_zero, List.set_cons_succ]
                  refine wpAnyH_take (i := 12) (v := ?vp12) rfl (by kernel_rfl) (by kernel_rfl) (by kernel_rfl) (fun _ _ _ h => h) (Or.inl ⟨by rfl, ?hyp12⟩) (by assumption) ?restp12
                  case hyp12 => (intro w hSw; (try dsimp only at hSw); go_simp; try with_reducible rfl)
                  try simp only [List.getElem_toArray, List.getElem_cons_succ, List.getElem_cons_zero, Act.put, List.setIfInBounds_toArray, List.set_cons_zero, List.set_cons_succ]
                  refine wpAnyH_take (i := 13) (v := ?vp13) rfl (by kernel_rfl) (by kernel_rfl) (by kernel_rfl) (fun _ _ _ h => h) (Or.inl ⟨by rfl, ?hyp13⟩) (by assumption) ?restp13
                  case hyp13 => (intro w hSw; (try dsimp only at hSw); go_simp; try with_reducible rfl)
                  try simp only [List.getElem_toArray, List.getElem_cons_succ, List.getElem_cons_zero, Act.put, List.setIfInBounds_toArray, List.set_cons_zero, List.set_cons_succ]
                  refine wpAnyH_done (by kernel_rfl) ?_ _
                  have HB3 := Go.Lib.hid (HBQ.out.trans (HB2.out.mono HBQ.out.size))
                  clear hc0 hc1 hc2 hrow2
                  go_wp2_with fail
                  go_roundw
                  case rel => exact ⟨j + 1, by omega, by go_num, HB3.out, fun i hi => by
                    rcases Nat.lt_or_ge i j with h1 | h1
                    · exact HLE.out i h1
                    · obtain rfl : i = j := by omega
                      exact HLN.out⟩
                  case measure => simp [intOf]; omega
                case neg =>
                  have HLN := Go.Lib.hid (fun h => hcv (HCL2.out.2 h))
                  go_upto_region 10 with fail
                  refine wp_region_held_drew (S := fun w' => w'.cell? ⟨w.heap.size, 0, none⟩ = some (.slice A x.f.length c) ∧ w'.cell? ⟨w.heap.size, 1, none⟩ = some (.slice B x.r.length d) ∧ w'.cell? ⟨w.heap.size, 2, none⟩ = some (.int .i64 x.n) ∧ w'.cell? ⟨g0, j, none⟩ = some (.slice D 2 dd)) (by kernel_rfl) (by exact ⟨hc0, hc1, hc2, hrow2⟩) (fun hHeld => ?_)
                  refine wpAnyH_take (i := 0) (v := ?vn1) rfl (by kernel_rfl) (by kernel_rfl) (by kernel_rfl) (fun _ _ _ h => h) (Or.inl ⟨by rfl, ?hyn1⟩) (by assumption) ?restn1
                  case hyn1 => (intro w hSw; (try dsimp only at hSw); go_simp; try with_reducible rfl)
                  try simp only [List.getElem_toArray, List.getElem_cons_succ, List.getElem_cons_zero, Act.put, List.setIfInBounds_toArray, List.set_cons_zero, List.set_cons_succ]
                  refine wpAnyH_take (i := 1) (v := ?vn2) rfl (by kernel_rfl) (by kernel_rfl) (by kernel_rfl) (fun _ _ _ h => h) (Or.inl ⟨by rfl, ?hyn2⟩) (by assumption) ?restn2
                  case hyn2 => (intro w hSw; (try dsimp only at hSw); go_simp; try with_reducible rfl)
                  try simp only [List.getElem_toArray, List.getElem_cons_succ, List.getElem_cons_zero, Act.put, List.setIfInBounds_toArray, List.set_cons_zero, List.set_cons_succ]
                  refine wpAnyH_take (i := 2) (v := ?vn3) rfl (by kernel_rfl) (by kernel_rfl) (by kernel_rfl) (fun _ _ _ h => h) (Or.inl ⟨by rfl, ?hyn3⟩) (by assumption) ?restn3
                  case hyn3 => (intro w hSw; (try dsimp only at hSw); go_simp; try with_reducible rfl)
                  try simp only [List.getElem_toArray, List.getElem_cons_succ, List.getElem_cons_zero, Act.put, List.setIfInBounds_toArray, List.set_cons_zero, List.set_cons_succ]
                  refine wpAnyH_take (i := 3) (v := ?vn4) rfl (by kernel_rfl) (by kernel_rfl) (by kernel_rfl) (fun _ _ _ h => h) (Or.inl ⟨by rfl, ?hyn4⟩) (by assumption) ?restn4
                  case hyn4 => (intro w hSw; (try dsimp only at hSw); go_simp; try with_reducible rfl)
                  try simp only [List.getElem_toArray, List.getElem_cons_succ, List.getElem_cons_zero, Act.put, List.setIfInBounds_toArray, List.set_cons_zero, List.set_cons_succ]
                  refine wpAnyH_take (i := 4) (v := ?vn5) rfl (by kernel_rfl) (by kernel_rfl) (by kernel_rfl) (fun _ _ _ h => h) (Or.inl ⟨by rfl, ?hyn5⟩) (by assumption) ?restn5
                  case hyn5 => (intro w hSw; (try dsimp only at hSw); go_simp; try with_reducible rfl)
                  try simp only [List.getElem_toArray, List.getElem_cons_succ, List.getElem_cons_zero, Act.put, List.setIfInBounds_toArray, List.set_cons_zero, List.set_cons_succ]
                  refine wpAnyH_take (i := 5) (v := ?vn6) rfl (by kernel_rfl) (by kernel_rfl) (by kernel_rfl) (fun _ _ _ h => h) (Or.inl ⟨by rfl, ?hyn6⟩) (by assumption) ?restn6
                  case hyn6 => (intro w hSw; (try dsimp only at hSw); go_simp; try with_reducible rfl)
                  try simp only [List.getElem_toArray, List.getElem_cons_succ, List.getElem_cons_zero, Act.put, List.setIfInBounds_toArray, List.set_cons_zero, List.set_cons_succ]
                  refine wpAnyH_take (i := 6) (v := ?vn7) rfl (by kernel_rfl) (by kernel_rfl) (by kernel_rfl) (fun _ _ _ h => h) (Or.inl ⟨by rfl, ?hyn7⟩) (by assumption) ?restn7
                  case hyn7 => (intro w hSw; (try dsimp only at hSw); go_simp; try with_reducible rfl)
                  try simp only [List.getElem_toArray, List.getElem_cons_succ, List.getElem_cons_zero, Act.put, List.setIfInBounds_toArray, List.set_cons_zero, List.set_cons_succ]
                  refine wpAnyH_take (i := 7) (v := ?vn8) rfl (by kernel_rfl) (by kernel_rfl) (by kernel_rfl) (fun _ _ _ h => h) (Or.inl ⟨by rfl, ?hyn8⟩) (by assumption) ?restn8
                  case hyn8 => (intro w hSw; (try dsimp only at hSw); go_simp; try with_reducible rfl)
                  try simp only [List.getElem_toArray, List.getElem_cons_succ, List.getElem_cons_zero, Act.put, List.setIfInBounds_toArray, List.set_cons_zero, List.set_cons_succ]
                  refine wpAnyH_take (i := 8) (v := ?vn9) rfl (by kernel_rfl) (by kernel_rfl) (by kernel_rfl) (fun _ _ _ h => h) (Or.inl ⟨by rfl, ?hyn9⟩) (by assumption) ?restn9
                  case hyn9 => (intro w hSw; (try dsimp only at hSw); go_simp; try with_reducible rfl)
                  try simp only [List.getElem_toArray, List.getElem_cons_succ, List.getElem_cons_zero, Act.put, List.setIfInBounds_toArray, List.set_cons_zero, List.set_cons_succ]
                  refine wpAnyH_take (i := 9) (v := ?vn10) rfl (by kernel_rfl) (by kernel_rfl) (by kernel_rfl) (fun _ _ _ h => h) (Or.inl ⟨by rfl, ?hyn10⟩) (by assumption) ?restn10
                  case hyn10 => (intro w hSw; (try dsimp only at hSw); go_simp; try with_reducible rfl)
                  try simp only [List.getElem_toArray, List.getElem_cons_succ, List.getElem_cons_zero, Act.put, List.setIfInBounds_toArray, List.set_cons_zero, List.set_cons_succ]
                  refine wpAnyH_take (i := 10) (v := ?vn11) rfl (by kernel_rfl) (by kernel_rfl) (by kernel_rfl) (fun _ _ _ h => h) (Or.inl ⟨by rfl, ?hyn11⟩) (by assumption) ?restn11
                  case hyn11 => (intro w hSw; (try dsimp only at hSw); go_simp; try with_reducible rfl)
                  try simp only [List.getElem_toArray, List.getElem_cons_succ, List.getElem_cons_zero, Act.put, List.setIfInBounds_toArray, List.set_cons_zero, List.set_cons_succ]
                  refine wpAnyH_ready (rs := [11]) (by kernel_rfl) (by simp) ?_
                  refine AllReadyH.cons rfl (fun K hK => ?_) AllReadyH.nil
                  go_simp
                  (go_at_call 99; refine HCM.out.mono ?_; rintro _ wc2 ⟨rfl, bc2⟩)
                  have HB2 := Go.Lib.hid (HSW.out.trans bc2)
                  clear bc2
                  refine hK.out _ _ ?_ (fun hHeld => ?_)
                  · exact ⟨(HB2.out.cell (p := ⟨w.heap.size, 0, none⟩) (cell_in hc0)).trans hc0, (HB2.out.cell (p := ⟨w.heap.size, 1, none⟩) (cell_in hc1)).trans hc1, (HB2.out.cell (p := ⟨w.heap.size, 2, none⟩) (cell_in hc2)).trans hc2, (HB2.out.cell (p := ⟨g0, j, none⟩) (cell_in hrow2)).trans hrow2⟩
                  clear hK K
                  try simp only [List.getElem_toArray, List.getElem_cons_succ, List.getElem_cons_zero, Act.put, List.setIfInBounds_toArray, List.set_cons_zero, List.set_cons_succ]
                  refine wpAnyH_take (i := 12) (v := ?vn12) rfl (by kernel_rfl) (by kernel_rfl) (by kernel_rfl) (fun _ _ _ h => h) (Or.inl ⟨by rfl, ?hyn12⟩) (by assumption) ?restn12
                  case hyn12 => (intro w hSw; (try dsimp only at hSw); go_simp; try with_reducible rfl)
                  try simp only [List.getElem_toArray, List.getElem_cons_succ, List.getElem_cons_zero, Act.put, List.setIfInBounds_toArray, List.set_cons_zero, List.set_cons_succ]
                  refine wpAnyH_take (i := 13) (v := ?vn13) rfl (by kernel_rfl) (by kernel_rfl) (by kernel_rfl) (fun _ _ _ h => h) (Or.inl ⟨by rfl, ?hyn13⟩) (by assumption) ?restn13
                  case hyn13 => (intro w hSw; (try dsimp only at hSw); go_simp; try with_reducible rfl)
                  try simp only [List.getElem_toArray, List.getElem_cons_succ, List.getElem_cons_zero, Act.put, List.setIfInBounds_toArray, List.set_cons_zero, List.set_cons_succ]
                  refine wpAnyH_done (by kernel_rfl) ?_ _
                  have HB3 := Go.Lib.hid (HBQ.out.trans (HB2.out.mono HBQ.out.size))
                  clear hc0 hc1 hc2 hrow2
                  go_wp2_with fail
                  go_meet
                  case rel => exact ⟨j, rfl, hj, HLE.out, fun _ => HLN.out, HB3.out⟩
          case rest =>
            obtain ⟨j, rfl, hj, h1, h2, hb⟩ := hcut
            have HIN := Go.Lib.hid (show rowsG (ordTo x (kk + 1)) = (rowsG (ordTo x kk)).take j ++ [rowG (f, r)] ++ (rowsG (ordTo x kk)).drop j by rw [HOS.out]; exact HINS.out j hj h1 h2)
            have hzv := (HZO.out.below hb).below (below_drewN (Below.refl _ _) 1)
            have HXV := Go.Lib.hid ((HXO.out.below hb).drewN 1)
            have HBW := Go.Lib.hid (below_drewN (HBO.out.trans (hb.mono HBO.out.size)) 1)
            have HGL := Go.Lib.hid ((HGO2.out.below hb).drewN 1)
            obtain ⟨us, how, hrz⟩ := hzv.us
            have hg0 := hzv.lt.2
            have hot := own_top how
            rw [HKL.out] at hot
            have hle0 := hot.le
            have hul : us.length = kk := hot.len
            have HCS := Go.Lib.hid (show ∀ i u, us[i]? = some u → (wc.drewN 1).cell? ⟨g0, i, none⟩ = some u from fun i u hu => (hot.cell (by have := (List.getElem?_eq_some_iff.1 hu).1; omega)).trans hu)
            have HONE := Go.Lib.hid hrz.cells
            have HRZ := Go.Lib.hid hrz
            have HB := Go.Lib.hid (Below.refl (wc.drewN 1).heap.size (wc.drewN 1))
            have hjc : (j : Int) ≤ (cap0 : Int) := by omega
            have hjk' : (j : Int) ≤ (kk : Int) := by omega
            have hj0 : (0 : Int) ≤ (j : Int) := by omega
            have hkc : (kk : Int) ≤ (cap0 : Int) := by omega
            clear h1 h2 hb hzv how hrz hot HZO HXO HBO HGO2 HINS
            by_cases hcj : cap0 = j
            case pos =>
              go_upto_region 12 with fail
              refine wp_region_held_drew (S := fun _ => True) (by kernel_rfl) trivial (fun hHeld => ?_)
              change wpAnyH _ _ _ _ _ _ _ _ (wc.drewN 1)
              generalize wc.drewN 1 = V at *
              refine wpAnyH_take (i := 1) (v := ?vk1) rfl (by kernel_rfl) (by kernel_rfl) (by kernel_rfl) (fun _ _ _ h => h) (Or.inl ⟨by rfl, ?hyk1⟩) (by assumption) ?restk1
              case hyk1 => (intro w hSw; (try dsimp only at hSw); go_simp; try with_reducible rfl)
              try simp only [List.getElem_toArray, List.getElem_cons_succ, List.getElem_cons_zero, Act.put, List.setIfInBounds_toArray, List.set_cons_zero, List.set_cons_succ]
              refine wpAnyH_take (i := 2) (v := ?vk2) rfl (by kernel_rfl) (by kernel_rfl) (by kernel_rfl) (fun _ _ _ h => h) (Or.inl ⟨by rfl, ?hyk2⟩) (by assumption) ?restk2
              case hyk2 => (intro w hSw; (try dsimp only at hSw); go_simp; try with_reducible rfl)
              try simp only [List.getElem_toArray, List.getElem_cons_succ, List.getElem_cons_zero, Act.put, List.setIfInBounds_toArray, List.set_cons_zero, List.set_cons_succ]
              refine wpAnyH_take (i := 3) (v := ?vk3) rfl (by kernel_rfl) (by kernel_rfl) (by kernel_rfl) (fun _ _ _ h => h) (Or.inl ⟨by rfl, ?hyk3⟩) (by assumption) ?restk3
              case hyk3 => (intro w hSw; (try dsimp only at hSw); go_simp; try with_reducible rfl)
              try simp only [List.getElem_toArray, List.getElem_cons_succ, List.getElem_cons_zero, Act.put, List.setIfInBounds_toArray, List.set_cons_zero, List.set_cons_succ]
              refine wpAnyH_take (i := 5) (v := ?vk4) rfl (by kernel_rfl) (by kernel_rfl) (by kernel_rfl) (fun _ _ _ h => h) (Or.inl ⟨by rfl, ?hyk4⟩) (by assumption) ?restk4
              case hyk4 => (intro w hSw; (try dsimp only at hSw); go_simp; try with_reducible rfl)
              try simp only [List.getElem_toArray, List.getElem_cons_succ, List.getElem_cons_zero, Act.put, List.setIfInBounds_toArray, List.set_cons_zero, List.set_cons_succ]
              refine wpAnyH_take (i := 8) (v := ?vk5) rfl (by kernel_rfl) (by kernel_rfl) (by kernel_rfl) (fun _ _ _ h => h) (Or.inl ⟨by rfl, ?hyk5⟩) (by assumption) ?restk5
              case hyk5 => (intro w hSw; (try dsimp only at hSw); go_simp; try with_reducible rfl)
              try simp only [List.getElem_toArray, List.getElem_cons_succ, List.getElem_cons_zero, Act.put, List.setIfInBounds_toArray, List.set_cons_zero, List.set_cons_succ]
              refine wpAnyH_take (i := 9) (v := ?vk6) rfl (by kernel_rfl) (by kernel_rfl) (by kernel_rfl) (fun _ _ _ h => h) (Or.inl ⟨by rfl, ?hyk6⟩) (by assumption) ?restk6
              case hyk6 => (intro w hSw; (try dsimp only at hSw); go_simp; try with_reducible rfl)
              try simp only [List.getElem_toArray, List.getElem_cons_succ, List.getElem_cons_zero, Act.put, List.setIfInBounds_toArray, List.set_cons_zero, List.set_cons_succ]
              refine wpAnyH_take (i := 10) (v := ?vk7) rfl (by kernel_rfl) (by kernel_rfl) (by kernel_rfl) (fun _ _ _ h => h) (Or.inl ⟨by rfl, ?hyk7⟩) (by assumption) ?restk7
              case hyk7 => (intro w hSw; (try dsimp only at hSw); go_simp; try with_reducible rfl)
              try simp only [List.getElem_toArray, List.getElem_cons_succ, List.getElem_cons_zero, Act.put, List.setIfInBounds_toArray, List.set_cons_zero, List.set_cons_succ]
              refine wpAnyH_ready (rs := [0, 6]) (by kernel_rfl) (by simp) ?_
              refine AllReadyH.cons rfl (fun K hK => ?_) (AllReadyH.cons rfl (fun K hK => ?_) AllReadyH.nil)
              · go_simp
                have HE := Go.Lib.hid (own_none (w := V) (t := 24) (base := w.heap.size) (Nat.le_trans HBW.out.size HB.out.size))
                have HEG := Go.Lib.hid (show V.heap.size ≤ V.heap.size from HB.out.size)
                have HB := Go.Lib.hid (HB.out.alloc HB.out.size (.cells #[] 24))
                generalize World.alloc V (.cells #[] 24) = w0 at *
                refine hK.out _ _ ?_ (fun hHeld => ?_)
                · trivial
                clear hK K
                try simp only [List.getElem_toArray, List.getElem_cons_succ, List.getElem_cons_zero, Act.put, List.setIfInBounds_toArray, List.set_cons_zero, List.set_cons_succ]
                refine wpAnyH_ready (rs := [4, 6]) (by kernel_rfl) (by simp) ?_
                refine AllReadyH.cons rfl (fun K hK => ?_) (AllReadyH.cons rfl (fun K hK => ?_) AllReadyH.nil)
                · refine op_app rfl (.tmp 42) (.tmp 45) 42 rfl w.heap.size 24 i1 (.slice none 0 0) 24 Try.underlying42 hi hz0 hz1 hz2 rfl V.heap.size 0 0 [] rfl HE.out ⟨g0, 0, none⟩ j _ (us.take j) rfl (by rw [List.length_take]; omega) (take_cells HCS.out hg0 HB.out) (fun u hu => HONE.out u (List.mem_of_mem_take hu)) (by unfold maxLen; omega) (by omega) (Nat.le_trans HBW.out.size HB.out.size) j (by omega) (us.take j) rfl ?_
                  intro g1 cap1 w4 hown1 hgrow1 hat1 hlt1
                  have hge1 : V.heap.size ≤ g1 := by have := HEG.out; have := HB.out.size; omega
                  have HB := Go.Lib.hid (HB.out.grown hgrow1 HB.out.size (fun y hy => by cases hy; exact HEG.out))
                  have H1 := Go.Lib.hid hown1
                  clear hown1 hgrow1
                  refine hK.out _ _ ?_ (fun hHeld => ?_)
                  · trivial
                  clear hK K
                  try simp only [List.getElem_toArray, List.getElem_cons_succ, List.getElem_cons_zero, Act.put, List.setIfInBounds_toArray, List.set_cons_zero, List.set_cons_succ]
                  refine wpAnyH_ready (rs := [6]) (by kernel_rfl) (by simp) ?_
                  refine AllReadyH.cons rfl (fun K hK => ?_) AllReadyH.nil
                  go_simp
                  have H1 := Go.Lib.hid (H1.out.alloc (.cells #[(Value.slice (some ⟨q, 0, none⟩) 2 2)] 24))
                  have hn0 : g1 < w4.heap.size := hlt1
                  have HN := Go.Lib.hid (show Box (World.alloc w4 (.cells #[(Value.slice (some ⟨q, 0, none⟩) 2 2)] 24)) w4.heap.size [(Value.slice (some ⟨q, 0, none⟩) 2 2)] from Box.new rfl rfl)
                  have HB := Go.Lib.hid (HB.out.alloc HB.out.size (.cells #[(Value.slice (some ⟨q, 0, none⟩) 2 2)] 24))
                  generalize World.alloc w4 (.cells #[(Value.slice (some ⟨q, 0, none⟩) 2 2)] 24) = w6 at *
                  refine hK.out _ _ ?_ (fun hHeld => ?_)
                  · trivial
                  clear hK K
                  try simp only [List.getElem_toArray, List.getElem_cons_succ, List.getElem_cons_zero, Act.put, List.setIfInBounds_toArray, List.set_cons_zero, List.set_cons_succ]
                  refine wpAnyH_ready (rs := [7]) (by kernel_rfl) (by simp) ?_
                  refine AllReadyH.cons rfl (fun K hK => ?_) AllReadyH.nil
                  refine op_app rfl (.tmp 46) (.tmp 48) 42 rfl w.heap.size 24 i1 (.slice none 0 0) 24 Try.underlying42 hi hz0 hz1 hz2 rfl g1 j cap1 (us.take j) rfl H1.out ⟨w4.heap.size, 0, none⟩ 1 1 [(Value.slice (some ⟨q, 0, none⟩) 2 2)] rfl rfl (one_cell HN.out) (by simp [Value.oneCell']) (by unfold maxLen; omega) (by omega) (Nat.le_trans HBW.out.size HB.out.size) (j + 1) rfl (us.take j ++ [(Value.slice (some ⟨q, 0, none⟩) 2 2)]) rfl ?_
                  intro g2 cap2 w7 hown2 hgrow2 hat2 hlt2
                  have hge2 : V.heap.size ≤ g2 := by have := HB.out.size; omega
                  have HB := Go.Lib.hid (HB.out.grown hgrow2 HB.out.size (fun y hy => by cases hy; exact hge1))
                  have H2 := Go.Lib.hid hown2
                  clear hown2 hgrow2
                  refine hK.out _ _ ?_ (fun hHeld => ?_)
                  · trivial
                  clear hK K
                  try simp only [List.getElem_toArray, List.getElem_cons_succ, List.getElem_cons_zero, Act.put, List.setIfInBounds_toArray, List.set_cons_zero, List.set_cons_succ]
                  refine wpAnyH_ready (rs := [11]) (by kernel_rfl) (by simp) ?_
                  refine AllReadyH.cons rfl (fun K hK => ?_) AllReadyH.nil
                  first
                    | (refine op_app rfl (.tmp 49) (.tmp 52) 42 rfl w.heap.size 24 i1 (.slice none 0 0) 24 Try.underlying42 hi hz0 hz1 hz2 rfl g2 (j + 1) cap2 (us.take j ++ [(Value.slice (some ⟨q, 0, none⟩) 2 2)]) rfl H2.out ⟨g0, j, none⟩ (kk - j) _ (us.drop j) rfl (by rw [List.length_drop]; omega) (drop_cells HCS.out hg0 HB.out) (fun u hu => HONE.out u (List.mem_of_mem_drop hu)) (by unfold maxLen; omega) (by omega) (Nat.le_trans HBW.out.size HB.out.size) (kk + 1) (by omega) (us.take j ++ [(Value.slice (some ⟨q, 0, none⟩) 2 2)] ++ us.drop j) rfl ?_)
                    | (refine op_app rfl (.tmp 49) (.tmp 52) 42 rfl w.heap.size 24 i1 (.slice none 0 0) 24 Try.underlying42 hi hz0 hz1 hz2 rfl g2 (j + 1) cap2 (us.take j ++ [(Value.slice (some ⟨q, 0, none⟩) 2 2)]) rfl H2.out ⟨g0, 0, none⟩ (kk - j) _ (us.drop j) rfl (by rw [List.length_drop]; omega) (drop_empty (by omega)) (fun u hu => HONE.out u (List.mem_of_mem_drop hu)) (by unfold maxLen; omega) (by omega) (Nat.le_trans HBW.out.size HB.out.size) (kk + 1) (by omega) (us.take j ++ [(Value.slice (some ⟨q, 0, none⟩) 2 2)] ++ us.drop j) rfl ?_)
                  intro g3 cap3 w11 hown3 hgrow3 hat3 hlt3
                  have HB := Go.Lib.hid (HB.out.grown hgrow3 HB.out.size (fun y hy => by cases hy; exact hge2))
                  have H3 := Go.Lib.hid hown3
                  clear hown3 hgrow3
                  refine hK.out _ _ ?_ (fun hHeld => ?_)
                  · trivial
                  clear hK K
                  try simp only [List.getElem_toArray, List.getElem_cons_succ, List.getElem_cons_zero, Act.put, List.setIfInBounds_toArray, List.set_cons_zero, List.set_cons_succ]
                  refine wpAnyH_take (i := 12) (v := ?vk8) rfl (by kernel_rfl) (by kernel_rfl) (by kernel_rfl) (fun _ _ _ h => h) (Or.inl ⟨by rfl, ?hyk8⟩) (by assumption) ?restk8
                  case hyk8 => (intro w hSw; (try dsimp only at hSw); go_simp; try with_reducible rfl)
                  try simp only [List.getElem_toArray, List.getElem_cons_succ, List.getElem_cons_zero, Act.put, List.setIfInBounds_toArray, List.set_cons_zero, List.set_cons_succ]
                  refine wpAnyH_done (by kernel_rfl) ?_ _
                  have HZ := Go.Lib.hid (show OwZ w.heap.size (rowsG (ordTo x (kk + 1))) g3 cap3 w11 from ⟨⟨us.take j ++ [(Value.slice (some ⟨q, 0, none⟩) 2 2)] ++ us.drop j, by rw [HL1.out]; exact H3.out, by rw [HIN.out]; exact (((HRZ.out.below HB.out).take j).app (RowsZ.one (HGL.out.below HB.out))).app ((HRZ.out.below HB.out).drop j)⟩⟩)
                  have HXN := Go.Lib.hid (HXV.out.below HB.out)
                  have HBN := Go.Lib.hid (HBW.out.trans (HB.out.mono HBW.out.size))
                  go_wp2_with fail
                  go_roundw
                  case rel => exact ⟨r + 1, g3, cap3, by omega, by go_num, by rw [show f * x.r.length + (r + 1) = kk + 1 by have := HKE.out; omega, HL1.out], by rw [show f * x.r.length + (r + 1) = kk + 1 by have := HKE.out; omega]; exact HZ.out, HXN.out, HBN.out⟩
                  case measure => simp [intOf]; omega
                · go_simp
                  have hn0 : V.heap.size < w0.heap.size := (HE.out.lt _ rfl).2
                  have HE := Go.Lib.hid (HE.out.alloc (.cells #[(Value.slice (some ⟨q, 0, none⟩) 2 2)] 24))
                  have HN := Go.Lib.hid (show Box (World.alloc w0 (.cells #[(Value.slice (some ⟨q, 0, none⟩) 2 2)] 24)) w0.heap.size [(Value.slice (some ⟨q, 0, none⟩) 2 2)] from Box.new rfl rfl)
                  have HB := Go.Lib.hid (HB.out.alloc HB.out.size (.cells #[(Value.slice (some ⟨q, 0, none⟩) 2 2)] 24))
                  generalize World.alloc w0 (.cells #[(Value.slice (some ⟨q, 0, none⟩) 2 2)] 24) = w6 at *
                  refine hK.out _ _ ?_ (fun hHeld => ?_)
                  · trivial
                  clear hK K
                  try simp only [List.getElem_toArray, List.getElem_cons_succ, List.getElem_cons_zero, Act.put, List.setIfInBounds_toArray, List.set_cons_zero, List.set_cons_succ]
                  refine wpAnyH_ready (rs := [4]) (by kernel_rfl) (by simp) ?_
                  refine AllReadyH.cons rfl (fun K hK => ?_) AllReadyH.nil
                  refine op_app rfl (.tmp 42) (.tmp 45) 42 rfl w.heap.size 24 i1 (.slice none 0 0) 24 Try.underlying42 hi hz0 hz1 hz2 rfl V.heap.size 0 0 [] rfl HE.out ⟨g0, 0, none⟩ j _ (us.take j) rfl (by rw [List.length_take]; omega) (take_cells HCS.out hg0 HB.out) (fun u hu => HONE.out u (List.mem_of_mem_take hu)) (by unfold maxLen; omega) (by omega) (Nat.le_trans HBW.out.size HB.out.size) j (by omega) (us.take j) rfl ?_
                  intro g1 cap1 w4 hown1 hgrow1 hat1 hlt1
                  have hge1 : V.heap.size ≤ g1 := by have := HEG.out; have := HB.out.size; omega
                  have hnl := HN.out.lt
                  have HN := Go.Lib.hid (HN.out.grow hgrow1 (by omega))
                  have hng1 : w0.heap.size ≠ g1 := by omega
                  have HB := Go.Lib.hid (HB.out.grown hgrow1 HB.out.size (fun y hy => by cases hy; exact HEG.out))
                  have H1 := Go.Lib.hid hown1
                  clear hown1 hgrow1
                  refine hK.out _ _ ?_ (fun hHeld => ?_)
                  · trivial
                  clear hK K
                  try simp only [List.getElem_toArray, List.getElem_cons_succ, List.getElem_cons_zero, Act.put, List.setIfInBounds_toArray, List.set_cons_zero, List.set_cons_succ]
                  refine wpAnyH_ready (rs := [7]) (by kernel_rfl) (by simp) ?_
                  refine AllReadyH.cons rfl (fun K hK => ?_) AllReadyH.nil
                  refine op_app rfl (.tmp 46) (.tmp 48) 42 rfl w.heap.size 24 i1 (.slice none 0 0) 24 Try.underlying42 hi hz0 hz1 hz2 rfl g1 j cap1 (us.take j) rfl H1.out ⟨w0.heap.size, 0, none⟩ 1 1 [(Value.slice (some ⟨q, 0, none⟩) 2 2)] rfl rfl (one_cell HN.out) (by simp [Value.oneCell']) (by unfold maxLen; omega) (by omega) (Nat.le_trans HBW.out.size HB.out.size) (j + 1) rfl (us.take j ++ [(Value.slice (some ⟨q, 0, none⟩) 2 2)]) rfl ?_
                  intro g2 cap2 w7 hown2 hgrow2 hat2 hlt2
                  have hge2 : V.heap.size ≤ g2 := by have := HB.out.size; omega
                  have HB := Go.Lib.hid (HB.out.grown hgrow2 HB.out.size (fun y hy => by cases hy; exact hge1))
                  have H2 := Go.Lib.hid hown2
                  clear hown2 hgrow2
                  refine hK.out _ _ ?_ (fun hHeld => ?_)
                  · trivial
                  clear hK K
                  try simp only [List.getElem_toArray, List.getElem_cons_succ, List.getElem_cons_zero, Act.put, List.setIfInBounds_toArray, List.set_cons_zero, List.set_cons_succ]
                  refine wpAnyH_ready (rs := [11]) (by kernel_rfl) (by simp) ?_
                  refine AllReadyH.cons rfl (fun K hK => ?_) AllReadyH.nil
                  first
                    | (refine op_app rfl (.tmp 49) (.tmp 52) 42 rfl w.heap.size 24 i1 (.slice none 0 0) 24 Try.underlying42 hi hz0 hz1 hz2 rfl g2 (j + 1) cap2 (us.take j ++ [(Value.slice (some ⟨q, 0, none⟩) 2 2)]) rfl H2.out ⟨g0, j, none⟩ (kk - j) _ (us.drop j) rfl (by rw [List.length_drop]; omega) (drop_cells HCS.out hg0 HB.out) (fun u hu => HONE.out u (List.mem_of_mem_drop hu)) (by unfold maxLen; omega) (by omega) (Nat.le_trans HBW.out.size HB.out.size) (kk + 1) (by omega) (us.take j ++ [(Value.slice (some ⟨q, 0, none⟩) 2 2)] ++ us.drop j) rfl ?_)
                    | (refine op_app rfl (.tmp 49) (.tmp 52) 42 rfl w.heap.size 24 i1 (.slice none 0 0) 24 Try.underlying42 hi hz0 hz1 hz2 rfl g2 (j + 1) cap2 (us.take j ++ [(Value.slice (some ⟨q, 0, none⟩) 2 2)]) rfl H2.out ⟨g0, 0, none⟩ (kk - j) _ (us.drop j) rfl (by rw [List.length_drop]; omega) (drop_empty (by omega)) (fun u hu => HONE.out u (List.mem_of_mem_drop hu)) (by unfold maxLen; omega) (by omega) (Nat.le_trans HBW.out.size HB.out.size) (kk + 1) (by omega) (us.take j ++ [(Value.slice (some ⟨q, 0, none⟩) 2 2)] ++ us.drop j) rfl ?_)
                  intro g3 cap3 w11 hown3 hgrow3 hat3 hlt3
                  have HB := Go.Lib.hid (HB.out.grown hgrow3 HB.out.size (fun y hy => by cases hy; exact hge2))
                  have H3 := Go.Lib.hid hown3
                  clear hown3 hgrow3
                  refine hK.out _ _ ?_ (fun hHeld => ?_)
                  · trivial
                  clear hK K
                  try simp only [List.getElem_toArray, List.getElem_cons_succ, List.getElem_cons_zero, Act.put, List.setIfInBounds_toArray, List.set_cons_zero, List.set_cons_succ]
                  refine wpAnyH_take (i := 12) (v := ?vk9) rfl (by kernel_rfl) (by kernel_rfl) (by kernel_rfl) (fun _ _ _ h => h) (Or.inl ⟨by rfl, ?hyk9⟩) (by assumption) ?restk9
                  case hyk9 => (intro w hSw; (try dsimp only at hSw); go_simp; try with_reducible rfl)
                  try simp only [List.getElem_toArray, List.getElem_cons_succ, List.getElem_cons_zero, Act.put, List.setIfInBounds_toArray, List.set_cons_zero, List.set_cons_succ]
                  refine wpAnyH_done (by kernel_rfl) ?_ _
                  have HZ := Go.Lib.hid (show OwZ w.heap.size (rowsG (ordTo x (kk + 1))) g3 cap3 w11 from ⟨⟨us.take j ++ [(Value.slice (some ⟨q, 0, none⟩) 2 2)] ++ us.drop j, by rw [HL1.out]; exact H3.out, by rw [HIN.out]; exact (((HRZ.out.below HB.out).take j).app (RowsZ.one (HGL.out.below HB.out))).app ((HRZ.out.below HB.out).drop j)⟩⟩)
                  have HXN := Go.Lib.hid (HXV.out.below HB.out)
                  have HBN := Go.Lib.hid (HBW.out.trans (HB.out.mono HBW.out.size))
                  go_wp2_with fail
                  go_roundw
                  case rel => exact ⟨r + 1, g3, cap3, by omega, by go_num, by rw [show f * x.r.length + (r + 1) = kk + 1 by have := HKE.out; omega, HL1.out], by rw [show f * x.r.length + (r + 1) = kk + 1 by have := HKE.out; omega]; exact HZ.out, HXN.out, HBN.out⟩
                  case measure => simp [intOf]; omega
              · go_simp
                have HN := Go.Lib.hid (show Box (World.alloc V (.cells #[(Value.slice (some ⟨q, 0, none⟩) 2 2)] 24)) V.heap.size [(Value.slice (some ⟨q, 0, none⟩) 2 2)] from Box.new rfl rfl)
                have HB := Go.Lib.hid (HB.out.alloc HB.out.size (.cells #[(Value.slice (some ⟨q, 0, none⟩) 2 2)] 24))
                generalize World.alloc V (.cells #[(Value.slice (some ⟨q, 0, none⟩) 2 2)] 24) = w6 at *
                refine hK.out _ _ ?_ (fun hHeld => ?_)
                · trivial
                clear hK K
                try simp only [List.getElem_toArray, List.getElem_cons_succ, List.getElem_cons_zero, Act.put, List.setIfInBounds_toArray, List.set_cons_zero, List.set_cons_succ]
                refine wpAnyH_ready (rs := [0]) (by kernel_rfl) (by simp) ?_
                refine AllReadyH.cons rfl (fun K hK => ?_) AllReadyH.nil
                go_simp
                have hn0 := HN.out.lt
                have HN := Go.Lib.hid (HN.out.alloc (.cells #[] 24))
                have HE := Go.Lib.hid (own_none (w := w6) (t := 24) (base := w.heap.size) (Nat.le_trans HBW.out.size HB.out.size))
                have HEG := Go.Lib.hid (show V.heap.size ≤ w6.heap.size from HB.out.size)
                have HB := Go.Lib.hid (HB.out.alloc HB.out.size (.cells #[] 24))
                generalize World.alloc w6 (.cells #[] 24) = w0 at *
                refine hK.out _ _ ?_ (fun hHeld => ?_)
                · trivial
                clear hK K
                try simp only [List.getElem_toArray, List.getElem_cons_succ, List.getElem_cons_zero, Act.put, List.setIfInBounds_toArray, List.set_cons_zero, List.set_cons_succ]
                refine wpAnyH_ready (rs := [4]) (by kernel_rfl) (by simp) ?_
                refine AllReadyH.cons rfl (fun K hK => ?_) AllReadyH.nil
                refine op_app rfl (.tmp 42) (.tmp 45) 42 rfl w.heap.size 24 i1 (.slice none 0 0) 24 Try.underlying42 hi hz0 hz1 hz2 rfl w6.heap.size 0 0 [] rfl HE.out ⟨g0, 0, none⟩ j _ (us.take j) rfl (by rw [List.length_take]; omega) (take_cells HCS.out hg0 HB.out) (fun u hu => HONE.out u (List.mem_of_mem_take hu)) (by unfold maxLen; omega) (by omega) (Nat.le_trans HBW.out.size HB.out.size) j (by omega) (us.take j) rfl ?_
                intro g1 cap1 w4 hown1 hgrow1 hat1 hlt1
                have hge1 : V.heap.size ≤ g1 := by have := HEG.out; have := HB.out.size; omega
                have hnl := HN.out.lt
                have HN := Go.Lib.hid (HN.out.grow hgrow1 (by omega))
                have hng1 : V.heap.size ≠ g1 := by omega
                have HB := Go.Lib.hid (HB.out.grown hgrow1 HB.out.size (fun y hy => by cases hy; exact HEG.out))
                have H1 := Go.Lib.hid hown1
                clear hown1 hgrow1
                refine hK.out _ _ ?_ (fun hHeld => ?_)
                · trivial
                clear hK K
                try simp only [List.getElem_toArray, List.getElem_cons_succ, List.getElem_cons_zero, Act.put, List.setIfInBounds_toArray, List.set_cons_zero, List.set_cons_succ]
                refine wpAnyH_ready (rs := [7]) (by kernel_rfl) (by simp) ?_
                refine AllReadyH.cons rfl (fun K hK => ?_) AllReadyH.nil
                refine op_app rfl (.tmp 46) (.tmp 48) 42 rfl w.heap.size 24 i1 (.slice none 0 0) 24 Try.underlying42 hi hz0 hz1 hz2 rfl g1 j cap1 (us.take j) rfl H1.out ⟨V.heap.size, 0, none⟩ 1 1 [(Value.slice (some ⟨q, 0, none⟩) 2 2)] rfl rfl (one_cell HN.out) (by simp [Value.oneCell']) (by unfold maxLen; omega) (by omega) (Nat.le_trans HBW.out.size HB.out.size) (j + 1) rfl (us.take j ++ [(Value.slice (some ⟨q, 0, none⟩) 2 2)]) rfl ?_
                intro g2 cap2 w7 hown2 hgrow2 hat2 hlt2
                have hge2 : V.heap.size ≤ g2 := by have := HB.out.size; omega
                have HB := Go.Lib.hid (HB.out.grown hgrow2 HB.out.size (fun y hy => by cases hy; exact hge1))
                have H2 := Go.Lib.hid hown2
                clear hown2 hgrow2
                refine hK.out _ _ ?_ (fun hHeld => ?_)
                · trivial
                clear hK K
                try simp only [List.getElem_toArray, List.getElem_cons_succ, List.getElem_cons_zero, Act.put, List.setIfInBounds_toArray, List.set_cons_zero, List.set_cons_succ]
                refine wpAnyH_ready (rs := [11]) (by kernel_rfl) (by simp) ?_
                refine AllReadyH.cons rfl (fun K hK => ?_) AllReadyH.nil
                first
                  | (refine op_app rfl (.tmp 49) (.tmp 52) 42 rfl w.heap.size 24 i1 (.slice none 0 0) 24 Try.underlying42 hi hz0 hz1 hz2 rfl g2 (j + 1) cap2 (us.take j ++ [(Value.slice (some ⟨q, 0, none⟩) 2 2)]) rfl H2.out ⟨g0, j, none⟩ (kk - j) _ (us.drop j) rfl (by rw [List.length_drop]; omega) (drop_cells HCS.out hg0 HB.out) (fun u hu => HONE.out u (List.mem_of_mem_drop hu)) (by unfold maxLen; omega) (by omega) (Nat.le_trans HBW.out.size HB.out.size) (kk + 1) (by omega) (us.take j ++ [(Value.slice (some ⟨q, 0, none⟩) 2 2)] ++ us.drop j) rfl ?_)
                  | (refine op_app rfl (.tmp 49) (.tmp 52) 42 rfl w.heap.size 24 i1 (.slice none 0 0) 24 Try.underlying42 hi hz0 hz1 hz2 rfl g2 (j + 1) cap2 (us.take j ++ [(Value.slice (some ⟨q, 0, none⟩) 2 2)]) rfl H2.out ⟨g0, 0, none⟩ (kk - j) _ (us.drop j) rfl (by rw [List.length_drop]; omega) (drop_empty (by omega)) (fun u hu => HONE.out u (List.mem_of_mem_drop hu)) (by unfold maxLen; omega) (by omega) (Nat.le_trans HBW.out.size HB.out.size) (kk + 1) (by omega) (us.take j ++ [(Value.slice (some ⟨q, 0, none⟩) 2 2)] ++ us.drop j) rfl ?_)
                intro g3 cap3 w11 hown3 hgrow3 hat3 hlt3
                have HB := Go.Lib.hid (HB.out.grown hgrow3 HB.out.size (fun y hy => by cases hy; exact hge2))
                have H3 := Go.Lib.hid hown3
                clear hown3 hgrow3
                refine hK.out _ _ ?_ (fun hHeld => ?_)
                · trivial
                clear hK K
                try simp only [List.getElem_toArray, List.getElem_cons_succ, List.getElem_cons_zero, Act.put, List.setIfInBounds_toArray, List.set_cons_zero, List.set_cons_succ]
                refine wpAnyH_take (i := 12) (v := ?vk10) rfl (by kernel_rfl) (by kernel_rfl) (by kernel_rfl) (fun _ _ _ h => h) (Or.inl ⟨by rfl, ?hyk10⟩) (by assumption) ?restk10
                case hyk10 => (intro w hSw; (try dsimp only at hSw); go_simp; try with_reducible rfl)
                try simp only [List.getElem_toArray, List.getElem_cons_succ, List.getElem_cons_zero, Act.put, List.setIfInBounds_toArray, List.set_cons_zero, List.set_cons_succ]
                refine wpAnyH_done (by kernel_rfl) ?_ _
                have HZ := Go.Lib.hid (show OwZ w.heap.size (rowsG (ordTo x (kk + 1))) g3 cap3 w11 from ⟨⟨us.take j ++ [(Value.slice (some ⟨q, 0, none⟩) 2 2)] ++ us.drop j, by rw [HL1.out]; exact H3.out, by rw [HIN.out]; exact (((HRZ.out.below HB.out).take j).app (RowsZ.one (HGL.out.below HB.out))).app ((HRZ.out.below HB.out).drop j)⟩⟩)
                have HXN := Go.Lib.hid (HXV.out.below HB.out)
                have HBN := Go.Lib.hid (HBW.out.trans (HB.out.mono HBW.out.size))
                go_wp2_with fail
                go_roundw
                case rel => exact ⟨r + 1, g3, cap3, by omega, by go_num, by rw [show f * x.r.length + (r + 1) = kk + 1 by have := HKE.out; omega, HL1.out], by rw [show f * x.r.length + (r + 1) = kk + 1 by have := HKE.out; omega]; exact HZ.out, HXN.out, HBN.out⟩
                case measure => simp [intOf]; omega
            case neg =>
              go_upto_region 12 with fail
              refine wp_region_held_drew (S := fun _ => True) (by kernel_rfl) trivial (fun hHeld => ?_)
              change wpAnyH _ _ _ _ _ _ _ _ (wc.drewN 1)
              generalize wc.drewN 1 = V at *
              refine wpAnyH_take (i := 1) (v := ?vm1) rfl (by kernel_rfl) (by kernel_rfl) (by kernel_rfl) (fun _ _ _ h => h) (Or.inl ⟨by rfl, ?hym1⟩) (by assumption) ?restm1
              case hym1 => (intro w hSw; (try dsimp only at hSw); go_simp; try with_reducible rfl)
              try simp only [List.getElem_toArray, List.getElem_cons_succ, List.getElem_cons_zero, Act.put, List.setIfInBounds_toArray, List.set_cons_zero, List.set_cons_succ]
              refine wpAnyH_take (i := 2) (v := ?vm2) rfl (by kernel_rfl) (by kernel_rfl) (by kernel_rfl) (fun _ _ _ h => h) (Or.inl ⟨by rfl, ?hym2⟩) (by assumption) ?restm2
              case hym2 => (intro w hSw; (try dsimp only at hSw); go_simp; try with_reducible rfl)
              try simp only [List.getElem_toArray, List.getElem_cons_succ, List.getElem_cons_zero, Act.put, List.setIfInBounds_toArray, List.set_cons_zero, List.set_cons_succ]
              refine wpAnyH_take (i := 3) (v := ?vm3) rfl (by kernel_rfl) (by kernel_rfl) (by kernel_rfl) (fun _ _ _ h => h) (Or.inl ⟨by rfl, ?hym3⟩) (by assumption) ?restm3
              case hym3 => (intro w hSw; (try dsimp only at hSw); go_simp; try with_reducible rfl)
              try simp only [List.getElem_toArray, List.getElem_cons_succ, List.getElem_cons_zero, Act.put, List.setIfInBounds_toArray, List.set_cons_zero, List.set_cons_succ]
              refine wpAnyH_take (i := 5) (v := ?vm4) rfl (by kernel_rfl) (by kernel_rfl) (by kernel_rfl) (fun _ _ _ h => h) (Or.inl ⟨by rfl, ?hym4⟩) (by assumption) ?restm4
              case hym4 => (intro w hSw; (try dsimp only at hSw); go_simp; try with_reducible rfl)
              try simp only [List.getElem_toArray, List.getElem_cons_succ, List.getElem_cons_zero, Act.put, List.setIfInBounds_toArray, List.set_cons_zero, List.set_cons_succ]
              refine wpAnyH_take (i := 8) (v := ?vm5) rfl (by kernel_rfl) (by kernel_rfl) (by kernel_rfl) (fun _ _ _ h => h) (Or.inl ⟨by rfl, ?hym5⟩) (by assumption) ?restm5
              case hym5 => (intro w hSw; (try dsimp only at hSw); go_simp; try with_reducible rfl)
              try simp only [List.getElem_toArray, List.getElem_cons_succ, List.getElem_cons_zero, Act.put, List.setIfInBounds_toArray, List.set_cons_zero, List.set_cons_succ]
              refine wpAnyH_take (i := 9) (v := ?vm6) rfl (by kernel_rfl) (by kernel_rfl) (by kernel_rfl) (fun _ _ _ h => h) (Or.inl ⟨by rfl, ?hym6⟩) (by assumption) ?restm6
              case hym6 => (intro w hSw; (try dsimp only at hSw); go_simp; try with_reducible rfl)
              try simp only [List.getElem_toArray, List.getElem_cons_succ, List.getElem_cons_zero, Act.put, List.setIfInBounds_toArray, List.set_cons_zero, List.set_cons_succ]
              refine wpAnyH_take (i := 10) (v := ?vm7) rfl (by kernel_rfl) (by kernel_rfl) (by kernel_rfl) (fun _ _ _ h => h) (Or.inl ⟨by rfl, ?hym7⟩) (by assumption) ?restm7
              case hym7 => (intro w hSw; (try dsimp only at hSw); go_simp; try with_reducible rfl)
              try simp only [List.getElem_toArray, List.getElem_cons_succ, List.getElem_cons_zero, Act.put, List.setIfInBounds_toArray, List.set_cons_zero, List.set_cons_succ]
              refine wpAnyH_ready (rs := [0, 6]) (by kernel_rfl) (by simp) ?_
              refine AllReadyH.cons rfl (fun K hK => ?_) (AllReadyH.cons rfl (fun K hK => ?_) AllReadyH.nil)
              · go_simp
                have HE := Go.Lib.hid (own_none (w := V) (t := 24) (base := w.heap.size) (Nat.le_trans HBW.out.size HB.out.size))
                have HEG := Go.Lib.hid (show V.heap.size ≤ V.heap.size from HB.out.size)
                have HB := Go.Lib.hid (HB.out.alloc HB.out.size (.cells #[] 24))
                generalize World.alloc V (.cells #[] 24) = w0 at *
                refine hK.out _ _ ?_ (fun hHeld => ?_)
                · trivial
                clear hK K
                try simp only [List.getElem_toArray, List.getElem_cons_succ, List.getElem_cons_zero, Act.put, List.setIfInBounds_toArray, List.set_cons_zero, List.set_cons_succ]
                refine wpAnyH_ready (rs := [4, 6]) (by kernel_rfl) (by simp) ?_
                refine AllReadyH.cons rfl (fun K hK => ?_) (AllReadyH.cons rfl (fun K hK => ?_) AllReadyH.nil)
                · refine op_app rfl (.tmp 42) (.tmp 45) 42 rfl w.heap.size 24 i1 (.slice none 0 0) 24 Try.underlying42 hi hz0 hz1 hz2 rfl V.heap.size 0 0 [] rfl HE.out ⟨g0, 0, none⟩ j _ (us.take j) rfl (by rw [List.length_take]; omega) (take_cells HCS.out hg0 HB.out) (fun u hu => HONE.out u (List.mem_of_mem_take hu)) (by unfold maxLen; omega) (by omega) (Nat.le_trans HBW.out.size HB.out.size) j (by omega) (us.take j) rfl ?_
                  intro g1 cap1 w4 hown1 hgrow1 hat1 hlt1
                  have hge1 : V.heap.size ≤ g1 := by have := HEG.out; have := HB.out.size; omega
                  have HB := Go.Lib.hid (HB.out.grown hgrow1 HB.out.size (fun y hy => by cases hy; exact HEG.out))
                  have H1 := Go.Lib.hid hown1
                  clear hown1 hgrow1
                  refine hK.out _ _ ?_ (fun hHeld => ?_)
                  · trivial
                  clear hK K
                  try simp only [List.getElem_toArray, List.getElem_cons_succ, List.getElem_cons_zero, Act.put, List.setIfInBounds_toArray, List.set_cons_zero, List.set_cons_succ]
                  refine wpAnyH_ready (rs := [6]) (by kernel_rfl) (by simp) ?_
                  refine AllReadyH.cons rfl (fun K hK => ?_) AllReadyH.nil
                  go_simp
                  have H1 := Go.Lib.hid (H1.out.alloc (.cells #[(Value.slice (some ⟨q, 0, none⟩) 2 2)] 24))
                  have hn0 : g1 < w4.heap.size := hlt1
                  have HN := Go.Lib.hid (show Box (World.alloc w4 (.cells #[(Value.slice (some ⟨q, 0, none⟩) 2 2)] 24)) w4.heap.size [(Value.slice (some ⟨q, 0, none⟩) 2 2)] from Box.new rfl rfl)
                  have HB := Go.Lib.hid (HB.out.alloc HB.out.size (.cells #[(Value.slice (some ⟨q, 0, none⟩) 2 2)] 24))
                  generalize World.alloc w4 (.cells #[(Value.slice (some ⟨q, 0, none⟩) 2 2)] 24) = w6 at *
                  refine hK.out _ _ ?_ (fun hHeld => ?_)
                  · trivial
                  clear hK K
                  try simp only [List.getElem_toArray, List.getElem_cons_succ, List.getElem_cons_zero, Act.put, List.setIfInBounds_toArray, List.set_cons_zero, List.set_cons_succ]
                  refine wpAnyH_ready (rs := [7]) (by kernel_rfl) (by simp) ?_
                  refine AllReadyH.cons rfl (fun K hK => ?_) AllReadyH.nil
                  refine op_app rfl (.tmp 46) (.tmp 48) 42 rfl w.heap.size 24 i1 (.slice none 0 0) 24 Try.underlying42 hi hz0 hz1 hz2 rfl g1 j cap1 (us.take j) rfl H1.out ⟨w4.heap.size, 0, none⟩ 1 1 [(Value.slice (some ⟨q, 0, none⟩) 2 2)] rfl rfl (one_cell HN.out) (by simp [Value.oneCell']) (by unfold maxLen; omega) (by omega) (Nat.le_trans HBW.out.size HB.out.size) (j + 1) rfl (us.take j ++ [(Value.slice (some ⟨q, 0, none⟩) 2 2)]) rfl ?_
                  intro g2 cap2 w7 hown2 hgrow2 hat2 hlt2
                  have hge2 : V.heap.size ≤ g2 := by have := HB.out.size; omega
                  have HB := Go.Lib.hid (HB.out.grown hgrow2 HB.out.size (fun y hy => by cases hy; exact hge1))
                  have H2 := Go.Lib.hid hown2
                  clear hown2 hgrow2
                  refine hK.out _ _ ?_ (fun hHeld => ?_)
                  · trivial
                  clear hK K
                  try simp only [List.getElem_toArray, List.getElem_cons_succ, List.getElem_cons_zero, Act.put, List.setIfInBounds_toArray, List.set_cons_zero, List.set_cons_succ]
                  refine wpAnyH_ready (rs := [11]) (by kernel_rfl) (by simp) ?_
                  refine AllReadyH.cons rfl (fun K hK => ?_) AllReadyH.nil
                  first
                    | (refine op_app rfl (.tmp 49) (.tmp 52) 42 rfl w.heap.size 24 i1 (.slice none 0 0) 24 Try.underlying42 hi hz0 hz1 hz2 rfl g2 (j + 1) cap2 (us.take j ++ [(Value.slice (some ⟨q, 0, none⟩) 2 2)]) rfl H2.out ⟨g0, j, none⟩ (kk - j) _ (us.drop j) rfl (by rw [List.length_drop]; omega) (drop_cells HCS.out hg0 HB.out) (fun u hu => HONE.out u (List.mem_of_mem_drop hu)) (by unfold maxLen; omega) (by omega) (Nat.le_trans HBW.out.size HB.out.size) (kk + 1) (by omega) (us.take j ++ [(Value.slice (some ⟨q, 0, none⟩) 2 2)] ++ us.drop j) rfl ?_)
                    | (refine op_app rfl (.tmp 49) (.tmp 52) 42 rfl w.heap.size 24 i1 (.slice none 0 0) 24 Try.underlying42 hi hz0 hz1 hz2 rfl g2 (j + 1) cap2 (us.take j ++ [(Value.slice (some ⟨q, 0, none⟩) 2 2)]) rfl H2.out ⟨g0, 0, none⟩ (kk - j) _ (us.drop j) rfl (by rw [List.length_drop]; omega) (drop_empty (by omega)) (fun u hu => HONE.out u (List.mem_of_mem_drop hu)) (by unfold maxLen; omega) (by omega) (Nat.le_trans HBW.out.size HB.out.size) (kk + 1) (by omega) (us.take j ++ [(Value.slice (some ⟨q, 0, none⟩) 2 2)] ++ us.drop j) rfl ?_)
                  intro g3 cap3 w11 hown3 hgrow3 hat3 hlt3
                  have HB := Go.Lib.hid (HB.out.grown hgrow3 HB.out.size (fun y hy => by cases hy; exact hge2))
                  have H3 := Go.Lib.hid hown3
                  clear hown3 hgrow3
                  refine hK.out _ _ ?_ (fun hHeld => ?_)
                  · trivial
                  clear hK K
                  try simp only [List.getElem_toArray, List.getElem_cons_succ, List.getElem_cons_zero, Act.put, List.setIfInBounds_toArray, List.set_cons_zero, List.set_cons_succ]
                  refine wpAnyH_take (i := 12) (v := ?vm8) rfl (by kernel_rfl) (by kernel_rfl) (by kernel_rfl) (fun _ _ _ h => h) (Or.inl ⟨by rfl, ?hym8⟩) (by assumption) ?restm8
                  case hym8 => (intro w hSw; (try dsimp only at hSw); go_simp; try with_reducible rfl)
                  try simp only [List.getElem_toArray, List.getElem_cons_succ, List.getElem_cons_zero, Act.put, List.setIfInBounds_toArray, List.set_cons_zero, List.set_cons_succ]
                  refine wpAnyH_done (by kernel_rfl) ?_ _
                  have HZ := Go.Lib.hid (show OwZ w.heap.size (rowsG (ordTo x (kk + 1))) g3 cap3 w11 from ⟨⟨us.take j ++ [(Value.slice (some ⟨q, 0, none⟩) 2 2)] ++ us.drop j, by rw [HL1.out]; exact H3.out, by rw [HIN.out]; exact (((HRZ.out.below HB.out).take j).app (RowsZ.one (HGL.out.below HB.out))).app ((HRZ.out.below HB.out).drop j)⟩⟩)
                  have HXN := Go.Lib.hid (HXV.out.below HB.out)
                  have HBN := Go.Lib.hid (HBW.out.trans (HB.out.mono HBW.out.size))
                  go_wp2_with fail
                  go_roundw
                  case rel => exact ⟨r + 1, g3, cap3, by omega, by go_num, by rw [show f * x.r.length + (r + 1) = kk + 1 by have := HKE.out; omega, HL1.out], by rw [show f * x.r.length + (r + 1) = kk + 1 by have := HKE.out; omega]; exact HZ.out, HXN.out, HBN.out⟩
                  case measure => simp [intOf]; omega
                · go_simp
                  have hn0 : V.heap.size < w0.heap.size := (HE.out.lt _ rfl).2
                  have HE := Go.Lib.hid (HE.out.alloc (.cells #[(Value.slice (some ⟨q, 0, none⟩) 2 2)] 24))
                  have HN := Go.Lib.hid (show Box (World.alloc w0 (.cells #[(Value.slice (some ⟨q, 0, none⟩) 2 2)] 24)) w0.heap.size [(Value.slice (some ⟨q, 0, none⟩) 2 2)] from Box.new rfl rfl)
                  have HB := Go.Lib.hid (HB.out.alloc HB.out.size (.cells #[(Value.slice (some ⟨q, 0, none⟩) 2 2)] 24))
                  generalize World.alloc w0 (.cells #[(Value.slice (some ⟨q, 0, none⟩) 2 2)] 24) = w6 at *
                  refine hK.out _ _ ?_ (fun hHeld => ?_)
                  · trivial
                  clear hK K
                  try simp only [List.getElem_toArray, List.getElem_cons_succ, List.getElem_cons_zero, Act.put, List.setIfInBounds_toArray, List.set_cons_zero, List.set_cons_succ]
                  refine wpAnyH_ready (rs := [4]) (by kernel_rfl) (by simp) ?_
                  refine AllReadyH.cons rfl (fun K hK => ?_) AllReadyH.nil
                  refine op_app rfl (.tmp 42) (.tmp 45) 42 rfl w.heap.size 24 i1 (.slice none 0 0) 24 Try.underlying42 hi hz0 hz1 hz2 rfl V.heap.size 0 0 [] rfl HE.out ⟨g0, 0, none⟩ j _ (us.take j) rfl (by rw [List.length_take]; omega) (take_cells HCS.out hg0 HB.out) (fun u hu => HONE.out u (List.mem_of_mem_take hu)) (by unfold maxLen; omega) (by omega) (Nat.le_trans HBW.out.size HB.out.size) j (by omega) (us.take j) rfl ?_
                  intro g1 cap1 w4 hown1 hgrow1 hat1 hlt1
                  have hge1 : V.heap.size ≤ g1 := by have := HEG.out; have := HB.out.size; omega
                  have hnl := HN.out.lt
                  have HN := Go.Lib.hid (HN.out.grow hgrow1 (by omega))
                  have hng1 : w0.heap.size ≠ g1 := by omega
                  have HB := Go.Lib.hid (HB.out.grown hgrow1 HB.out.size (fun y hy => by cases hy; exact HEG.out))
                  have H1 := Go.Lib.hid hown1
                  clear hown1 hgrow1
                  refine hK.out _ _ ?_ (fun hHeld => ?_)
                  · trivial
                  clear hK K
                  try simp only [List.getElem_toArray, List.getElem_cons_succ, List.getElem_cons_zero, Act.put, List.setIfInBounds_toArray, List.set_cons_zero, List.set_cons_succ]
                  refine wpAnyH_ready (rs := [7]) (by kernel_rfl) (by simp) ?_
                  refine AllReadyH.cons rfl (fun K hK => ?_) AllReadyH.nil
                  refine op_app rfl (.tmp 46) (.tmp 48) 42 rfl w.heap.size 24 i1 (.slice none 0 0) 24 Try.underlying42 hi hz0 hz1 hz2 rfl g1 j cap1 (us.take j) rfl H1.out ⟨w0.heap.size, 0, none⟩ 1 1 [(Value.slice (some ⟨q, 0, none⟩) 2 2)] rfl rfl (one_cell HN.out) (by simp [Value.oneCell']) (by unfold maxLen; omega) (by omega) (Nat.le_trans HBW.out.size HB.out.size) (j + 1) rfl (us.take j ++ [(Value.slice (some ⟨q, 0, none⟩) 2 2)]) rfl ?_
                  intro g2 cap2 w7 hown2 hgrow2 hat2 hlt2
                  have hge2 : V.heap.size ≤ g2 := by have := HB.out.size; omega
                  have HB := Go.Lib.hid (HB.out.grown hgrow2 HB.out.size (fun y hy => by cases hy; exact hge1))
                  have H2 := Go.Lib.hid hown2
                  clear hown2 hgrow2
                  refine hK.out _ _ ?_ (fun hHeld => ?_)
                  · trivial
                  clear hK K
                  try simp only [List.getElem_toArray, List.getElem_cons_succ, List.getElem_cons_zero, Act.put, List.setIfInBounds_toArray, List.set_cons_zero, List.set_cons_succ]
                  refine wpAnyH_ready (rs := [11]) (by kernel_rfl) (by simp) ?_
                  refine AllReadyH.cons rfl (fun K hK => ?_) AllReadyH.nil
                  first
                    | (refine op_app rfl (.tmp 49) (.tmp 52) 42 rfl w.heap.size 24 i1 (.slice none 0 0) 24 Try.underlying42 hi hz0 hz1 hz2 rfl g2 (j + 1) cap2 (us.take j ++ [(Value.slice (some ⟨q, 0, none⟩) 2 2)]) rfl H2.out ⟨g0, j, none⟩ (kk - j) _ (us.drop j) rfl (by rw [List.length_drop]; omega) (drop_cells HCS.out hg0 HB.out) (fun u hu => HONE.out u (List.mem_of_mem_drop hu)) (by unfold maxLen; omega) (by omega) (Nat.le_trans HBW.out.size HB.out.size) (kk + 1) (by omega) (us.take j ++ [(Value.slice (some ⟨q, 0, none⟩) 2 2)] ++ us.drop j) rfl ?_)
                    | (refine op_app rfl (.tmp 49) (.tmp 52) 42 rfl w.heap.size 24 i1 (.slice none 0 0) 24 Try.underlying42 hi hz0 hz1 hz2 rfl g2 (j + 1) cap2 (us.take j ++ [(Value.slice (some ⟨q, 0, none⟩) 2 2)]) rfl H2.out ⟨g0, 0, none⟩ (kk - j) _ (us.drop j) rfl (by rw [List.length_drop]; omega) (drop_empty (by omega)) (fun u hu => HONE.out u (List.mem_of_mem_drop hu)) (by unfold maxLen; omega) (by omega) (Nat.le_trans HBW.out.size HB.out.size) (kk + 1) (by omega) (us.take j ++ [(Value.slice (some ⟨q, 0, none⟩) 2 2)] ++ us.drop j) rfl ?_)
                  intro g3 cap3 w11 hown3 hgrow3 hat3 hlt3
                  have HB := Go.Lib.hid (HB.out.grown hgrow3 HB.out.size (fun y hy => by cases hy; exact hge2))
                  have H3 := Go.Lib.hid hown3
                  clear hown3 hgrow3
                  refine hK.out _ _ ?_ (fun hHeld => ?_)
                  · trivial
                  clear hK K
                  try simp only [List.getElem_toArray, List.getElem_cons_succ, List.getElem_cons_zero, Act.put, List.setIfInBounds_toArray, List.set_cons_zero, List.set_cons_succ]
                  refine wpAnyH_take (i := 12) (v := ?vm9) rfl (by kernel_rfl) (by kernel_rfl) (by kernel_rfl) (fun _ _ _ h => h) (Or.inl ⟨by rfl, ?hym9⟩) (by assumption) ?restm9
                  case hym9 => (intro w hSw; (try dsimp only at hSw); go_simp; try with_reducible rfl)
                  try simp only [List.getElem_toArray, List.getElem_cons_succ, List.getElem_cons_zero, Act.put, List.setIfInBounds_toArray, List.set_cons_zero, List.set_cons_succ]
                  refine wpAnyH_done (by kernel_rfl) ?_ _
                  have HZ := Go.Lib.hid (show OwZ w.heap.size (rowsG (ordTo x (kk + 1))) g3 cap3 w11 from ⟨⟨us.take j ++ [(Value.slice (some ⟨q, 0, none⟩) 2 2)] ++ us.drop j, by rw [HL1.out]; exact H3.out, by rw [HIN.out]; exact (((HRZ.out.below HB.out).take j).app (RowsZ.one (HGL.out.below HB.out))).app ((HRZ.out.below HB.out).drop j)⟩⟩)
                  have HXN := Go.Lib.hid (HXV.out.below HB.out)
                  have HBN := Go.Lib.hid (HBW.out.trans (HB.out.mono HBW.out.size))
                  go_wp2_with fail
                  go_roundw
                  case rel => exact ⟨r + 1, g3, cap3, by omega, by go_num, by rw [show f * x.r.length + (r + 1) = kk + 1 by have := HKE.out; omega, HL1.out], by rw [show f * x.r.length + (r + 1) = kk + 1 by have := HKE.out; omega]; exact HZ.out, HXN.out, HBN.out⟩
                  case measure => simp [intOf]; omega
              · go_simp
                have HN := Go.Lib.hid (show Box (World.alloc V (.cells #[(Value.slice (some ⟨q, 0, none⟩) 2 2)] 24)) V.heap.size [(Value.slice (some ⟨q, 0, none⟩) 2 2)] from Box.new rfl rfl)
                have HB := Go.Lib.hid (HB.out.alloc HB.out.size (.cells #[(Value.slice (some ⟨q, 0, none⟩) 2 2)] 24))
                generalize World.alloc V (.cells #[(Value.slice (some ⟨q, 0, none⟩) 2 2)] 24) = w6 at *
                refine hK.out _ _ ?_ (fun hHeld => ?_)
                · trivial
                clear hK K
                try simp only [List.getElem_toArray, List.getElem_cons_succ, List.getElem_cons_zero, Act.put, List.setIfInBounds_toArray, List.set_cons_zero, List.set_cons_succ]
                refine wpAnyH_ready (rs := [0]) (by kernel_rfl) (by simp) ?_
                refine AllReadyH.cons rfl (fun K hK => ?_) AllReadyH.nil
                go_simp
                have hn0 := HN.out.lt
                have HN := Go.Lib.hid (HN.out.alloc (.cells #[] 24))
                have HE := Go.Lib.hid (own_none (w := w6) (t := 24) (base := w.heap.size) (Nat.le_trans HBW.out.size HB.out.size))
                have HEG := Go.Lib.hid (show V.heap.size ≤ w6.heap.size from HB.out.size)
                have HB := Go.Lib.hid (HB.out.alloc HB.out.size (.cells #[] 24))
                generalize World.alloc w6 (.cells #[] 24) = w0 at *
                refine hK.out _ _ ?_ (fun hHeld => ?_)
                · trivial
                clear hK K
                try simp only [List.getElem_toArray, List.getElem_cons_succ, List.getElem_cons_zero, Act.put, List.setIfInBounds_toArray, List.set_cons_zero, List.set_cons_succ]
                refine wpAnyH_ready (rs := [4]) (by kernel_rfl) (by simp) ?_
                refine AllReadyH.cons rfl (fun K hK => ?_) AllReadyH.nil
                refine op_app rfl (.tmp 42) (.tmp 45) 42 rfl w.heap.size 24 i1 (.slice none 0 0) 24 Try.underlying42 hi hz0 hz1 hz2 rfl w6.heap.size 0 0 [] rfl HE.out ⟨g0, 0, none⟩ j _ (us.take j) rfl (by rw [List.length_take]; omega) (take_cells HCS.out hg0 HB.out) (fun u hu => HONE.out u (List.mem_of_mem_take hu)) (by unfold maxLen; omega) (by omega) (Nat.le_trans HBW.out.size HB.out.size) j (by omega) (us.take j) rfl ?_
                intro g1 cap1 w4 hown1 hgrow1 hat1 hlt1
                have hge1 : V.heap.size ≤ g1 := by have := HEG.out; have := HB.out.size; omega
                have hnl := HN.out.lt
                have HN := Go.Lib.hid (HN.out.grow hgrow1 (by omega))
                have hng1 : V.heap.size ≠ g1 := by omega
                have HB := Go.Lib.hid (HB.out.grown hgrow1 HB.out.size (fun y hy => by cases hy; exact HEG.out))
                have H1 := Go.Lib.hid hown1
                clear hown1 hgrow1
                refine hK.out _ _ ?_ (fun hHeld => ?_)
                · trivial
                clear hK K
                try simp only [List.getElem_toArray, List.getElem_cons_succ, List.getElem_cons_zero, Act.put, List.setIfInBounds_toArray, List.set_cons_zero, List.set_cons_succ]
                refine wpAnyH_ready (rs := [7]) (by kernel_rfl) (by simp) ?_
                refine AllReadyH.cons rfl (fun K hK => ?_) AllReadyH.nil
                refine op_app rfl (.tmp 46) (.tmp 48) 42 rfl w.heap.size 24 i1 (.slice none 0 0) 24 Try.underlying42 hi hz0 hz1 hz2 rfl g1 j cap1 (us.take j) rfl H1.out ⟨V.heap.size, 0, none⟩ 1 1 [(Value.slice (some ⟨q, 0, none⟩) 2 2)] rfl rfl (one_cell HN.out) (by simp [Value.oneCell']) (by unfold maxLen; omega) (by omega) (Nat.le_trans HBW.out.size HB.out.size) (j + 1) rfl (us.take j ++ [(Value.slice (some ⟨q, 0, none⟩) 2 2)]) rfl ?_
                intro g2 cap2 w7 hown2 hgrow2 hat2 hlt2
                have hge2 : V.heap.size ≤ g2 := by have := HB.out.size; omega
                have HB := Go.Lib.hid (HB.out.grown hgrow2 HB.out.size (fun y hy => by cases hy; exact hge1))
                have H2 := Go.Lib.hid hown2
                clear hown2 hgrow2
                refine hK.out _ _ ?_ (fun hHeld => ?_)
                · trivial
                clear hK K
                try simp only [List.getElem_toArray, List.getElem_cons_succ, List.getElem_cons_zero, Act.put, List.setIfInBounds_toArray, List.set_cons_zero, List.set_cons_succ]
                refine wpAnyH_ready (rs := [11]) (by kernel_rfl) (by simp) ?_
                refine AllReadyH.cons rfl (fun K hK => ?_) AllReadyH.nil
                first
                  | (refine op_app rfl (.tmp 49) (.tmp 52) 42 rfl w.heap.size 24 i1 (.slice none 0 0) 24 Try.underlying42 hi hz0 hz1 hz2 rfl g2 (j + 1) cap2 (us.take j ++ [(Value.slice (some ⟨q, 0, none⟩) 2 2)]) rfl H2.out ⟨g0, j, none⟩ (kk - j) _ (us.drop j) rfl (by rw [List.length_drop]; omega) (drop_cells HCS.out hg0 HB.out) (fun u hu => HONE.out u (List.mem_of_mem_drop hu)) (by unfold maxLen; omega) (by omega) (Nat.le_trans HBW.out.size HB.out.size) (kk + 1) (by omega) (us.take j ++ [(Value.slice (some ⟨q, 0, none⟩) 2 2)] ++ us.drop j) rfl ?_)
                  | (refine op_app rfl (.tmp 49) (.tmp 52) 42 rfl w.heap.size 24 i1 (.slice none 0 0) 24 Try.underlying42 hi hz0 hz1 hz2 rfl g2 (j + 1) cap2 (us.take j ++ [(Value.slice (some ⟨q, 0, none⟩) 2 2)]) rfl H2.out ⟨g0, 0, none⟩ (kk - j) _ (us.drop j) rfl (by rw [List.length_drop]; omega) (drop_empty (by omega)) (fun u hu => HONE.out u (List.mem_of_mem_drop hu)) (by unfold maxLen; omega) (by omega) (Nat.le_trans HBW.out.size HB.out.size) (kk + 1) (by omega) (us.take j ++ [(Value.slice (some ⟨q, 0, none⟩) 2 2)] ++ us.drop j) rfl ?_)
                intro g3 cap3 w11 hown3 hgrow3 hat3 hlt3
                have HB := Go.Lib.hid (HB.out.grown hgrow3 HB.out.size (fun y hy => by cases hy; exact hge2))
                have H3 := Go.Lib.hid hown3
                clear hown3 hgrow3
                refine hK.out _ _ ?_ (fun hHeld => ?_)
                · trivial
                clear hK K
                try simp only [List.getElem_toArray, List.getElem_cons_succ, List.getElem_cons_zero, Act.put, List.setIfInBounds_toArray, List.set_cons_zero, List.set_cons_succ]
                refine wpAnyH_take (i := 12) (v := ?vm10) rfl (by kernel_rfl) (by kernel_rfl) (by kernel_rfl) (fun _ _ _ h => h) (Or.inl ⟨by rfl, ?hym10⟩) (by assumption) ?restm10
                case hym10 => (intro w hSw; (try dsimp only at hSw); go_simp; try with_reducible rfl)
                try simp only [List.getElem_toArray, List.getElem_cons_succ, List.getElem_cons_zero, Act.put, List.setIfInBounds_toArray, List.set_cons_zero, List.set_cons_succ]
                refine wpAnyH_done (by kernel_rfl) ?_ _
                have HZ := Go.Lib.hid (show OwZ w.heap.size (rowsG (ordTo x (kk + 1))) g3 cap3 w11 from ⟨⟨us.take j ++ [(Value.slice (some ⟨q, 0, none⟩) 2 2)] ++ us.drop j, by rw [HL1.out]; exact H3.out, by rw [HIN.out]; exact (((HRZ.out.below HB.out).take j).app (RowsZ.one (HGL.out.below HB.out))).app ((HRZ.out.below HB.out).drop j)⟩⟩)
                have HXN := Go.Lib.hid (HXV.out.below HB.out)
                have HBN := Go.Lib.hid (HBW.out.trans (HB.out.mono HBW.out.size))
                go_wp2_with fail
                go_roundw
                case rel => exact ⟨r + 1, g3, cap3, by omega, by go_num, by rw [show f * x.r.length + (r + 1) = kk + 1 by have := HKE.out; omega, HL1.out], by rw [show f * x.r.length + (r + 1) = kk + 1 by have := HKE.out; omega]; exact HZ.out, HXN.out, HBN.out⟩
                case measure => simp [intOf]; omega
end Go.Proofs.Ythedanpldebjcaa
