/- The model: the search in breadth. -/
import Derived.Test.YthedanpldebjcaaShiftS1
import Derived.Test.YthedanpldebjcaaShiftS2
import Derived.Test.YthedanpldebjcaaMgWays3
namespace Go.Proofs.Ythedanpldebjcaa
open Go.RowKit
set_option linter.unusedSimpArgs false
set_option linter.unusedVariables false

set_option maxRecDepth 100000 in
set_option maxHeartbeats 16000000 in
theorem specWays (x : Trn) (A : Option Addr) (c : Nat) (B : Option Addr) (d : Nat) (lm f r : Int) (w : World) (T : TrL x A c B d w) (hT : Train x) (hl : 0 ≤ lm ∧ lm ≤ 4) (ha : okG x lm (f, r) = true) :
    Calls Try.prog 59 #[trainV x A c B d, .int .i64 lm, .int .i64 f, .int .i64 r] w (fun e w' => ∃ base bs cs vs vw, e = .returned (.tuple #[vs, vw]) ∧ w.heap.size ≤ base ∧ Srch base (nums (bfEnd x lm (f, r))) (bfEnd x lm (f, r)).ways bs cs vs vw w' ∧ Below w.heap.size w w') := by
  obtain ⟨i0, hi, hz0, hz1, hz2⟩ := info_parts infoI64
  obtain ⟨j0, ji, jz0, jz1, jz2⟩ := info_parts infoRow
  have HT := Go.Lib.hid T
  have HX := Go.Lib.hid (boxT_box x A c B d w)
  have HXB := Go.Lib.hid (boxT_below x A c B d w)
  clear T
  have HTR := Go.Lib.hid hT
  have HA := Go.Lib.hid ha
  have hnp := num_parts hT ha
  have HN0 := Go.Lib.hid (show f * 12 + r = numG (f, r) from rfl)
  have hg := okG_gear ha
  have h36 := ordI_few hT
  have hff := hT.f.few
  have hrf := hT.r.few
  have e1 : IntKind.i64.wrap (f * 12) = f * 12 := IntWalk.i64_in _ (by simp only at hg; omega)
  have e2 : IntKind.i64.wrap (f * 12 + r) = f * 12 + r := IntWalk.i64_in _ (by simp only at hg; omega)
  have HMVG := Go.Lib.hid (fun f0 r0 m w0 T0 h1 h2 h3 => specMove x A c B d lm f0 r0 m w0 T0 hl h1 h2 h3)
  clear hT ha hnp hg hff hrf hl
  unfold trainV at *
  go_enter Try.func59, Try.ntmps59
  go_upto_region 1 with fail
  refine wp_gen (R := fun W => Box W w.heap.size (trainC x A c B d) ∧ Below w.heap.size w W) ⟨HX.out, HXB.out⟩ ?_
  rintro W ⟨hx, hb⟩
  have HX1 := Go.Lib.hid hx
  have HB1 := Go.Lib.hid hb
  have HT1 := Go.Lib.hid (HT.out.below hb)
  clear hx hb HX HXB
  have hlw : w.heap.size < W.heap.size := HX1.out.lt
  have q1 := World.ownsRow_lit (base := W.heap.size) (e := 2) (size := 1) W #[.int .i64 (f * 12 + r)] 1 (Nat.le_refl _) (by unfold maxLen; omega) rfl
  have q2 := World.ownsRow_lit (base := W.heap.size) (e := 2) (size := 1) (W.alloc (.cells #[.int .i64 (f * 12 + r)] 2)) #[] 0 (by simp) (by unfold maxLen; omega) rfl
  have q3 := World.ownsRow_lit (base := W.heap.size) (e := 24) (size := 1) ((W.alloc (.cells #[.int .i64 (f * 12 + r)] 2)).alloc (.cells #[] 2)) #[.slice (some ⟨W.heap.size + 1, 0, none⟩) 0 0] 1 (by simp; omega) (by unfold maxLen; omega) rfl
  have z1 : (W.alloc (.cells #[.int .i64 (f * 12 + r)] 2)).heap.size = W.heap.size + 1 := by simp
  have z2 : ((W.alloc (.cells #[.int .i64 (f * 12 + r)] 2)).alloc (.cells #[] 2)).heap.size = W.heap.size + 2 := by simp
  rw [z1] at q2
  rw [z2] at q3
  have hb3 : Below W.heap.size W (((W.alloc (.cells #[.int .i64 (f * 12 + r)] 2)).alloc (.cells #[] 2)).alloc (.cells #[.slice (some ⟨W.heap.size + 1, 0, none⟩) 0 0] 24)) := (((Below.refl _ _).alloc (Nat.le_refl _) _).alloc (by simp) _).alloc (by simp; omega) _
  have HS0 := Go.Lib.hid (show Srch W.heap.size (nums (bfTo x lm (f, r) 0)) (bfTo x lm (f, r) 0).ways [W.heap.size + 1] [0] (.slice (some ⟨W.heap.size, 0, none⟩) 1 1) (.slice (some ⟨W.heap.size + 2, 0, none⟩) 1 1) (((W.alloc (.cells #[.int .i64 (f * 12 + r)] 2)).alloc (.cells #[] 2)).alloc (.cells #[.slice (some ⟨W.heap.size + 1, 0, none⟩) 0 0] 24)) from
    ⟨(q1.alloc _).alloc _, q3, rfl, rfl, fun i hi => by
      obtain rfl : i = 0 := by simpa [bfTo] using hi
      exact q2.alloc _, fun g h g1 g2 => by
      simp only [Value.ownBlock, Option.some.injEq] at g1 g2
      omega, fun g g1 i hi => by
      obtain rfl : i = 0 := by simpa [bfTo] using hi
      simp only [Value.ownBlock, Option.some.injEq] at g1
      show W.heap.size + 1 ≠ g
      omega, fun g g1 i hi => by
      obtain rfl : i = 0 := by simpa [bfTo] using hi
      simp only [Value.ownBlock, Option.some.injEq] at g1
      show W.heap.size + 1 ≠ g
      omega⟩)
  have HB3 := Go.Lib.hid hb3
  clear q1 q2 q3 z1 z2 hb3
  go_upto_region 2 with fail
  refine wp_gen (R := fun V => Srch W.heap.size (nums (bfTo x lm (f, r) 0)) (bfTo x lm (f, r) 0).ways [W.heap.size + 1] [0] (.slice (some ⟨W.heap.size, 0, none⟩) 1 1) (.slice (some ⟨W.heap.size + 2, 0, none⟩) 1 1) V ∧ Below W.heap.size W V) ⟨HS0.out, HB3.out⟩ ?_
  rintro V ⟨hs, hb⟩
  have HS0 := Go.Lib.hid hs
  have HB0 := Go.Lib.hid hb
  clear hs hb HB3
  generalize (Value.slice (some ⟨W.heap.size, 0, none⟩) 1 1) = vs0 at *
  generalize (Value.slice (some ⟨W.heap.size + 2, 0, none⟩) 1 1) = vw0 at *
  go_wp2_with fail
  go_loopw [10, 11, 12] (fun vs vw i wr => ∃ (k : Nat) (bs cs : List Nat), k ≤ (bfTo x lm (f, r) k).seen.length ∧ i = .int .i64 k ∧ Srch W.heap.size (nums (bfTo x lm (f, r) k)) (bfTo x lm (f, r) k).ways bs cs vs vw wr ∧ Below W.heap.size W wr) (fun _ _ i _ => 37 - (intOf i).toNat)
  case atStart => exact ⟨0, _, _, Nat.zero_le _, rfl, HS0.out, HB0.out⟩
  case round =>
    obtain ⟨k, bs, cs, hk, rfl, hs, hb⟩ := hrel
    have HS := Go.Lib.hid hs
    have HB := Go.Lib.hid hb
    have HOK := Go.Lib.hid (bfTo_ok HA.out k)
    have hfew := bf_few HTR.out (bfTo_ok HA.out k)
    have HNL := Go.Lib.hid (nums_len (bfTo x lm (f, r) k))
    obtain ⟨As, caps, rfl, -⟩ := row_ow hs.sn
    clear hs hb HS0
    by_cases hlt : k < (bfTo x lm (f, r) k).seen.length
    case neg =>
      have HE := Go.Lib.hid (bfEnd_is (x := x) (lm := lm) (a := (f, r)) (k := k) (by omega) (by omega))
      have hkl : ¬ (k : Int) < (nums (bfTo x lm (f, r) k)).length := by rw [HNL.out]; omega
      go_wp2_with fail
      go_ret2
      refine ⟨W.heap.size, bs, cs, _, _, rfl, HB1.out.size, ?_, HB1.out.trans (HB.out.mono HB1.out.size)⟩
      rw [HE.out]
      exact HS.out
    case pos =>
      have hkl : (k : Int) < (nums (bfTo x lm (f, r) k)).length := by rw [HNL.out]; omega
      have hk36 : k < 36 := by omega
      have HWF := Go.Lib.hid (show ((bfTo x lm (f, r) k).w k).length ≤ 36 from Nat.le_trans (way_few HA.out k k hlt) (by omega))
      have HNX := Go.Lib.hid (bfTo_next (x := x) (lm := lm) (a := (f, r)) hlt)
      have HMS := Go.Lib.hid (fun j hj => bfMs_ok (bfTo_ok HA.out k) hlt j hj)
      have HM0 := Go.Lib.hid (show bfMs x lm (bfTo x lm (f, r) k) k 0 = (bfTo x lm (f, r) k) from rfl)
      clear HNL hk
      generalize hb0 : (bfTo x lm (f, r) k) = b at *
      clear hb0
      go_wp2_with fail
      go_loopw [10, 11, 13] (fun vs vw m wr => ∃ (j : Nat) (bs cs : List Nat), j ≤ 4 ∧ m = .int .i64 j ∧ Srch W.heap.size (nums (bfMs x lm b k j)) (bfMs x lm b k j).ways bs cs vs vw wr ∧ Below W.heap.size W wr) (fun _ _ m _ => 5 - (intOf m).toNat)
      case atStart => exact ⟨0, bs, cs, by omega, rfl, HS.out, HB.out⟩
      case round =>
        obtain ⟨j, bs, cs, hj, rfl, hs, hb⟩ := hrel
        have HSR := Go.Lib.hid hs
        have HBR := Go.Lib.hid hb
        obtain ⟨hM, hML, hMs, hMw⟩ := HMS.out j hj
        have HMK := Go.Lib.hid hM
        have HML := Go.Lib.hid hML
        clear hML
        by_cases hj4 : j < 4
        case neg =>
          obtain rfl : j = 4 := by omega
          clear hs hb
          go_wp2_with fail
          go_roundw
          case rel => exact ⟨k + 1, bs, cs, by rw [HNX.out]; have := HML.out; omega, by go_num, by rw [HNX.out]; exact HSR.out, HBR.out⟩
          case measure => simp [intOf]; omega
        case pos =>
          have HNJ := Go.Lib.hid (show bfMs x lm b k (j + 1) = bfM x lm (bfMs x lm b k j) k (j : Nat) from rfl)
          have hkb : k < (bfMs x lm b k j).seen.length := by have := HML.out; omega
          have hbf := bf_few HTR.out hM
          have hwl : (bfMs x lm b k j).ways.length = (bfMs x lm b k j).seen.length := hM.len
          have hwf : ((bfMs x lm b k j).w k).length ≤ 36 := by rw [hMw]; exact HWF.out
          clear hMs hMw hM
          generalize bfMs x lm b k j = b' at *
          have hokp := HMK.out.ok _ (s_mem hkb)
          obtain ⟨n0, n1, n2, n3⟩ := num_parts HTR.out hokp
          have hgp := okG_gear hokp
          have hff := HTR.out.f.few
          have hrf := HTR.out.r.few
          have HNL := Go.Lib.hid (nums_len b')
          obtain ⟨As, caps2, rfl, hos⟩ := row_ow hs.sn
          obtain ⟨gs, rfl, -, -, hlg⟩ := hos.form (by rw [HNL.out]; omega)
          have hcell : wr.cell? ⟨gs, k, none⟩ = some (.int .i64 (numG (b'.s k))) := (hos.cell (by rw [HNL.out]; exact hkb)).trans ((ints_at (nums b') k (by rw [HNL.out]; exact hkb)).trans (by rw [nums_at hkb]))
          obtain ⟨pf, pr, hp⟩ : ∃ pf pr, b'.s k = (pf, pr) := ⟨_, _, rfl⟩
          rw [hp] at n0 n1 n2 n3 hgp hcell
          simp only at n2 n3 hgp
          obtain ⟨qf, qr, hq⟩ : ∃ qf qr, mvG (pf, pr) (j : Int) = (qf, qr) := ⟨_, _, rfl⟩
          have hqb : -1 ≤ qf ∧ qf ≤ 3 ∧ -1 ≤ qr ∧ qr ≤ 12 := by
            have hj3 : (j : Int) = 0 ∨ (j : Int) = 1 ∨ (j : Int) = 2 ∨ (j : Int) = 3 := by omega
            unfold mvG at hq
            rcases hj3 with e | e | e | e <;> rw [e] at hq <;> simp at hq <;> omega
          have t1 : (numG (pf, pr)).tdiv 12 = pf := by rw [Int.tdiv_eq_ediv_of_nonneg n0]; exact n2
          have t2 : (numG (pf, pr)).tmod 12 = pr := by rw [Int.tmod_eq_emod_of_nonneg n0]; exact n3
          have w1 : IntKind.i64.wrap pf = pf := IntWalk.i64_in _ (by omega)
          have w2 : IntKind.i64.wrap pr = pr := IntWalk.i64_in _ (by omega)
          have w3 : IntKind.i64.wrap (qf * 12) = qf * 12 := IntWalk.i64_in _ (by omega)
          have w4 : IntKind.i64.wrap (qf * 12 + qr) = qf * 12 + qr := IntWalk.i64_in _ (by omega)
          have HMV := Go.Lib.hid (fun w0 T0 => HMVG.out pf pr (j : Int) w0 T0 (by omega) (by omega) (by omega))
          rw [hq] at HMV
          have HOLD := Go.Lib.hid (fun (h : okG x lm (qf, qr) = true → b'.seen.contains (qf, qr) = true) => show bfM x lm b' k (j : Nat) = b' from bfM_old (by rw [hp, hq]; exact h))
          have HNEW := Go.Lib.hid (fun (h1 : okG x lm (qf, qr) = true) (h2 : b'.seen.contains (qf, qr) = false) => show bfM x lm b' k (j : Nat) = ⟨b'.seen ++ [(qf, qr)], b'.ways ++ [b'.w k ++ [(j : Int)]]⟩ from by
            have := bfM_new (x := x) (lm := lm) (b := b') (i := k) (m := (j : Nat)) (by rw [hp, hq]; exact h1) (by rw [hp, hq]; exact h2)
            rw [hp, hq] at this
            exact this)
          have HHN := Go.Lib.hid (fun (h1 : okG x lm (qf, qr) = true) => show (nums b').contains (qf * 12 + qr) = b'.seen.contains (qf, qr) from has_num HTR.out HMK.out.ok h1)
          have hj4i : (j : Int) ≤ 3 := by omega
          have hkn : (k : Int) < (nums b').length := by rw [HNL.out]; omega
          have hbn : (nums b').length ≤ 36 := by rw [HNL.out]; omega
          have hbw : b'.ways.length ≤ 36 := by omega
          have hkw : k < b'.ways.length := by omega
          have HXR := Go.Lib.hid (HX1.out.below hb)
          have HTW := HT1.out.below hb
          have HTD := Go.Lib.hid (show TrL x A c B d wr.drew from ⟨HTW.f.drewN 1, HTW.r.drewN 1⟩)
          have hlq : w.heap.size < wr.drew.heap.size := HXR.out.drew.lt
          have hlg : gs < wr.drew.heap.size := hlg
          have hc0 : wr.cell? ⟨w.heap.size, 0, none⟩ = some (.slice A x.f.length c) := HXR.out.at_ 0 _ rfl
          have hc1 : wr.cell? ⟨w.heap.size, 1, none⟩ = some (.slice B x.r.length d) := HXR.out.at_ 1 _ rfl
          have hc2 : wr.cell? ⟨w.heap.size, 2, none⟩ = some (.int .i64 x.n) := HXR.out.at_ 2 _ rfl
          have HSB := Go.Lib.hid (HBR.out.size)
          clear hs hb hos n2 n3 hgp hff hrf hqb hbf hwl hokp HTW hp hq HMS HM0
          generalize numG (pf, pr) = np at *
          generalize hok : okG x lm (qf, qr) = okq at *
          have HOQ := Go.Lib.hid hok
          clear hok
          go_upto_region 8 with fail
          refine wp_region_held_drew (S := fun w' => w'.cell? ⟨w.heap.size, 0, none⟩ = some (.slice A x.f.length c) ∧ w'.cell? ⟨w.heap.size, 1, none⟩ = some (.slice B x.r.length d) ∧ w'.cell? ⟨w.heap.size, 2, none⟩ = some (.int .i64 x.n) ∧ w'.cell? ⟨gs, k, none⟩ = some (.int .i64 np)) (by kernel_rfl) (by exact ⟨hc0, hc1, hc2, hcell⟩) (fun hHeld => ?_)
          refine wpAnyH_take (i := 0) (v := ?va1) rfl (by kernel_rfl) (by kernel_rfl) (by kernel_rfl) (fun _ _ _ h => h) (Or.inl ⟨by rfl, ?hya1⟩) (by assumption) ?resta1
          case hya1 => (intro w hSw; (try dsimp only at hSw); go_simp; try with_reducible rfl)
          try simp only [List.getElem_toArray, List.getElem_cons_succ, List.getElem_cons_zero, Act.put, List.setIfInBounds_toArray, List.set_cons_zero, List.set_cons_succ]
          refine wpAnyH_take (i := 1) (v := ?va2) rfl (by kernel_rfl) (by kernel_rfl) (by kernel_rfl) (fun _ _ _ h => h) (Or.inl ⟨by rfl, ?hya2⟩) (by assumption) ?resta2
          case hya2 => (intro w hSw; (try dsimp only at hSw); go_simp; try with_reducible rfl)
          try simp only [List.getElem_toArray, List.getElem_cons_succ, List.getElem_cons_zero, Act.put, List.setIfInBounds_toArray, List.set_cons_zero, List.set_cons_succ]
          refine wpAnyH_take (i := 2) (v := ?va3) rfl (by kernel_rfl) (by kernel_rfl) (by kernel_rfl) (fun _ _ _ h => h) (Or.inl ⟨by rfl, ?hya3⟩) (by assumption) ?resta3
          case hya3 => (intro w hSw; (try dsimp only at hSw); go_simp; try with_reducible rfl)
          try simp only [List.getElem_toArray, List.getElem_cons_succ, List.getElem_cons_zero, Act.put, List.setIfInBounds_toArray, List.set_cons_zero, List.set_cons_succ]
          refine wpAnyH_take (i := 3) (v := ?va4) rfl (by kernel_rfl) (by kernel_rfl) (by kernel_rfl) (fun _ _ _ h => h) (Or.inl ⟨by rfl, ?hya4⟩) (by assumption) ?resta4
          case hya4 => (intro w hSw; (try dsimp only at hSw); go_simp; try with_reducible rfl)
          try simp only [List.getElem_toArray, List.getElem_cons_succ, List.getElem_cons_zero, Act.put, List.setIfInBounds_toArray, List.set_cons_zero, List.set_cons_succ]
          refine wpAnyH_take (i := 4) (v := ?va5) rfl (by kernel_rfl) (by kernel_rfl) (by kernel_rfl) (fun _ _ _ h => h) (Or.inl ⟨by rfl, ?hya5⟩) (by assumption) ?resta5
          case hya5 => (intro w hSw; (try dsimp only at hSw); go_simp; try with_reducible rfl)
          try simp only [List.getElem_toArray, List.getElem_cons_succ, List.getElem_cons_zero, Act.put, List.setIfInBounds_toArray, List.set_cons_zero, List.set_cons_succ]
          refine wpAnyH_take (i := 5) (v := ?va6) rfl (by kernel_rfl) (by kernel_rfl) (by kernel_rfl) (fun _ _ _ h => h) (Or.inl ⟨by rfl, ?hya6⟩) (by assumption) ?resta6
          case hya6 => (intro w hSw; (try dsimp only at hSw); go_simp; try with_reducible rfl)
          try simp only [List.getElem_toArray, List.getElem_cons_succ, List.getElem_cons_zero, Act.put, List.setIfInBounds_toArray, List.set_cons_zero, List.set_cons_succ]
          refine wpAnyH_take (i := 6) (v := ?va7) rfl (by kernel_rfl) (by kernel_rfl) (by kernel_rfl) (fun _ _ _ h => h) (Or.inl ⟨by rfl, ?hya7⟩) (by assumption) ?resta7
          case hya7 => (intro w hSw; (try dsimp only at hSw); go_simp; try with_reducible rfl)
          try simp only [List.getElem_toArray, List.getElem_cons_succ, List.getElem_cons_zero, Act.put, List.setIfInBounds_toArray, List.set_cons_zero, List.set_cons_succ]
          refine wpAnyH_take (i := 7) (v := ?va8) rfl (by kernel_rfl) (by kernel_rfl) (by kernel_rfl) (fun _ _ _ h => h) (Or.inl ⟨by rfl, ?hya8⟩) (by assumption) ?resta8
          case hya8 => (intro w hSw; (try dsimp only at hSw); go_simp; try with_reducible rfl)
          try simp only [List.getElem_toArray, List.getElem_cons_succ, List.getElem_cons_zero, Act.put, List.setIfInBounds_toArray, List.set_cons_zero, List.set_cons_succ]
          refine wpAnyH_take (i := 8) (v := ?va9) rfl (by kernel_rfl) (by kernel_rfl) (by kernel_rfl) (fun _ _ _ h => h) (Or.inl ⟨by rfl, ?hya9⟩) (by assumption) ?resta9
          case hya9 => (intro w hSw; (try dsimp only at hSw); go_simp; try with_reducible rfl)
          try simp only [List.getElem_toArray, List.getElem_cons_succ, List.getElem_cons_zero, Act.put, List.setIfInBounds_toArray, List.set_cons_zero, List.set_cons_succ]
          refine wpAnyH_take (i := 9) (v := ?va10) rfl (by kernel_rfl) (by kernel_rfl) (by kernel_rfl) (fun _ _ _ h => h) (Or.inl ⟨by rfl, ?hya10⟩) (by assumption) ?resta10
          case hya10 => (intro w hSw; (try dsimp only at hSw); go_simp; try with_reducible rfl)
          try simp only [List.getElem_toArray, List.getElem_cons_succ, List.getElem_cons_zero, Act.put, List.setIfInBounds_toArray, List.set_cons_zero, List.set_cons_succ]
          refine wpAnyH_take (i := 10) (v := ?va11) rfl (by kernel_rfl) (by kernel_rfl) (by kernel_rfl) (fun _ _ _ h => h) (Or.inl ⟨by rfl, ?hya11⟩) (by assumption) ?resta11
          case hya11 => (intro w hSw; (try dsimp only at hSw); go_simp; try with_reducible rfl)
          try simp only [List.getElem_toArray, List.getElem_cons_succ, List.getElem_cons_zero, Act.put, List.setIfInBounds_toArray, List.set_cons_zero, List.set_cons_succ]
          refine wpAnyH_take (i := 11) (v := ?va12) rfl (by kernel_rfl) (by kernel_rfl) (by kernel_rfl) (fun _ _ _ h => h) (Or.inl ⟨by rfl, ?hya12⟩) (by assumption) ?resta12
          case hya12 => (intro w hSw; (try dsimp only at hSw); go_simp; try with_reducible rfl)
          try simp only [List.getElem_toArray, List.getElem_cons_succ, List.getElem_cons_zero, Act.put, List.setIfInBounds_toArray, List.set_cons_zero, List.set_cons_succ]
          refine wpAnyH_take (i := 12) (v := ?va13) rfl (by kernel_rfl) (by kernel_rfl) (by kernel_rfl) (fun _ _ _ h => h) (Or.inl ⟨by rfl, ?hya13⟩) (by assumption) ?resta13
          case hya13 => (intro w hSw; (try dsimp only at hSw); go_simp; try with_reducible rfl)
          try simp only [List.getElem_toArray, List.getElem_cons_succ, List.getElem_cons_zero, Act.put, List.setIfInBounds_toArray, List.set_cons_zero, List.set_cons_succ]
          refine wpAnyH_ready (rs := [13]) (by kernel_rfl) (by simp) ?_
          refine AllReadyH.cons rfl (fun K hK => ?_) AllReadyH.nil
          go_simp
          (go_at_call 64; refine (HMV.out _ HTD.out).mono ?_; rintro _ wc ⟨rfl, bc⟩)
          refine hK.out _ _ ?_ (fun hHeld => ?_)
          · exact ⟨(bc.cell (p := ⟨w.heap.size, 0, none⟩) hlq).trans hHeld.1, (bc.cell (p := ⟨w.heap.size, 1, none⟩) hlq).trans hHeld.2.1, (bc.cell (p := ⟨w.heap.size, 2, none⟩) hlq).trans hHeld.2.2.1, (bc.cell (p := ⟨gs, k, none⟩) hlg).trans hHeld.2.2.2⟩
          clear hK K
          try simp only [List.getElem_toArray, List.getElem_cons_succ, List.getElem_cons_zero, Act.put, List.setIfInBounds_toArray, List.set_cons_zero, List.set_cons_succ]
          refine wpAnyH_take (i := 14) (v := ?va14) rfl (by kernel_rfl) (by kernel_rfl) (by kernel_rfl) (fun _ _ _ h => h) (Or.inl ⟨by rfl, ?hya14⟩) (by assumption) ?resta14
          case hya14 => (intro w hSw; (try dsimp only at hSw); go_simp; try with_reducible rfl)
          try simp only [List.getElem_toArray, List.getElem_cons_succ, List.getElem_cons_zero, Act.put, List.setIfInBounds_toArray, List.set_cons_zero, List.set_cons_succ]
          refine wpAnyH_take (i := 15) (v := ?va15) rfl (by kernel_rfl) (by kernel_rfl) (by kernel_rfl) (fun _ _ _ h => h) (Or.inl ⟨by rfl, ?hya15⟩) (by assumption) ?resta15
          case hya15 => (intro w hSw; (try dsimp only at hSw); go_simp; try with_reducible rfl)
          try simp only [List.getElem_toArray, List.getElem_cons_succ, List.getElem_cons_zero, Act.put, List.setIfInBounds_toArray, List.set_cons_zero, List.set_cons_succ]
          refine wpAnyH_take (i := 16) (v := ?va16) rfl (by kernel_rfl) (by kernel_rfl) (by kernel_rfl) (fun _ _ _ h => h) (Or.inl ⟨by rfl, ?hya16⟩) (by assumption) ?resta16
          case hya16 => (intro w hSw; (try dsimp only at hSw); go_simp; try with_reducible rfl)
          try simp only [List.getElem_toArray, List.getElem_cons_succ, List.getElem_cons_zero, Act.put, List.setIfInBounds_toArray, List.set_cons_zero, List.set_cons_succ]
          refine wpAnyH_take (i := 17) (v := ?va17) rfl (by kernel_rfl) (by kernel_rfl) (by kernel_rfl) (fun _ _ _ h => h) (Or.inl ⟨by rfl, ?hya17⟩) (by assumption) ?resta17
          case hya17 => (intro w hSw; (try dsimp only at hSw); go_simp; try with_reducible rfl)
          try simp only [List.getElem_toArray, List.getElem_cons_succ, List.getElem_cons_zero, Act.put, List.setIfInBounds_toArray, List.set_cons_zero, List.set_cons_succ]
          refine wpAnyH_take (i := 18) (v := ?va18) rfl (by kernel_rfl) (by kernel_rfl) (by kernel_rfl) (fun _ _ _ h => h) (Or.inl ⟨by rfl, ?hya18⟩) (by assumption) ?resta18
          case hya18 => (intro w hSw; (try dsimp only at hSw); go_simp; try with_reducible rfl)
          try simp only [List.getElem_toArray, List.getElem_cons_succ, List.getElem_cons_zero, Act.put, List.setIfInBounds_toArray, List.set_cons_zero, List.set_cons_succ]
          refine wpAnyH_take (i := 19) (v := ?va19) rfl (by kernel_rfl) (by kernel_rfl) (by kernel_rfl) (fun _ _ _ h => h) (Or.inl ⟨by rfl, ?hya19⟩) (by assumption) ?resta19
          case hya19 => (intro w hSw; (try dsimp only at hSw); go_simp; try with_reducible rfl)
          try simp only [List.getElem_toArray, List.getElem_cons_succ, List.getElem_cons_zero, Act.put, List.setIfInBounds_toArray, List.set_cons_zero, List.set_cons_succ]
          refine wpAnyH_take (i := 20) (v := ?va20) rfl (by kernel_rfl) (by kernel_rfl) (by kernel_rfl) (fun _ _ _ h => h) (Or.inl ⟨by rfl, ?hya20⟩) (by assumption) ?resta20
          case hya20 => (intro w hSw; (try dsimp only at hSw); go_simp; try with_reducible rfl)
          try simp only [List.getElem_toArray, List.getElem_cons_succ, List.getElem_cons_zero, Act.put, List.setIfInBounds_toArray, List.set_cons_zero, List.set_cons_succ]
          refine wpAnyH_done (by kernel_rfl) ?_ _
          have HSC := Go.Lib.hid ((HSR.out.below (below_drewN (Below.refl _ _) 1)).below bc)
          have HXC := Go.Lib.hid (HXR.out.drew.below bc)
          have HBC := Go.Lib.hid (HBR.out.drew.trans (bc.mono HBR.out.drew.size))
          have HTC := Go.Lib.hid (HTD.out.below bc)
          clear bc hcell hHeld hc0 hc1 hc2
          cases okq
          case false =>
            have HB2 := Go.Lib.hid (HOLD.out (fun h => absurd h (by decide)))
            go_wp2_with fail
            go_roundw
            case rel => exact ⟨j + 1, bs, cs, by omega, by go_num, by rw [HNJ.out, HB2.out]; exact HSC.out, HBC.out⟩
            case measure => simp [intOf]; omega
          case true =>
            have HHS := Go.Lib.hid (specHas _ caps2 (nums b') (qf * 12 + qr) wc (HSC.out.ls (by omega)))
            rw [HHN.out rfl] at HHS
            cases hct : b'.seen.contains (qf, qr)
            case true =>
              have HB2 := Go.Lib.hid (HOLD.out (fun _ => hct))
              rw [hct] at HHS
              clear hct
              go_wp2_with fail
              refine (HHS.out).mono ?_
              rintro _ _ ⟨rfl, rfl⟩
              go_wp2_with fail
              go_roundw
              case rel => exact ⟨j + 1, bs, cs, by omega, by go_num, by rw [HNJ.out, HB2.out]; exact HSC.out, HBC.out⟩
              case measure => simp [intOf]; omega
            case false =>
              have HB2 := Go.Lib.hid (HNEW.out rfl hct)
              rw [hct] at HHS
              clear hct
              obtain ⟨Aw, capw, rfl, how⟩ := row_ow HSC.out.wy
              obtain ⟨gw, rfl, -, -, -⟩ := how.form (by omega)
              clear how
              have hsn := HSC.out.sn
              have hszc : W.heap.size ≤ wc.heap.size := HBC.out.size
              have HSN := Go.Lib.hid hsn
              obtain ⟨wk, hwk⟩ : ∃ wk, wk = b'.ways.getD k [] := ⟨_, rfl⟩
              obtain ⟨qk, hqk⟩ : ∃ qk, qk = bs.getD k 0 := ⟨_, rfl⟩
              obtain ⟨ck, hck⟩ : ∃ ck, ck = cs.getD k 0 := ⟨_, rfl⟩
              have hwlen : wk.length ≤ 36 := by rw [hwk]; exact hwf
              have HWK := Go.Lib.hid hwk
              have HQK := Go.Lib.hid hqk
              have HCK := Go.Lib.hid hck
              clear hwk hqk hck hwf
              go_wp2_with fail
              refine (HHS.out).mono ?_
              rintro _ _ ⟨rfl, rfl⟩
              go_wp2_with (at_builtin; refine wpList_append_own_at _ rfl _ _ 24 rfl W.heap.size 2 i0 (.int .i64 0) 1 8 Try.underlying24 hi hz0 hz1 hz2 rfl (by decide) _ _ _ rfl (hsn.alloc _) ⟨wc.heap.size, 0, none⟩ 1 1 [.int .i64 (qf * 12 + qr)] rfl rfl (cell_one_new _ _ _) (ints_oneCell .i64 [qf * 12 + qr]) (by unfold maxLen; omega) (by omega) (by simp; omega) ?_; intro vs5 w5 hown' hgrow hnil hat; clear hnil; have HS5 := Go.Lib.hid (HSC.out.see hown' hgrow hat); have HB5 := Go.Lib.hid (below_app HBC.out (Nat.le_refl _) hgrow (fun g hg => (HSN.out.lt g hg).1)); clear hown' hgrow hat hsn; have hcw : w5.cell? ⟨gw, k, none⟩ = some (.slice (some ⟨qk, 0, none⟩) wk.length ck) := by (rw [HWK.out, HQK.out, HCK.out]; exact (HS5.out.wy.cellAt k (by omega)).trans (rowsW_at hkw)))
              have HR5 := Go.Lib.hid (show w5.ownsRow W.heap.size 2 1 (.slice (some ⟨qk, 0, none⟩) wk.length ck) wk.length (ints wk) by rw [HWK.out, HQK.out, HCK.out]; exact HS5.out.rows k hkw)
              have hsz5 : W.heap.size ≤ w5.heap.size := HB5.out.size
              refine (specOwnG (some ⟨qk, 0, none⟩) ck wk w5 W.heap.size ⟨HR5.out, fun g hg => (HR5.out.lt g hg).2⟩ (by omega)).mono ?_
              rintro _ w6 ⟨v6, rfl, G⟩
              have HG6 := Go.Lib.hid G
              have hG := G.row
              have hsz6 : w5.heap.size ≤ w6.heap.size := G.b.size
              clear G hcw HR5
              go_wp2_with (at_builtin; first | (refine wpList_append_own_at _ rfl _ _ 24 rfl w5.heap.size 2 i0 (.int .i64 0) 1 8 Try.underlying24 hi hz0 hz1 hz2 rfl (by decide) _ _ _ rfl (hG.alloc _) ⟨w6.heap.size, 0, none⟩ 1 1 [.int .i64 (j : Int)] rfl rfl (cell_one_new _ _ _) (ints_oneCell .i64 [(j : Int)]) (by unfold maxLen; omega) (by omega) (by simp; omega) ?_; intro v7 w7 hown7 hgrow7 hnil7 hat7; clear hnil7 hat7; have HG7 := Go.Lib.hid (HG6.out.step hown7 hgrow7); obtain ⟨q, cq, e7⟩ := own_some hown7; subst e7; clear hown7 hgrow7 hG; have HG8 := Go.Lib.hid (HG7.out.rowed); have hwy := own_below HS5.out.wy HG8.out.b; have HWY := Go.Lib.hid hwy; have HB7 := Go.Lib.hid (HB5.out.trans (HG8.out.b.mono HB5.out.size)); have hsz7 : W.heap.size ≤ w7.heap.size := HB7.out.size; clear HG7) | (refine wpList_append_own_at _ rfl _ _ 42 rfl W.heap.size 24 j0 (.slice none 0 0) 1 24 Try.underlying42 ji jz0 jz1 jz2 rfl (by decide) _ _ _ rfl (hwy.alloc _) ⟨w7.heap.size, 0, none⟩ 1 1 [.slice (some ⟨q, 0, none⟩) (wk.length + 1) cq] rfl rfl (cell_one_new _ _ _) (by simp [Value.oneCell']) (by unfold maxLen; omega) (by omega) (by simp; omega) ?_; intro vw8 w8 hown8 hgrow8 hnil8 hat8; clear hnil8; have HS8 := Go.Lib.hid (HS5.out.way hsz5 HG8.out (by (rw [rowW_snoc]; exact hown8)) hgrow8 hat8); have HB8 := Go.Lib.hid (below_app HB7.out (Nat.le_refl _) hgrow8 (fun g hg => (HWY.out.lt g hg).1)); clear hown8 hgrow8 hat8 hwy))
              go_wp2_with fail
              go_roundw
              case rel => exact ⟨j + 1, bs ++ [q], cs ++ [cq], by omega, by go_num, by rw [HNJ.out, HB2.out, nums_new, show b'.w k = wk from HWK.out.symm]; exact HS8.out, HB8.out⟩
              case measure => simp [intOf]; omega
end Go.Proofs.Ythedanpldebjcaa
