/- The program: UsualLacing. -/
import Derived.Test.YtlmbcidijbohiaaLacI4
namespace Go.Proofs.Ytlmbcidijbohiaa
open Go.RowKit
attribute [local go_sem] Oper.semAt_some

def usualR (n c : Int) : List Int × Int := if holes6 n then if 0 ≤ c ∧ c ≤ n / 2 - 1 then (usualI n c, 0) else ([], 2) else ([], 1)
set_option linter.unusedSimpArgs false
set_option linter.unusedVariables false
set_option maxRecDepth 100000 in
set_option maxHeartbeats 8000000 in
theorem implUsual (n cr : Int) (w : World) : Calls Try.prog 22 #[.int .i64 n, .int .i64 cr] w (GivesLN (usualR n cr) w) := by
  obtain ⟨s, hs0⟩ : ∃ s, w.heap.size = s := ⟨_, rfl⟩
  have HS := Go.Lib.hid hs0
  clear hs0
  have HF := Go.Lib.hid (fun w0 => implFlange n w0)
  refine (callsIn_wide (n := 5)).1 ?_
  refine callsIn_of_wp_marks Try.func22 rfl trivial ?_ rfl
  simp only [Try.ntmps22, List.size_toArray, List.length_cons, List.length_nil, Nat.reduceAdd, Nat.reduceSub, Array.replicate_succ, Array.replicate_zero, List.push_toArray, List.append_toArray, List.nil_append, List.cons_append]
  refine (wpIn_wide (n := 5)).2 ?_
  go_upto_region 1 with fail
  refine wp_gen (R := fun W => W.heap.size = s + 1 + 1 ∧ Below s w W ∧ Box W s [.int .i64 n] ∧ Box W (s + 1) [.int .i64 cr]) ?_ ?_
  · have e := HS.out
    subst e
    refine ⟨by simp, ((Below.refl _ w).alloc (Nat.le_refl _) _).alloc (by simp) _, ?_, ?_⟩
    · exact (Box.new rfl rfl).alloc _
    · exact Box.new (by simp) rfl
  try rw [HS.out]
  rintro wa ⟨za, ba, a0, a1⟩
  have c0 := a0.at_ 0 _ rfl
  have c1 := a1.at_ 0 _ rfl
  by_cases hh : holes6 n = true
  case neg =>
    rw [Bool.not_eq_true] at hh
    rw [hh] at HF
    have HV := Go.Lib.hid (show usualR n cr = ([], 1) by simp [usualR, hh])
    have B1 := Go.Lib.hid ba
    clear hh ba
    go_wp2_with fail
    refine (HF.out _).mono ?_
    rintro _ _ ⟨rfl, rfl⟩
    go_wp2_with fail
    exact leave0 (results_tmp2 rfl _ _ _) (GivesLN.nil HV.out (by rw [HS.out]; exact B1.out))
  case pos =>
  rw [hh] at HF
  obtain ⟨r0, r1, r2⟩ := holes6_bd hh
  have HR := Go.Lib.hid (fun w0 => implInR cr 0 (n / 2 - 1) w0)
  by_cases hp : 0 ≤ cr ∧ cr ≤ n / 2 - 1
  case neg =>
    have hp' : (decide (0 ≤ cr) && decide (cr ≤ n / 2 - 1)) = false := by simp; omega
    rw [hp'] at HR
    have HV := Go.Lib.hid (show usualR n cr = ([], 2) by unfold usualR; rw [if_pos hh, if_neg hp])
    have B1 := Go.Lib.hid ba
    clear hh hp hp' ba
    go_wp2_with fail
    refine (HF.out _).mono ?_
    rintro _ _ ⟨rfl, rfl⟩
    go_wp2_with fail
    refine (HR.out _).mono ?_
    rintro _ _ ⟨rfl, rfl⟩
    go_wp2_with fail
    exact leave0 (results_tmp2 rfl _ _ _) (GivesLN.nil HV.out (by rw [HS.out]; exact B1.out))
  case pos =>
  have hp' : (decide (0 ≤ cr) && decide (cr ≤ n / 2 - 1)) = true := by simpa using hp
  rw [hp'] at HR
  have HV := Go.Lib.hid (show usualR n cr = (usualI n cr, 0) by unfold usualR; rw [if_pos hh, if_pos hp])
  obtain ⟨p0, p1⟩ := hp
  clear hh hp'
  obtain ⟨m, rfl⟩ := Int.eq_ofNat_of_zero_le (show 0 ≤ n by omega)
  have p2 : cr ≤ 12 := by omega
  have R2 := Go.Lib.hid r2
  clear r2
  go_wp2_with fail
  refine (HF.out _).mono ?_
  rintro _ _ ⟨rfl, rfl⟩
  go_wp2_with fail
  refine (HR.out _).mono ?_
  rintro _ _ ⟨rfl, rfl⟩
  go_upto_region 5 with fail
  obtain ⟨i0, hi, hz0, hz1, hz2⟩ := info_parts infoI64
  obtain ⟨g, hg⟩ : ∃ g, wa.heap.size = g := ⟨_, rfl⟩
  have zg : s + 1 + 1 ≤ g := by omega
  clear za
  go_upto_region 6 with (at_make; refine wpList_make_full _ rfl _ _ 24 rfl g 2 i0 (.int .i64 0) 1 Try.underlying24 hi hz0 hz1 .i64 .i64 _ _ m rfl rfl rfl rfl (by rw [hz2]; omega) (by unfold maxLen; omega) (Nat.le_of_eq hg.symm) ?_; intro w2 hown hgr)
  refine wp_gen (R := fun W => W.heap.size = w2.heap.size + 1 ∧ Below s w W ∧ (Box W s [.int .i64 m] ∧ Box W (s + 1) [.int .i64 cr]) ∧ Row g w2.heap.size m (List.replicate m 0) W) ?_ ?_
  · have b2 : Below wa.heap.size wa w2 := (Below.refl _ _).grown hgr (Nat.le_refl _) (by simp)
    have hs2 := b2.size
    rw [hg, Nat.mul_one] at hown
    rw [show (madeCells (Value.int IntKind.i64 0).cells m).toList = List.replicate m (.int .i64 0) from toList_madeCells_one _ _] at hown
    exact ⟨by simp, (ba.trans (b2.mono (by omega))).alloc (by omega) _, ⟨(a0.below b2).alloc _, (a1.below b2).alloc _⟩, Row.start hown⟩
  have hs2 := hgr.size
  generalize w2.heap.size = q at *
  clear hown hgr hi hz0 hz1 hz2 ba a0 a1 c0 c1
  rintro wc ⟨zc, bc, ⟨a0, a1⟩, rw0⟩
  have hgq := rw0.gq
  have c0 := a0.at_ 0 _ rfl
  have c1 := a1.at_ 0 _ rfl
  go_wp2_with fail
  refine (implPlaces _ _).mono ?_
  rintro _ _ ⟨rfl, rfl⟩
  go_wp2_with fail
  refine wp_gen (R := fun W => W.heap.size = q + 1 + 1 ∧ Below s w W ∧ (Box W s [.int .i64 m] ∧ Box W (s + 1) [.int .i64 cr]) ∧ Row g q m (List.replicate m 0) W ∧ Box W (q + 1) [.int .i64 m]) ?_ ?_
  · exact ⟨by simp [zc], bc.alloc (by omega) _, ⟨a0.alloc _, a1.alloc _⟩, (Row.lo (B := wc.heap.size) (by omega)) _ _ (fun k hk => ((Below.refl wc.heap.size wc).alloc (Nat.le_refl _) _).block k hk) rw0, Box.new zc.symm rfl⟩
  clear a0 a1 c0 c1 rw0 zc bc
  rintro wb ⟨zb, bb, ⟨b0, b1⟩, rw0, bN⟩
  refine (wpIn_wide (n := 4)).1 ?_
  refine wpIn_rangeFunc_ownG rfl (by omega) (gf := 66) (lb := #[.pointer (some ⟨q + 1, 0, none⟩)]) rfl trivial (enters_of Try.func66 (by kernel_rfl) rfl)
    (places_stops 3 (by omega) (q + 1) m (by omega) wb (by omega) (bN.at_ 0 _ rfl)) (fun _ _ => trivial) (fun _ _ _ _ _ _ _ _ => trivial) (Below.refl _ _) (fun _ => rfl)
    (fun pre W => Rnd wb.heap.size s w (fun W => (Box W s [.int .i64 m] ∧ Box W (s + 1) [.int .i64 cr]) ∧ Row g q m (setAll (fun k => k) (fun k => (if k % 2 = 1 then (k : Int) - cr else k + cr) % (m : Int)) (List.replicate m 0) (pre.map Fin.val)) W) W)
    (fun co pre W => False)
    (Rnd.own (by omega) fun pre => ((Lo.box (by omega) (by simp)).and (Lo.box (by omega) (by simp))).and (Row.lo (by omega)))
    (fun _ _ _ _ _ hs _ _ => hs)
    ⟨bb, by omega, ⟨b0, b1⟩, rw0⟩ ?a1 ?assign ?body ?done ?stop
  case assign =>
    intro l x W K hK
    gi_wp2
    exact hK
  case body =>
    rintro l pre x W ⟨hb, hs, ⟨e0, e1⟩, hrow⟩ hlt
    have d0 := e0.at_ 0 _ rfl
    have d1 := e1.at_ 0 _ rfl
    have hx := x.2
    obtain ⟨u, hu⟩ := hrow.cell hx
    have dv := hrow.var.at_ 0 _ rfl
    have fu := hrow.row.free x.1
    have hx2 : ((x.1 : Nat) : Int) < m := by omega
    have hk0 : (0 : Int) ≤ ((x.1 : Nat) : Int) := by omega
    have hm : m ≤ 24 := by omega
    have hne : ¬ m = 0 := by omega
    have hne2 : ¬ (m : Int) = 0 := by omega
    by_cases hpar : x.1 % 2 = 1
    case pos =>
      have hq : ((x.1 : Nat) : Int) % 2 = 1 := by omega
      have hqb : (((x.1 : Nat) : Int) % 2 == 1) = true := by rw [hq]; rfl
      have HX := Go.Lib.hid (show setAll (fun k => k) (fun k => (if k % 2 = 1 then (k : Int) - cr else k + cr) % (m : Int)) (List.replicate m 0) ((pre ++ [x]).map Fin.val) = (setAll (fun k => k) (fun k => (if k % 2 = 1 then (k : Int) - cr else k + cr) % (m : Int)) (List.replicate m 0) (pre.map Fin.val)).set x.1 ((((x.1 : Nat) : Int) - cr) % (m : Int)) by
        rw [List.map_append]; refine (setAll_snoc _ _ _ _ _).trans ?_; simp only [if_pos hpar]; try rfl)
      have hw1 : IntKind.i64.wrap (((x.1 : Nat) : Int) + -cr) = ((x.1 : Nat) : Int) + -cr := IntWalk.i64_in _ (by omega)
      have hw2 : IntKind.i64.wrap (((x.1 : Nat) : Int) + -cr + (m : Int)) = ((x.1 : Nat) : Int) + -cr + (m : Int) := IntWalk.i64_in _ (by omega)
      have ht : (((x.1 : Nat) : Int) + -cr + (m : Int)).tmod (m : Int) = ((((x.1 : Nat) : Int) - cr) % (m : Int)) := by
        rw [Int.tmod_eq_emod_of_nonneg (by omega), Int.add_emod_right, Int.sub_eq_add_neg]
      clear hpar
      gi_wp2_with fail
      refine wpIn_round_held (fun w' => w'.cell? ⟨s, 0, none⟩ = some (.int .i64 m) ∧ w'.cell? ⟨s + 1, 0, none⟩ = some (.int .i64 cr) ∧ w'.cell? ⟨q, 0, none⟩ = some (.slice (some ⟨g, 0, none⟩) m m)) (by kernel_rfl) (by kernel_rfl) (fun _ _ h => h) (by exact ⟨d0, d1, dv⟩) (fun hHeld => ?_)
      refine wpAnyH_take (i := 0) (v := ?vn0) rfl (by kernel_rfl) (by kernel_rfl) (by kernel_rfl) (fun _ _ _ h => h) (Or.inl ⟨by rfl, ?hyn0⟩) (by assumption) ?restn0
      case hyn0 => (intro w hSw; (try dsimp only at hSw); go_simp; try with_reducible rfl)
      try simp only [List.getElem_toArray, List.getElem_cons_succ, List.getElem_cons_zero, Act.put, List.setIfInBounds_toArray, List.set_cons_zero, List.set_cons_succ]
      refine wpAnyH_take (i := 1) (v := ?vn1) rfl (by kernel_rfl) (by kernel_rfl) (by kernel_rfl) (fun _ _ _ h => h) (Or.inl ⟨by rfl, ?hyn1⟩) (by assumption) ?restn1
      case hyn1 => (intro w hSw; (try dsimp only at hSw); go_simp; try with_reducible rfl)
      try simp only [List.getElem_toArray, List.getElem_cons_succ, List.getElem_cons_zero, Act.put, List.setIfInBounds_toArray, List.set_cons_zero, List.set_cons_succ]
      refine wpAnyH_take (i := 2) (v := ?vn2) rfl (by kernel_rfl) (by kernel_rfl) (by kernel_rfl) (fun _ _ _ h => h) (Or.inl ⟨by rfl, ?hyn2⟩) (by assumption) ?restn2
      case hyn2 => (intro w hSw; (try dsimp only at hSw); go_simp; try with_reducible rfl)
      try simp only [List.getElem_toArray, List.getElem_cons_succ, List.getElem_cons_zero, Act.put, List.setIfInBounds_toArray, List.set_cons_zero, List.set_cons_succ]
      refine wpAnyH_take (i := 3) (v := ?vn3) rfl (by kernel_rfl) (by kernel_rfl) (by kernel_rfl) (fun _ _ _ h => h) (Or.inl ⟨by rfl, ?hyn3⟩) (by assumption) ?restn3
      case hyn3 => (intro w hSw; (try dsimp only at hSw); go_simp; try with_reducible rfl)
      try simp only [List.getElem_toArray, List.getElem_cons_succ, List.getElem_cons_zero, Act.put, List.setIfInBounds_toArray, List.set_cons_zero, List.set_cons_succ]
      refine wpAnyH_take (i := 4) (v := ?vn4) rfl (by kernel_rfl) (by kernel_rfl) (by kernel_rfl) (fun _ _ _ h => h) (Or.inl ⟨by rfl, ?hyn4⟩) (by assumption) ?restn4
      case hyn4 => (intro w hSw; (try dsimp only at hSw); go_simp; try with_reducible rfl)
      try simp only [List.getElem_toArray, List.getElem_cons_succ, List.getElem_cons_zero, Act.put, List.setIfInBounds_toArray, List.set_cons_zero, List.set_cons_succ]
      refine wpAnyH_take (i := 5) (v := ?vn5) rfl (by kernel_rfl) (by kernel_rfl) (by kernel_rfl) (fun _ _ _ h => h) (Or.inl ⟨by rfl, ?hyn5⟩) (by assumption) ?restn5
      case hyn5 => (intro w hSw; (try dsimp only at hSw); go_simp; try with_reducible rfl)
      try simp only [List.getElem_toArray, List.getElem_cons_succ, List.getElem_cons_zero, Act.put, List.setIfInBounds_toArray, List.set_cons_zero, List.set_cons_succ]
      refine wpAnyH_take (i := 6) (v := ?vn6) rfl (by kernel_rfl) (by kernel_rfl) (by kernel_rfl) (fun _ _ _ h => h) (Or.inl ⟨by rfl, ?hyn6⟩) (by assumption) ?restn6
      case hyn6 => (intro w hSw; (try dsimp only at hSw); go_simp; try with_reducible rfl)
      try simp only [List.getElem_toArray, List.getElem_cons_succ, List.getElem_cons_zero, Act.put, List.setIfInBounds_toArray, List.set_cons_zero, List.set_cons_succ]
      refine wpAnyH_take (i := 7) (v := ?vn7) rfl (by kernel_rfl) (by kernel_rfl) (by kernel_rfl) (fun _ _ _ h => h) (Or.inl ⟨by rfl, ?hyn7⟩) (by assumption) ?restn7
      case hyn7 => (intro w hSw; (try dsimp only at hSw); go_simp; try with_reducible rfl)
      try simp only [List.getElem_toArray, List.getElem_cons_succ, List.getElem_cons_zero, Act.put, List.setIfInBounds_toArray, List.set_cons_zero, List.set_cons_succ]
      refine wpAnyH_take (i := 8) (v := ?vn8) rfl (by kernel_rfl) (by kernel_rfl) (by kernel_rfl) (fun _ _ _ h => h) (Or.inl ⟨by rfl, ?hyn8⟩) (by assumption) ?restn8
      case hyn8 => (intro w hSw; (try dsimp only at hSw); go_simp; try with_reducible rfl)
      try simp only [List.getElem_toArray, List.getElem_cons_succ, List.getElem_cons_zero, Act.put, List.setIfInBounds_toArray, List.set_cons_zero, List.set_cons_succ]
      refine wpAnyH_take (i := 9) (v := ?vn9) rfl (by kernel_rfl) (by kernel_rfl) (by kernel_rfl) (fun _ _ _ h => h) (Or.inl ⟨by rfl, ?hyn9⟩) (by assumption) ?restn9
      case hyn9 => (intro w hSw; (try dsimp only at hSw); go_simp; try with_reducible rfl)
      try simp only [List.getElem_toArray, List.getElem_cons_succ, List.getElem_cons_zero, Act.put, List.setIfInBounds_toArray, List.set_cons_zero, List.set_cons_succ]
      refine wpAnyH_ready (rs := [10]) (by kernel_rfl) (by simp) ?_
      refine AllReadyH.cons rfl (fun K hK => ?_) AllReadyH.nil
      go_simp
      refine hK.out _ _ ?_ (fun hHeld => ?_)
      · exact ⟨(cell_far (by omega)).trans d0, (cell_far (by omega)).trans d1, (cell_far (by omega)).trans dv⟩
      clear hK K
      try simp only [List.getElem_toArray, List.getElem_cons_succ, List.getElem_cons_zero, Act.put, List.setIfInBounds_toArray, List.set_cons_zero, List.set_cons_succ]
      refine wpAnyH_done (by kernel_rfl) ?_ _
      refine ⟨((KeepsOthers.setCell W ⟨g, x.1, none⟩ _).trans (KeepsOthers.drew _)).from _, trivial, Rnd.drew (Rnd.set (J := fun _ => True) (J' := fun _ => True) ⟨hb, hs, trivial⟩ (by omega) _ trivial) ⟨⟨(e0.other (by simp; omega) _).drew, (e1.other (by simp; omega) _).drew⟩, ?_⟩⟩
      rw [HX.out]
      exact (hrow.set (k := x.1) _).drew
    case neg =>
      have hq : ((x.1 : Nat) : Int) % 2 = 0 := by omega
      have hqb : (((x.1 : Nat) : Int) % 2 == 1) = false := by rw [hq]; rfl
      have HX := Go.Lib.hid (show setAll (fun k => k) (fun k => (if k % 2 = 1 then (k : Int) - cr else k + cr) % (m : Int)) (List.replicate m 0) ((pre ++ [x]).map Fin.val) = (setAll (fun k => k) (fun k => (if k % 2 = 1 then (k : Int) - cr else k + cr) % (m : Int)) (List.replicate m 0) (pre.map Fin.val)).set x.1 ((((x.1 : Nat) : Int) + cr) % (m : Int)) by
        rw [List.map_append]; refine (setAll_snoc _ _ _ _ _).trans ?_; simp only [if_neg hpar]; try rfl)
      have hw1 : IntKind.i64.wrap (((x.1 : Nat) : Int) + cr) = ((x.1 : Nat) : Int) + cr := IntWalk.i64_in _ (by omega)
      have hw2 : IntKind.i64.wrap (((x.1 : Nat) : Int) + cr + (m : Int)) = ((x.1 : Nat) : Int) + cr + (m : Int) := IntWalk.i64_in _ (by omega)
      have ht : (((x.1 : Nat) : Int) + cr + (m : Int)).tmod (m : Int) = ((((x.1 : Nat) : Int) + cr) % (m : Int)) := by
        rw [Int.tmod_eq_emod_of_nonneg (by omega), Int.add_emod_right]
      clear hpar
      gi_wp2_with fail
      refine wpIn_round_held (fun w' => w'.cell? ⟨s, 0, none⟩ = some (.int .i64 m) ∧ w'.cell? ⟨s + 1, 0, none⟩ = some (.int .i64 cr) ∧ w'.cell? ⟨q, 0, none⟩ = some (.slice (some ⟨g, 0, none⟩) m m)) (by kernel_rfl) (by kernel_rfl) (fun _ _ h => h) (by exact ⟨d0, d1, dv⟩) (fun hHeld => ?_)
      refine wpAnyH_take (i := 0) (v := ?vp0) rfl (by kernel_rfl) (by kernel_rfl) (by kernel_rfl) (fun _ _ _ h => h) (Or.inl ⟨by rfl, ?hyp0⟩) (by assumption) ?restp0
      case hyp0 => (intro w hSw; (try dsimp only at hSw); go_simp; try with_reducible rfl)
      try simp only [List.getElem_toArray, List.getElem_cons_succ, List.getElem_cons_zero, Act.put, List.setIfInBounds_toArray, List.set_cons_zero, List.set_cons_succ]
      refine wpAnyH_take (i := 1) (v := ?vp1) rfl (by kernel_rfl) (by kernel_rfl) (by kernel_rfl) (fun _ _ _ h => h) (Or.inl ⟨by rfl, ?hyp1⟩) (by assumption) ?restp1
      case hyp1 => (intro w hSw; (try dsimp only at hSw); go_simp; try with_reducible rfl)
      try simp only [List.getElem_toArray, List.getElem_cons_succ, List.getElem_cons_zero, Act.put, List.setIfInBounds_toArray, List.set_cons_zero, List.set_cons_succ]
      refine wpAnyH_take (i := 2) (v := ?vp2) rfl (by kernel_rfl) (by kernel_rfl) (by kernel_rfl) (fun _ _ _ h => h) (Or.inl ⟨by rfl, ?hyp2⟩) (by assumption) ?restp2
      case hyp2 => (intro w hSw; (try dsimp only at hSw); go_simp; try with_reducible rfl)
      try simp only [List.getElem_toArray, List.getElem_cons_succ, List.getElem_cons_zero, Act.put, List.setIfInBounds_toArray, List.set_cons_zero, List.set_cons_succ]
      refine wpAnyH_take (i := 3) (v := ?vp3) rfl (by kernel_rfl) (by kernel_rfl) (by kernel_rfl) (fun _ _ _ h => h) (Or.inl ⟨by rfl, ?hyp3⟩) (by assumption) ?restp3
      case hyp3 => (intro w hSw; (try dsimp only at hSw); go_simp; try with_reducible rfl)
      try simp only [List.getElem_toArray, List.getElem_cons_succ, List.getElem_cons_zero, Act.put, List.setIfInBounds_toArray, List.set_cons_zero, List.set_cons_succ]
      refine wpAnyH_take (i := 4) (v := ?vp4) rfl (by kernel_rfl) (by kernel_rfl) (by kernel_rfl) (fun _ _ _ h => h) (Or.inl ⟨by rfl, ?hyp4⟩) (by assumption) ?restp4
      case hyp4 => (intro w hSw; (try dsimp only at hSw); go_simp; try with_reducible rfl)
      try simp only [List.getElem_toArray, List.getElem_cons_succ, List.getElem_cons_zero, Act.put, List.setIfInBounds_toArray, List.set_cons_zero, List.set_cons_succ]
      refine wpAnyH_take (i := 5) (v := ?vp5) rfl (by kernel_rfl) (by kernel_rfl) (by kernel_rfl) (fun _ _ _ h => h) (Or.inl ⟨by rfl, ?hyp5⟩) (by assumption) ?restp5
      case hyp5 => (intro w hSw; (try dsimp only at hSw); go_simp; try with_reducible rfl)
      try simp only [List.getElem_toArray, List.getElem_cons_succ, List.getElem_cons_zero, Act.put, List.setIfInBounds_toArray, List.set_cons_zero, List.set_cons_succ]
      refine wpAnyH_take (i := 6) (v := ?vp6) rfl (by kernel_rfl) (by kernel_rfl) (by kernel_rfl) (fun _ _ _ h => h) (Or.inl ⟨by rfl, ?hyp6⟩) (by assumption) ?restp6
      case hyp6 => (intro w hSw; (try dsimp only at hSw); go_simp; try with_reducible rfl)
      try simp only [List.getElem_toArray, List.getElem_cons_succ, List.getElem_cons_zero, Act.put, List.setIfInBounds_toArray, List.set_cons_zero, List.set_cons_succ]
      refine wpAnyH_take (i := 7) (v := ?vp7) rfl (by kernel_rfl) (by kernel_rfl) (by kernel_rfl) (fun _ _ _ h => h) (Or.inl ⟨by rfl, ?hyp7⟩) (by assumption) ?restp7
      case hyp7 => (intro w hSw; (try dsimp only at hSw); go_simp; try with_reducible rfl)
      try simp only [List.getElem_toArray, List.getElem_cons_succ, List.getElem_cons_zero, Act.put, List.setIfInBounds_toArray, List.set_cons_zero, List.set_cons_succ]
      refine wpAnyH_take (i := 8) (v := ?vp8) rfl (by kernel_rfl) (by kernel_rfl) (by kernel_rfl) (fun _ _ _ h => h) (Or.inl ⟨by rfl, ?hyp8⟩) (by assumption) ?restp8
      case hyp8 => (intro w hSw; (try dsimp only at hSw); go_simp; try with_reducible rfl)
      try simp only [List.getElem_toArray, List.getElem_cons_succ, List.getElem_cons_zero, Act.put, List.setIfInBounds_toArray, List.set_cons_zero, List.set_cons_succ]
      refine wpAnyH_take (i := 9) (v := ?vp9) rfl (by kernel_rfl) (by kernel_rfl) (by kernel_rfl) (fun _ _ _ h => h) (Or.inl ⟨by rfl, ?hyp9⟩) (by assumption) ?restp9
      case hyp9 => (intro w hSw; (try dsimp only at hSw); go_simp; try with_reducible rfl)
      try simp only [List.getElem_toArray, List.getElem_cons_succ, List.getElem_cons_zero, Act.put, List.setIfInBounds_toArray, List.set_cons_zero, List.set_cons_succ]
      refine wpAnyH_ready (rs := [10]) (by kernel_rfl) (by simp) ?_
      refine AllReadyH.cons rfl (fun K hK => ?_) AllReadyH.nil
      go_simp
      refine hK.out _ _ ?_ (fun hHeld => ?_)
      · exact ⟨(cell_far (by omega)).trans d0, (cell_far (by omega)).trans d1, (cell_far (by omega)).trans dv⟩
      clear hK K
      try simp only [List.getElem_toArray, List.getElem_cons_succ, List.getElem_cons_zero, Act.put, List.setIfInBounds_toArray, List.set_cons_zero, List.set_cons_succ]
      refine wpAnyH_done (by kernel_rfl) ?_ _
      refine ⟨((KeepsOthers.setCell W ⟨g, x.1, none⟩ _).trans (KeepsOthers.drew _)).from _, trivial, Rnd.drew (Rnd.set (J := fun _ => True) (J' := fun _ => True) ⟨hb, hs, trivial⟩ (by omega) _ trivial) ⟨⟨(e0.other (by simp; omega) _).drew, (e1.other (by simp; omega) _).drew⟩, ?_⟩⟩
      rw [HX.out]
      exact (hrow.set (k := x.1) _).drew
  case done =>
    rintro D ys W hD hys ⟨hb, hs, -, hrow⟩ hK
    have hys' : ys.map Fin.val = List.range m := hys
    rw [hys'] at hrow
    have HF := Go.Lib.hid (show setAll (fun k => k) (fun k => (if k % 2 = 1 then (k : Int) - cr else k + cr) % (m : Int)) (List.replicate m 0) (List.range m) = usualI m cr from setAll_id _ _)
    have dv := hrow.var.at_ 0 _ rfl
    have HW := Go.Lib.hid hrow
    clear hrow hys hys'
    go_wp2_with fail
    have r2 : Rnd wb.heap.size s w (Row g q m (usualI m cr)) W := ⟨hb, hs, by rw [← HF.out]; exact HW.out⟩
    have r3 := r2.shut (by omega) (Row.lo (by omega)) hD hK (o' := .deferred none)
    exact leave1 hK (results_tmp2 rfl _ _ _) (GivesLN.row HV.out r3.j (by rw [HS.out]; omega) (by rw [HS.out]; exact r3.b))
  case stop =>
    rintro D co pre W hD _ hI hK
    exact hI.elim
end Go.Proofs.Ytlmbcidijbohiaa
