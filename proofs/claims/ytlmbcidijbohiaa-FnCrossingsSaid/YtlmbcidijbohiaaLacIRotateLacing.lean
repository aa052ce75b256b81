/- The program: RotateLacing. -/
import Derived.Test.YtlmbcidijbohiaaLacI4
namespace Go.Proofs.Ytlmbcidijbohiaa
open Go.RowKit
attribute [local go_sem] Oper.semAt_some

set_option linter.unusedSimpArgs false
set_option linter.unusedVariables false
set_option maxRecDepth 100000 in
set_option maxHeartbeats 8000000 in
theorem implRotateLacing (n : Int) (A : Option Addr) (c : Nat) (zs : List Int) (r : Int) (w : World) (lo hi : Nat) (h0 : Rd w lo hi A zs.length (ints zs)) :
    Calls Try.prog 39 #[.int .i64 n, .slice A zs.length c, .int .i64 r] w (GivesLN (rotR n r zs) w) := by
  have h := Go.Lib.hid h0.here
  clear h0
  obtain ⟨s, hs0⟩ : ∃ s, w.heap.size = s := ⟨_, rfl⟩
  have HS := Go.Lib.hid hs0
  clear hs0
  have HI := Go.Lib.hid (fun (w0 : World) (lo hi : Nat) (h1 : Rd w0 lo hi A zs.length (ints zs)) => implIsLacing n A c zs w0 _ _ h1)
  refine (callsIn_wide (n := 5)).1 ?_
  refine callsIn_of_wp_marks Try.func39 rfl trivial ?_ rfl
  simp only [Try.ntmps39, List.size_toArray, List.length_cons, List.length_nil, Nat.reduceAdd, Nat.reduceSub, Array.replicate_succ, Array.replicate_zero, List.push_toArray, List.append_toArray, List.nil_append, List.cons_append]
  refine (wpIn_wide (n := 5)).2 ?_
  go_upto_region 1 with fail
  refine wp_gen (R := fun W => W.heap.size = s + 1 + 1 + 1 ∧ Below s w W ∧ Box W (s) [.int .i64 n] ∧ Box W (s + 1) [.slice A zs.length c] ∧ Box W (s + 1 + 1) [.int .i64 r]) ?_ ?_
  · have e := HS.out
    subst e
    refine ⟨by simp, (((Below.refl _ w).alloc (Nat.le_refl _) _).alloc (by simp) _).alloc (by simp; omega) _, ?_, ?_, ?_⟩
    · exact ((Box.new rfl rfl).alloc _).alloc _
    · exact (Box.new (by simp) rfl).alloc _
    · exact Box.new (by simp) rfl
  try rw [HS.out]
  rintro wa ⟨za, ba, a0, a1, a2⟩
  have c0 := a0.at_ 0 _ rfl
  have c1 := a1.at_ 0 _ rfl
  have c2 := a2.at_ 0 _ rfl
  have hrd := Go.Lib.hid (h.out.below (w' := wa) (by rw [HS.out]; exact ba) (Nat.le_refl _))
  have HI := Go.Lib.hid (HI.out wa _ _ hrd.out)
  by_cases hL : Lac n zs
  case neg =>
    rw [decide_eq_false hL] at HI
    have HV := Go.Lib.hid (show rotR n r zs = ([], 1) by simp [rotR, hL])
    clear hL
    go_wp2_with fail
    refine HI.out.mono ?_
    rintro _ w1 ⟨rfl, b1⟩
    have B1 := Go.Lib.hid (ba.trans (b1.mono (by omega)))
    clear b1 HI
    go_wp2_with fail
    exact leave0 (results_tmp2 rfl _ _ _) (GivesLN.nil HV.out (by rw [HS.out]; exact B1.out))
  case pos =>
  rw [decide_eq_true hL] at HI
  have hlen := hL.len
  obtain ⟨r0, r1, -⟩ := hL.rim
  have HL := Go.Lib.hid hL
  have HR := Go.Lib.hid (fun w0 => implInR r 0 (n - 1) w0)
  by_cases hp : placeB n r = true
  case neg =>
    have hp' : (decide (0 ≤ r) && decide (r ≤ n - 1)) = false := by simpa [placeB] using hp
    rw [hp'] at HR
    have HV := Go.Lib.hid (show rotR n r zs = ([], 2) by simp [rotR, hL, hp])
    clear hL hp hp'
    go_wp2_with fail
    refine HI.out.mono ?_
    rintro _ w1 ⟨rfl, b1⟩
    have B1 := Go.Lib.hid (ba.trans (b1.mono (by omega)))
    have g0 := (a0.below b1).at_ 0 _ rfl
    have g1 := (a1.below b1).at_ 0 _ rfl
    have g2 := (a2.below b1).at_ 0 _ rfl
    clear b1 HI
    go_wp2_with fail
    refine (HR.out _).mono ?_
    rintro _ _ ⟨rfl, rfl⟩
    go_wp2_with fail
    exact leave0 (results_tmp2 rfl _ _ _) (GivesLN.nil HV.out (by rw [HS.out]; exact B1.out))
  case pos =>
  have hp' : (decide (0 ≤ r) && decide (r ≤ n - 1)) = true := by simpa [placeB] using hp
  rw [hp'] at HR
  obtain ⟨p0, p1⟩ := placeB_iff.1 hp
  have HV := Go.Lib.hid (show rotR n r zs = (rotI n r zs, 0) by simp [rotR, hL, hp])
  clear hL hp hp'
  subst hlen
  go_wp2_with fail
  refine HI.out.mono ?_
  rintro _ w1 ⟨rfl, b1⟩
  have g0 := a0.below b1
  have e0 := g0.at_ 0 _ rfl
  have g1 := a1.below b1
  have e1 := g1.at_ 0 _ rfl
  have g2 := a2.below b1
  have e2 := g2.at_ 0 _ rfl
  have bb := ba.trans (b1.mono (by omega))
  have hsz := b1.size
  clear b1 HI hrd a0 c0 a1 c1 a2 c2
  go_wp2_with fail
  refine (HR.out _).mono ?_
  rintro _ _ ⟨rfl, rfl⟩
  go_upto_region 5 with fail
  obtain ⟨i0, hi, hz0, hz1, hz2⟩ := info_parts infoI64
  obtain ⟨g, hg⟩ : ∃ g, w1.heap.size = g := ⟨_, rfl⟩
  go_upto_region 6 with (at_make; refine wpList_make_full _ rfl _ _ 24 rfl g 2 i0 (.int .i64 0) 1 Try.underlying24 hi hz0 hz1 .i64 .i64 _ _ zs.length rfl rfl rfl rfl (by rw [hz2]; omega) (by unfold maxLen; omega) (Nat.le_of_eq hg.symm) ?_; intro w2 hown hgr)
  refine wp_gen (R := fun W => W.heap.size = w2.heap.size + 1 ∧ Below s w W ∧ Box W (s) [.int .i64 zs.length] ∧ Box W (s + 1) [.slice A zs.length c] ∧ Box W (s + 1 + 1) [.int .i64 r] ∧ Row g w2.heap.size zs.length (List.replicate zs.length 0) W) ?_ ?_
  · have b2 : Below w1.heap.size w1 w2 := (Below.refl _ _).grown hgr (Nat.le_refl _) (by simp)
    have hs2 := b2.size
    rw [hg, Nat.mul_one] at hown
    have hown := hown
    rw [show (madeCells (Value.int IntKind.i64 0).cells zs.length).toList = List.replicate zs.length (.int .i64 0) from toList_madeCells_one _ _] at hown
    exact ⟨by simp, (bb.trans (b2.mono (by omega))).alloc (by omega) _, (g0.below b2).alloc _, (g1.below b2).alloc _, (g2.below b2).alloc _, Row.start hown⟩
  have hs2 := hgr.size
  generalize w2.heap.size = q at *
  clear hown hgr hi hz0 hz1 hz2 g0 e0 g1 e1 g2 e2 bb
  rintro wc ⟨zc, bc, a0, a1, a2, rw0⟩
  have hgq := rw0.gq
  have c0 := a0.at_ 0 _ rfl
  have c1 := a1.at_ 0 _ rfl
  have c2 := a2.at_ 0 _ rfl
  go_wp2_with fail
  refine (implPlaces _ _).mono ?_
  rintro _ _ ⟨rfl, rfl⟩
  go_wp2_with fail
  refine wp_gen (R := fun W => W.heap.size = q + 1 + 1 ∧ Below s w W ∧ Box W (s) [.int .i64 zs.length] ∧ Box W (s + 1) [.slice A zs.length c] ∧ Box W (s + 1 + 1) [.int .i64 r] ∧ Row g q zs.length (List.replicate zs.length 0) W ∧ Box W (q + 1) [.int .i64 zs.length]) ?_ ?_
  · exact ⟨by simp [zc], bc.alloc (by omega) _, a0.alloc _, a1.alloc _, a2.alloc _, (Row.lo (B := wc.heap.size) (by omega)) _ _ (fun k hk => ((Below.refl wc.heap.size wc).alloc (Nat.le_refl _) _).block k hk) rw0, Box.new zc.symm rfl⟩
  clear a0 a1 a2 c0 c1 c2 rw0 zc bc
  rintro wb ⟨zb, bb, b0, b1, b2, rw0, bN⟩
  refine (wpIn_wide (n := 4)).1 ?_
  refine wpIn_rangeFunc_ownG rfl (by omega) (gf := 66) (lb := #[.pointer (some ⟨q + 1, 0, none⟩)]) rfl trivial (enters_of Try.func66 (by kernel_rfl) rfl)
    (places_stops 3 (by omega) (q + 1) zs.length (by omega) wb (by omega) (bN.at_ 0 _ rfl)) (fun _ _ => trivial) (fun _ _ _ _ _ _ _ _ => trivial) (Below.refl _ _) (fun _ => rfl)
    (fun pre W => Rnd wb.heap.size s w (fun W => (Box W (s) [.int .i64 zs.length] ∧ Box W (s + 1) [.slice A zs.length c] ∧ Box W (s + 1 + 1) [.int .i64 r]) ∧ Row g q zs.length (setAll (fun k => k) (fun k => (zs.getD k 0 + r) % (zs.length : Int)) (List.replicate zs.length 0) (pre.map Fin.val)) W) W)
    (fun co pre W => False)
    (Rnd.own (by omega) fun pre => ((Lo.box (by omega) (by simp)).and ((Lo.box (by omega) (by simp)).and (Lo.box (by omega) (by simp)))).and (Row.lo (by omega)))
    (fun _ _ _ _ _ hs _ _ => hs)
    ⟨bb, by omega, ⟨b0, b1, b2⟩, rw0⟩ ?a1 ?assign ?body ?done ?stop
  case assign =>
    intro l x W K hK
    gi_wp2
    exact hK
  case body =>
    rintro l pre x W ⟨hb, hs, ⟨e0, e1, e2⟩, hrow⟩ hlt
    have d0 := e0.at_ 0 _ rfl
    have d1 := e1.at_ 0 _ rfl
    have d2 := e2.at_ 0 _ rfl
    have hx := x.2
    have hrd := h.out.below (w' := W) (by rw [HS.out]; exact hb) (Nat.le_refl _)
    obtain ⟨b, o, rfl, -, hbs, hc⟩ := hrd.at_ hx
    rw [HS.out] at hbs
    have hcell := hc x.1 _ (ints_at zs x.1 hx)
    clear hc hrd
    have HX := Go.Lib.hid (show setAll (fun k => k) (fun k => (zs.getD k 0 + r) % (zs.length : Int)) (List.replicate zs.length 0) ((pre ++ [x]).map Fin.val) = (setAll (fun k => k) (fun k => (zs.getD k 0 + r) % (zs.length : Int)) (List.replicate zs.length 0) (pre.map Fin.val)).set (x.1) ((zs.getD x.1 0 + r) % (zs.length : Int)) by rw [List.map_append]; exact setAll_snoc _ _ _ _ _)
    have hz := HL.out.in0 hx
    generalize zs.getD x.1 0 = y at *
    obtain ⟨u, hu⟩ := hrow.cell (k := x.1) (by exact hx)
    have dv := hrow.var.at_ 0 _ rfl
    have fu := hrow.row.free (x.1)
    obtain ⟨z0, z1⟩ := hz
    have hx2 : ((x.1 : Nat) : Int) < zs.length := by omega
    have hk0 : (0 : Int) ≤ ((x.1 : Nat) : Int) := by omega
    have hm : zs.length ≤ 24 := by omega
    have hne : ¬ zs = [] := by rintro rfl; simp at r0
    have hwr : IntKind.i64.wrap (y + r) = y + r := IntWalk.i64_in _ (by omega)
    have htm : (y + r).tmod (zs.length : Int) = (y + r) % (zs.length : Int) := Int.tmod_eq_emod_of_nonneg (by omega)
    gi_wp2_with fail
    refine wpIn_round_held (fun w' => w'.cell? ⟨s, 0, none⟩ = some (.int .i64 zs.length) ∧ w'.cell? ⟨s + 1, 0, none⟩ = some (.slice (some ⟨b, o, none⟩) zs.length c) ∧ w'.cell? ⟨s + 1 + 1, 0, none⟩ = some (.int .i64 r) ∧ w'.cell? ⟨q, 0, none⟩ = some (.slice (some ⟨g, 0, none⟩) zs.length zs.length) ∧ w'.cell? ⟨b, o + x.1, none⟩ = some (.int .i64 y)) (by kernel_rfl) (by kernel_rfl) (fun _ _ h => h) (by (first | exact ⟨d0, d1, d2, dv, hcell⟩)) (fun hHeld => ?_)
    refine wpAnyH_take (i := 0) (v := ?v0) rfl (by kernel_rfl) (by kernel_rfl) (by kernel_rfl) (fun _ _ _ h => h) (Or.inl ⟨by rfl, ?hy0⟩) (by assumption) ?rest0
    case hy0 => (intro w hSw; (try dsimp only at hSw); go_simp; try with_reducible rfl)
    try simp only [List.getElem_toArray, List.getElem_cons_succ, List.getElem_cons_zero, Act.put, List.setIfInBounds_toArray, List.set_cons_zero, List.set_cons_succ]
    refine wpAnyH_take (i := 1) (v := ?v1) rfl (by kernel_rfl) (by kernel_rfl) (by kernel_rfl) (fun _ _ _ h => h) (Or.inl ⟨by rfl, ?hy1⟩) (by assumption) ?rest1
    case hy1 => (intro w hSw; (try dsimp only at hSw); go_simp; try with_reducible rfl)
    try simp only [List.getElem_toArray, List.getElem_cons_succ, List.getElem_cons_zero, Act.put, List.setIfInBounds_toArray, List.set_cons_zero, List.set_cons_succ]
    refine wpAnyH_take (i := 2) (v := ?v2) rfl (by kernel_rfl) (by kernel_rfl) (by kernel_rfl) (fun _ _ _ h => h) (Or.inl ⟨by rfl, ?hy2⟩) (by assumption) ?rest2
    case hy2 => (intro w hSw; (try dsimp only at hSw); go_simp; try with_reducible rfl)
    try simp only [List.getElem_toArray, List.getElem_cons_succ, List.getElem_cons_zero, Act.put, List.setIfInBounds_toArray, List.set_cons_zero, List.set_cons_succ]
    refine wpAnyH_take (i := 3) (v := ?v3) rfl (by kernel_rfl) (by kernel_rfl) (by kernel_rfl) (fun _ _ _ h => h) (Or.inl ⟨by rfl, ?hy3⟩) (by assumption) ?rest3
    case hy3 => (intro w hSw; (try dsimp only at hSw); go_simp; try with_reducible rfl)
    try simp only [List.getElem_toArray, List.getElem_cons_succ, List.getElem_cons_zero, Act.put, List.setIfInBounds_toArray, List.set_cons_zero, List.set_cons_succ]
    refine wpAnyH_take (i := 4) (v := ?v4) rfl (by kernel_rfl) (by kernel_rfl) (by kernel_rfl) (fun _ _ _ h => h) (Or.inl ⟨by rfl, ?hy4⟩) (by assumption) ?rest4
    case hy4 => (intro w hSw; (try dsimp only at hSw); go_simp; try with_reducible rfl)
    try simp only [List.getElem_toArray, List.getElem_cons_succ, List.getElem_cons_zero, Act.put, List.setIfInBounds_toArray, List.set_cons_zero, List.set_cons_succ]
    refine wpAnyH_take (i := 5) (v := ?v5) rfl (by kernel_rfl) (by kernel_rfl) (by kernel_rfl) (fun _ _ _ h => h) (Or.inl ⟨by rfl, ?hy5⟩) (by assumption) ?rest5
    case hy5 => (intro w hSw; (try dsimp only at hSw); go_simp; try with_reducible rfl)
    try simp only [List.getElem_toArray, List.getElem_cons_succ, List.getElem_cons_zero, Act.put, List.setIfInBounds_toArray, List.set_cons_zero, List.set_cons_succ]
    refine wpAnyH_take (i := 6) (v := ?v6) rfl (by kernel_rfl) (by kernel_rfl) (by kernel_rfl) (fun _ _ _ h => h) (Or.inl ⟨by rfl, ?hy6⟩) (by assumption) ?rest6
    case hy6 => (intro w hSw; (try dsimp only at hSw); go_simp; try with_reducible rfl)
    try simp only [List.getElem_toArray, List.getElem_cons_succ, List.getElem_cons_zero, Act.put, List.setIfInBounds_toArray, List.set_cons_zero, List.set_cons_succ]
    refine wpAnyH_take (i := 7) (v := ?v7) rfl (by kernel_rfl) (by kernel_rfl) (by kernel_rfl) (fun _ _ _ h => h) (Or.inl ⟨by rfl, ?hy7⟩) (by assumption) ?rest7
    case hy7 => (intro w hSw; (try dsimp only at hSw); go_simp; try with_reducible rfl)
    try simp only [List.getElem_toArray, List.getElem_cons_succ, List.getElem_cons_zero, Act.put, List.setIfInBounds_toArray, List.set_cons_zero, List.set_cons_succ]
    refine wpAnyH_take (i := 8) (v := ?v8) rfl (by kernel_rfl) (by kernel_rfl) (by kernel_rfl) (fun _ _ _ h => h) (Or.inl ⟨by rfl, ?hy8⟩) (by assumption) ?rest8
    case hy8 => (intro w hSw; (try dsimp only at hSw); go_simp; try with_reducible rfl)
    try simp only [List.getElem_toArray, List.getElem_cons_succ, List.getElem_cons_zero, Act.put, List.setIfInBounds_toArray, List.set_cons_zero, List.set_cons_succ]
    refine wpAnyH_take (i := 9) (v := ?v9) rfl (by kernel_rfl) (by kernel_rfl) (by kernel_rfl) (fun _ _ _ h => h) (Or.inl ⟨by rfl, ?hy9⟩) (by assumption) ?rest9
    case hy9 => (intro w hSw; (try dsimp only at hSw); go_simp; try with_reducible rfl)
    try simp only [List.getElem_toArray, List.getElem_cons_succ, List.getElem_cons_zero, Act.put, List.setIfInBounds_toArray, List.set_cons_zero, List.set_cons_succ]
    refine wpAnyH_take (i := 10) (v := ?v10) rfl (by kernel_rfl) (by kernel_rfl) (by kernel_rfl) (fun _ _ _ h => h) (Or.inl ⟨by rfl, ?hy10⟩) (by assumption) ?rest10
    case hy10 => (intro w hSw; (try dsimp only at hSw); go_simp; try with_reducible rfl)
    try simp only [List.getElem_toArray, List.getElem_cons_succ, List.getElem_cons_zero, Act.put, List.setIfInBounds_toArray, List.set_cons_zero, List.set_cons_succ]
    refine wpAnyH_ready (rs := [11]) (by kernel_rfl) (by simp) ?_
    refine AllReadyH.cons rfl (fun K hK => ?_) AllReadyH.nil
    go_simp
    refine hK.out _ _ ?_ (fun hHeld => ?_)
    · exact ⟨(cell_far (by omega)).trans d0, (cell_far (by omega)).trans d1, (cell_far (by omega)).trans d2, (cell_far (by omega)).trans dv, (cell_far (by omega)).trans hcell⟩
    clear hK K
    try simp only [List.getElem_toArray, List.getElem_cons_succ, List.getElem_cons_zero, Act.put, List.setIfInBounds_toArray, List.set_cons_zero, List.set_cons_succ]
    refine wpAnyH_done (by kernel_rfl) ?_ _
    refine ⟨((KeepsOthers.setCell W ⟨g, x.1, none⟩ _).trans (KeepsOthers.drew _)).from _, trivial, Rnd.drew (Rnd.set (J := fun _ => True) (J' := fun _ => True) ⟨hb, hs, trivial⟩ (by omega) _ trivial) ⟨⟨(e0.other (by simp; omega) _).drew, (e1.other (by simp; omega) _).drew, (e2.other (by simp; omega) _).drew⟩, ?_⟩⟩
    rw [HX.out]
    exact (hrow.set (k := x.1) _).drew
  case done =>
    rintro D ys W hD hys ⟨hb, hs, -, hrow⟩ hK
    have hys' : ys.map Fin.val = List.range zs.length := hys
    rw [hys'] at hrow
    have HF := Go.Lib.hid (show setAll (fun k => k) (fun k => (zs.getD k 0 + r) % (zs.length : Int)) (List.replicate zs.length 0) (List.range zs.length) = rotI zs.length r zs from by rw [rotI_eq]; exact setAll_id _ _)
    have dv := hrow.var.at_ 0 _ rfl
    have HW := Go.Lib.hid hrow
    clear hrow hys hys'
    go_wp2_with fail
    have r2 : Rnd wb.heap.size s w (Row g q zs.length (rotI zs.length r zs)) W := ⟨hb, hs, by rw [← HF.out]; exact HW.out⟩
    have r3 := r2.shut (by omega) (Row.lo (by omega)) hD hK (o' := .deferred none)
    exact leave1 hK (results_tmp2 rfl _ _ _) (GivesLN.row HV.out r3.j (by rw [HS.out]; omega) (by rw [HS.out]; exact r3.b))
  case stop =>
    rintro D co pre W hD _ hI hK
    exact hI.elim
end Go.Proofs.Ytlmbcidijbohiaa
