/- The program: MovesBetween. -/
import Derived.Test.YtlmbcidijbohiaaLacI4
import Derived.Maps.AppendAt
namespace Go.Proofs.Ytlmbcidijbohiaa
open Go.RowKit
attribute [local go_sem] Oper.semAt_some

def movesR (n : Int) (xs ys : List Int) : List Int × Int := if Lac n xs ∧ Lac n ys then (movesI xs ys (List.range xs.length), 0) else ([], 1)
theorem row_ow {w : World} {base k : Nat} {t : TypeId} {v : Value} {xs : List Value} (h : w.ownsRow base t 1 v k xs) : ∃ A cap, v = .slice A k cap ∧ Ow w base w.heap.size t A k cap xs := by
  rcases h.2 with ⟨rfl, h0⟩ | ⟨g, cap, cur, rfl, r⟩
  · subst h0
    exact ⟨none, 0, rfl, h, fun g hg => by simp [Value.ownBlock] at hg⟩
  · exact ⟨_, _, rfl, h, fun g' hg' => (h.lt g' hg').2⟩
set_option linter.unusedSimpArgs false
set_option linter.unusedVariables false
set_option maxRecDepth 100000 in
set_option maxHeartbeats 8000000 in
theorem implMoves (n : Int) (A : Option Addr) (c : Nat) (B : Option Addr) (d : Nat) (xs ys : List Int) (w : World) (lo hi lo2 hi2 : Nat) (h0 : Rd w lo hi A xs.length (ints xs)) (k0 : Rd w lo2 hi2 B ys.length (ints ys)) :
    Calls Try.prog 33 #[.int .i64 n, .slice A xs.length c, .slice B ys.length d] w (GivesLN (movesR n xs ys) w) := by
  have h := Go.Lib.hid h0.here
  have h2 := Go.Lib.hid k0.here
  clear h0 k0
  obtain ⟨s, hs0⟩ : ∃ s, w.heap.size = s := ⟨_, rfl⟩
  have HS := Go.Lib.hid hs0
  clear hs0
  refine (callsIn_wide (n := 5)).1 ?_
  refine callsIn_of_wp_marks Try.func33 rfl trivial ?_ rfl
  simp only [Try.ntmps33, List.size_toArray, List.length_cons, List.length_nil, Nat.reduceAdd, Nat.reduceSub, Array.replicate_succ, Array.replicate_zero, List.push_toArray, List.append_toArray, List.nil_append, List.cons_append]
  refine (wpIn_wide (n := 5)).2 ?_
  go_upto_region 1 with fail
  refine wp_gen (R := fun W => W.heap.size = s + 1 + 1 ∧ Below s w W ∧ Box W s [.slice A xs.length c] ∧ Box W (s + 1) [.slice B ys.length d]) ?_ ?_
  · have e := HS.out
    subst e
    refine ⟨by simp, ((Below.refl _ w).alloc (Nat.le_refl _) _).alloc (by simp) _, ?_, ?_⟩
    · exact (Box.new rfl rfl).alloc _
    · exact Box.new (by simp) rfl
  try rw [HS.out]
  rintro wa ⟨za, ba, a0, a1⟩
  have c0 := a0.at_ 0 _ rfl
  have c1 := a1.at_ 0 _ rfl
  have hrd := h.out.below (w' := wa) (by rw [HS.out]; exact ba) (Nat.le_refl _)
  have HI := Go.Lib.hid (implIsLacing n A c xs wa _ _ hrd)
  have HJ := Go.Lib.hid (fun (w0 : World) (lo hi : Nat) (h1 : Rd w0 lo hi B ys.length (ints ys)) => implIsLacing n B d ys w0 _ _ h1)
  clear hrd
  by_cases hL : Lac n xs
  case neg =>
    rw [decide_eq_false hL] at HI
    have HV := Go.Lib.hid (show movesR n xs ys = ([], 1) by simp [movesR, hL])
    clear hL
    go_wp2_with fail
    refine HI.out.mono ?_
    rintro _ w1 ⟨rfl, b1⟩
    have B1 := Go.Lib.hid (ba.trans (b1.mono (by omega)))
    clear b1 HI HJ
    go_wp2_with fail
    exact leave0 (results_tmp2 rfl _ _ _) (GivesLN.nil HV.out (by rw [HS.out]; exact B1.out))
  case pos =>
  rw [decide_eq_true hL] at HI
  by_cases hK : Lac n ys
  case neg =>
    rw [decide_eq_false hK] at HJ
    have HV := Go.Lib.hid (show movesR n xs ys = ([], 1) by simp [movesR, hK])
    clear hL hK
    go_wp2_with fail
    refine HI.out.mono ?_
    rintro _ w1 ⟨rfl, b1⟩
    have g1 := (a1.below b1).at_ 0 _ rfl
    have bb := ba.trans (b1.mono (by omega))
    have hrd := h2.out.below (w' := w1) (by rw [HS.out]; exact bb) (Nat.le_refl _)
    have HJ := Go.Lib.hid (HJ.out w1 _ _ hrd)
    have hz1 := b1.size
    clear b1 HI hrd c0 c1 a0 a1
    go_wp2_with fail
    refine HJ.out.mono ?_
    rintro _ w2 ⟨rfl, b2⟩
    have B1 := Go.Lib.hid (bb.trans (b2.mono (by omega)))
    clear b2 HJ g1
    go_wp2_with fail
    exact leave0 (results_tmp2 rfl _ _ _) (GivesLN.nil HV.out (by rw [HS.out]; exact B1.out))
  case pos =>
  rw [decide_eq_true hK] at HJ
  have HV := Go.Lib.hid (show movesR n xs ys = (movesI xs ys (List.range xs.length), 0) by simp [movesR, hL, hK])
  have hlen := hL.len
  have hlen2 : ys.length = xs.length := by have := hK.len; omega
  obtain ⟨r0, r1, -⟩ := hL.rim
  clear hL hK
  subst hlen
  go_wp2_with fail
  refine HI.out.mono ?_
  rintro _ w1 ⟨rfl, b1⟩
  have g0 := a0.below b1
  have g1 := a1.below b1
  have e1 := g1.at_ 0 _ rfl
  have bb := ba.trans (b1.mono (by omega))
  have hrd := h2.out.below (w' := w1) (by rw [HS.out]; exact bb) (Nat.le_refl _)
  have HJ := Go.Lib.hid (HJ.out w1 _ _ hrd)
  have hz1 := b1.size
  have HL2 := Go.Lib.hid hlen2
  clear b1 HI hrd c0 c1 a0 a1 ba hlen2
  go_wp2_with fail
  refine HJ.out.mono ?_
  rintro _ w2 ⟨rfl, b2⟩
  have a0 := g0.below b2
  have a1 := g1.below b2
  have ba := bb.trans (b2.mono (by omega))
  have hz2 := b2.size
  clear b2 HJ g0 g1 e1 bb
  obtain ⟨q, hq⟩ : ∃ q, w2.heap.size = q := ⟨_, rfl⟩
  have hsq : s + 1 + 1 ≤ q := by omega
  go_wp2_with fail
  refine (implPlaces _ _).mono ?_
  rintro _ _ ⟨rfl, rfl⟩
  go_wp2_with fail
  refine wp_gen (R := fun W => W.heap.size = q + 1 + 1 ∧ Below s w W ∧ (Box W s [.slice A xs.length c] ∧ Box W (s + 1) [.slice B ys.length d]) ∧ Boxed W q 24 (.slice none 0 0) ∧ Box W (q + 1) [.int .i64 xs.length]) ?_ ?_
  · refine ⟨by simp [hq], (ba.alloc (by omega) _).alloc (by simp; omega) _, ⟨(a0.alloc _).alloc _, (a1.alloc _).alloc _⟩, ?_, Box.new (by simp [hq]) rfl⟩
    have := (Boxed.new w2 24 (.slice none 0 0)).alloc (.cells #[.int .i64 xs.length] 2)
    rwa [hq] at this
  try rw [hq]
  clear a0 a1 ba
  rintro wb ⟨zb, bb, ⟨b0, b1⟩, bQ, bN⟩
  obtain ⟨i0, hi, hz0, hz1', hz2'⟩ := info_parts infoI64
  refine (wpIn_wide (n := 4)).1 ?_
  refine wpIn_rangeFunc_ownG rfl (by omega) (gf := 66) (lb := #[.pointer (some ⟨q + 1, 0, none⟩)]) rfl trivial (enters_of Try.func66 (by kernel_rfl) rfl)
    (places_stops 3 (by omega) (q + 1) xs.length (by omega) wb (by omega) (bN.at_ 0 _ rfl)) (fun _ _ => trivial) (fun _ _ _ _ _ _ _ _ => trivial) (Below.refl _ _) (fun _ => rfl)
    (fun pre W => (∃ v, Boxed W q 24 v ∧ W.ownsRow q 2 1 v (movesI xs ys (pre.map Fin.val)).length (ints (movesI xs ys (pre.map Fin.val))) ∧ True) ∧ Rnd wb.heap.size s w (fun W => Box W s [.slice A xs.length c] ∧ Box W (s + 1) [.slice B ys.length d]) W)
    (fun co pre W => False)
    (OwnFrom.and (Own.from (holdsRow_own q q 24 2 1 (fun (pre : List (Fin xs.length)) => (movesI xs ys (pre.map Fin.val)).length) (fun (pre : List (Fin xs.length)) => ints (movesI xs ys (pre.map Fin.val))) (fun _ _ => True)) _) (Rnd.own (by omega) fun pre => (Lo.box (by omega) (by simp)).and (Lo.box (by omega) (by simp))))
    (fun _ _ _ _ _ hs _ _ => hs)
    ⟨⟨_, bQ, World.ownsRow_nil _ _ _ _, trivial⟩, bb, Nat.le_refl _, b0, b1⟩ ?a1 ?assign ?body ?done ?stop
  case assign =>
    intro l x W K hK
    gi_wp2
    exact hK
  case body =>
    rintro l pre x W ⟨⟨v, hv, hrow, -⟩, hb, hs, e0, e1⟩ hlt
    have d0 := e0.at_ 0 _ rfl
    have d1 := e1.at_ 0 _ rfl
    have hx := x.2
    have hrd := h.out.below (w' := W) (by rw [HS.out]; exact hb) (Nat.le_refl _)
    have hrd2 := h2.out.below (w' := W) (by rw [HS.out]; exact hb) (Nat.le_refl _)
    obtain ⟨b, o, rfl, -, hbs, hc⟩ := hrd.at_ hx
    obtain ⟨b', o', rfl, -, hbs', hc'⟩ := hrd2.at_ (show x.1 < ys.length by rw [HL2.out]; exact hx)
    have hcx := hc x.1 _ (ints_at xs x.1 hx)
    have hcy := hc' x.1 _ (ints_at ys x.1 (by rw [HL2.out]; exact hx))
    clear hc hrd hc' hrd2
    have hx2 : ((x.1 : Nat) : Int) < xs.length := by omega
    have hx3 : ((x.1 : Nat) : Int) < ys.length := by rw [HL2.out]; omega
    have hk0 : (0 : Int) ≤ ((x.1 : Nat) : Int) := by omega
    have hcell := hv.cell
    have hml : (movesI xs ys (pre.map Fin.val)).length ≤ pre.length := by have := movesI_len xs ys (pre.map Fin.val); simpa using this
    have hm : xs.length ≤ 24 := by omega
    have HX := Go.Lib.hid (show movesI xs ys ((pre ++ [x]).map Fin.val) = movesI xs ys (pre.map Fin.val) ++ if xs.getD x.1 0 ≠ ys.getD x.1 0 then [((x.1 : Nat) : Int)] else [] by rw [List.map_append]; exact movesI_snoc _ _ _ _)
    generalize movesI xs ys (pre.map Fin.val) = ms at *
    generalize xs.getD x.1 0 = X at *
    generalize ys.getD x.1 0 = Y at *
    gi_wp2_with fail
    refine wpIn_round_held (fun w' => w'.cell? ⟨s, 0, none⟩ = some (.slice (some ⟨b, o, none⟩) xs.length c) ∧ w'.cell? ⟨s + 1, 0, none⟩ = some (.slice (some ⟨b', o', none⟩) ys.length d) ∧ w'.cell? ⟨b, o + x.1, none⟩ = some (.int .i64 X) ∧ w'.cell? ⟨b', o' + x.1, none⟩ = some (.int .i64 Y)) (by kernel_rfl) (by kernel_rfl) (fun _ _ h => h) (by exact ⟨d0, d1, hcx, hcy⟩) (fun hHeld => ?_)
    refine wpAnyH_take (i := 0) (v := ?v0) rfl (by kernel_rfl) (by kernel_rfl) (by kernel_rfl) (fun _ _ _ h => h) (Or.inl ⟨by rfl, ?hy0⟩) (by assumption) ?rest0
    case hy0 => (intro w hSw; (try dsimp only at hSw); go_simp; try with_reducible rfl)
    try simp only [List.getElem_toArray, List.getElem_cons_succ, List.getElem_cons_zero, Act.put, List.setIfInBounds_toArray, List.set_cons_zero, List.set_cons_succ]
    refine wpAnyH_take (i := 1) (v := ?v1) rfl (by kernel_rfl) (by kernel_rfl) (by kernel_rfl) (fun _ _ _ h => h) (Or.inl ⟨by rfl, ?hy1⟩) (by assumption) ?rest1
    case hy1 => (intro w hSw; (try dsimp only at hSw); go_simp; try with_reducible rfl)
    try simp only [List.getElem_toArray, List.getElem_cons_succ, List.getElem_cons_zero, Act.put, List.setIfInBounds_toArray, List.set_cons_zero, List.set_cons_succ]
    refine wpAnyH_take (i := 2) (v := ?v2) rfl (by kernel_rfl) (by kernel_rfl) (by kernel_rfl) (fun _ _ _ h => h) (Or.inl ⟨by rfl, ?hy2⟩) (by assumption) ?rest2
    case hy2 => (intro w hSw; (try dsimp only at hSw); go_simp; try with_reducible rfl)
    try simp only [List.getElem_toArray, List.getElem_cons_succ, List.getElem_cons_zero, Act.put, List.setIfInBounds_toArray, List.set_cons_zero, List.set_cons_succ]
    refine wpAnyH_take (i := 3) (v := ?v3) rfl (by kernel_rfl) (by kernel_rfl) (by kernel_rfl) (fun _ _ _ h => h) (Or.inl ⟨by rfl, ?hy3⟩) (by assumption) ?rest3
    case hy3 => (intro w hSw; (try dsimp only at hSw); go_simp; try with_reducible rfl)
    try simp only [List.getElem_toArray, List.getElem_cons_succ, List.getElem_cons_zero, Act.put, List.setIfInBounds_toArray, List.set_cons_zero, List.set_cons_succ]
    refine wpAnyH_take (i := 4) (v := ?v4) rfl (by kernel_rfl) (by kernel_rfl) (by kernel_rfl) (fun _ _ _ h => h) (Or.inl ⟨by rfl, ?hy4⟩) (by assumption) ?rest4
    case hy4 => (intro w hSw; (try dsimp only at hSw); go_simp; try with_reducible rfl)
    try simp only [List.getElem_toArray, List.getElem_cons_succ, List.getElem_cons_zero, Act.put, List.setIfInBounds_toArray, List.set_cons_zero, List.set_cons_succ]
    refine wpAnyH_take (i := 5) (v := ?v5) rfl (by kernel_rfl) (by kernel_rfl) (by kernel_rfl) (fun _ _ _ h => h) (Or.inl ⟨by rfl, ?hy5⟩) (by assumption) ?rest5
    case hy5 => (intro w hSw; (try dsimp only at hSw); go_simp; try with_reducible rfl)
    try simp only [List.getElem_toArray, List.getElem_cons_succ, List.getElem_cons_zero, Act.put, List.setIfInBounds_toArray, List.set_cons_zero, List.set_cons_succ]
    refine wpAnyH_take (i := 6) (v := ?v6) rfl (by kernel_rfl) (by kernel_rfl) (by kernel_rfl) (fun _ _ _ h => h) (Or.inl ⟨by rfl, ?hy6⟩) (by assumption) ?rest6
    case hy6 => (intro w hSw; (try dsimp only at hSw); go_simp; try with_reducible rfl)
    try simp only [List.getElem_toArray, List.getElem_cons_succ, List.getElem_cons_zero, Act.put, List.setIfInBounds_toArray, List.set_cons_zero, List.set_cons_succ]
    refine wpAnyH_take (i := 7) (v := ?v7) rfl (by kernel_rfl) (by kernel_rfl) (by kernel_rfl) (fun _ _ _ h => h) (Or.inl ⟨by rfl, ?hy7⟩) (by assumption) ?rest7
    case hy7 => (intro w hSw; (try dsimp only at hSw); go_simp; try with_reducible rfl)
    try simp only [List.getElem_toArray, List.getElem_cons_succ, List.getElem_cons_zero, Act.put, List.setIfInBounds_toArray, List.set_cons_zero, List.set_cons_succ]
    refine wpAnyH_take (i := 8) (v := ?v8) rfl (by kernel_rfl) (by kernel_rfl) (by kernel_rfl) (fun _ _ _ h => h) (Or.inl ⟨by rfl, ?hy8⟩) (by assumption) ?rest8
    case hy8 => (intro w hSw; (try dsimp only at hSw); go_simp; try with_reducible rfl)
    try simp only [List.getElem_toArray, List.getElem_cons_succ, List.getElem_cons_zero, Act.put, List.setIfInBounds_toArray, List.set_cons_zero, List.set_cons_succ]
    refine wpAnyH_done (by kernel_rfl) ?_ _
    have hb1 := below_drewN hb 1
    have hv1 : Boxed W.drew q 24 v := hv
    have hrow1 : W.drew.ownsRow q 2 1 v ms.length (ints ms) := hrow
    have hcell1 := hv1.cell
    have hsd : q ≤ W.drew.heap.size := Nat.le_trans (by omega) hs
    by_cases hXY : X = Y
    case pos =>
      have hxb : (X != Y) = false := by simp [hXY]
      rw [if_neg (fun e => e hXY), List.append_nil] at HX
      clear hXY
      gi_wp2_with fail
      refine ⟨(KeepsOthers.drew _).from _, trivial, ⟨v, hv1, ?_, trivial⟩, hb1, hs, e0.drew, e1.drew⟩
      rw [HX.out]; exact hrow1
    case neg =>
      have hxb : (X != Y) = true := by simpa using hXY
      rw [if_pos hXY] at HX
      have HK := Go.Lib.hid (fun (W' : World) (hbk : Below q W.drew W') => (⟨Lo.box (B := q) (by omega) (by simp) _ _ (fun k hk => hbk.block k hk) e0.drew, Lo.box (B := q) (by omega) (by simp) _ _ (fun k hk => hbk.block k hk) e1.drew⟩ : Box W' s [.slice (some ⟨b, o, none⟩) xs.length c] ∧ Box W' (s + 1) [.slice (some ⟨b', o', none⟩) ys.length d]))
      clear hXY hv hrow hcell d0 d1 e0 e1 hHeld hcx hcy
      gi_wp2_with (gi_at_builtin; refine wpListIn_append_own _ rfl _ _ 24 rfl q 2 i0 (.int .i64 0) 1 8 Try.underlying24 hi hz0 hz1' hz2' rfl (by decide) _ _ _ rfl (hrow1.alloc _) ⟨W.drew.heap.size, 0, none⟩ 1 1 [.int .i64 x.1] rfl rfl (cell_one_new _ _ _) (by simp [Value.oneCell']) (by unfold maxLen; omega) (by omega) (by simp; omega) ?_; intro v' w3 hown' hgrow _; obtain ⟨g', cap', rfl⟩ := ownsRow_succ hown'; obtain ⟨hv3, hv4, hr4, hk4, hb4⟩ := hv1.appended (by decide) hrow1 hsd (Nat.le_refl _) hown' hgrow; have hc3 := hv3.cell; have hf3 := hv3.frozen)
      refine ⟨((KeepsOthers.drew W).trans hk4).from _, trivial, ⟨_, hv4, ?_, trivial⟩, hb1.trans (hb4.mono (by omega)), Nat.le_trans hs hb4.size, HK.out _ hb4⟩
      rw [HX.out]
      have e1 : ints (ms ++ [((x.1 : Nat) : Int)]) = ints ms ++ [.int .i64 x.1] := by simp [ints]
      rw [e1, List.length_append]
      exact hr4
  case done =>
    rintro D zs W hD hys ⟨⟨v, hv, hrow, -⟩, hb, hs, e0, e1⟩ hK
    have hys' : zs.map Fin.val = List.range xs.length := hys
    rw [hys'] at hrow
    have hcell := hv.cell
    obtain ⟨A', cap', rfl, ho⟩ := row_ow hrow
    have HO := Go.Lib.hid (ownsRow_putObj hrow (.deferred none) hK rfl)
    have HB := Go.Lib.hid (show Below s w (W.putObj D (.deferred none)) from (Rnd.shut (J := fun _ => True) ⟨hb, hs, trivial⟩ (by omega) Lo.pure hD hK).b)
    clear hrow ho hys hys'
    go_wp2_with fail
    refine leave1 hK (results_tmp2 rfl _ _ _) ?_
    rw [HV.out]
    obtain ⟨A2, c2, e2, h2⟩ := row_ow HO.out
    cases e2
    exact ⟨_, _, rfl, h2.lower (by rw [HS.out]; omega), by rw [HS.out]; exact HB.out⟩
  case stop =>
    rintro D co pre W hD _ hI hK
    exact hI.elim
end Go.Proofs.Ytlmbcidijbohiaa
