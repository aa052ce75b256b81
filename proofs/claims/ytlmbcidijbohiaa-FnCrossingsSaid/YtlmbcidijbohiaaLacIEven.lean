/- The program: CrossingsOf, EvenCrossings. -/
import Derived.Test.YtlmbcidijbohiaaLacI4
namespace Go.Proofs.Ytlmbcidijbohiaa
open Go.RowKit
attribute [local go_sem] Oper.semAt_some

/-- A call's answer: two numbers. -/
def Gives2 (p : Int × Int) (w : World) (e : Ending) (w' : World) : Prop := e = .returned (.tuple #[.int .i64 p.1, .int .i64 p.2]) ∧ Below w.heap.size w w'
theorem Gives2.of {p : Int × Int} {a b : Int} {w w' : World} (hp : p = (a, b)) (hb : Below w.heap.size w w') : Gives2 p w (.returned (.tuple #[.int .i64 a, .int .i64 b])) w' := by
  subst hp
  exact ⟨rfl, hb⟩
def crossR (n : Int) (zs : List Int) (p : Int) : Int × Int := if Lac n zs then if placeB n p then ((countAt n zs p.toNat : Nat), 0) else (0, 2) else (0, 1)
def sameB (n : Int) (zs : List Int) (k : Nat) : Bool := decide (countAt n zs k = countAt n zs 0)
def evenR (n : Int) (zs : List Int) : Int × Int := if Lac n zs then if (List.range zs.length).all (sameB n zs) then ((countAt n zs 0 : Nat), 0) else (0, 5) else (0, 1)
theorem countAt_le (n : Int) (zs : List Int) (k : Nat) : countAt n zs k ≤ zs.length := Nat.le_trans List.countP_le_length (by simp)
theorem KeepsOthers.of_below {W W' : World} (h : Below W.heap.size W W') : KeepsOthers W W' := ⟨h.size, fun k o hk _ => (h.block k (Array.getElem?_eq_some_iff.1 hk).1).trans hk⟩

set_option linter.unusedSimpArgs false
set_option linter.unusedVariables false
set_option maxRecDepth 100000 in
set_option maxHeartbeats 8000000 in
theorem implCrossings (n : Int) (A : Option Addr) (c : Nat) (zs : List Int) (p : Int) (w : World) (lo hi : Nat) (h0 : Rd w lo hi A zs.length (ints zs)) :
    Calls Try.prog 27 #[.int .i64 n, .slice A zs.length c, .int .i64 p] w (Gives2 (crossR n zs p) w) := by
  have h := Go.Lib.hid h0.here
  clear h0
  have HI := Go.Lib.hid (implIsLacing n A c zs w _ _ h.out)
  by_cases hL : Lac n zs
  case neg =>
    rw [decide_eq_false hL] at HI
    have HV := Go.Lib.hid (show crossR n zs p = (0, 1) by simp [crossR, hL])
    clear hL
    go_enter Try.func27, Try.ntmps27
    go_wp2_with fail
    refine HI.out.mono ?_
    rintro _ w1 ⟨rfl, b1⟩
    have B1 := Go.Lib.hid b1
    clear b1
    go_wp2_with fail
    go_ret2
    exact Gives2.of HV.out B1.out
  case pos =>
  rw [decide_eq_true hL] at HI
  obtain ⟨r0, r1, -⟩ := hL.rim
  have HP := Go.Lib.hid (fun w0 => implPlace n p w0 (by omega) (by omega))
  by_cases hp : placeB n p = true
  case neg =>
    have HV := Go.Lib.hid (show crossR n zs p = (0, 2) by simp [crossR, hL, hp])
    rw [Bool.not_eq_true] at hp
    rw [hp] at HP
    clear hL hp
    go_enter Try.func27, Try.ntmps27
    go_wp2_with fail
    refine HI.out.mono ?_
    rintro _ w1 ⟨rfl, b1⟩
    have B1 := Go.Lib.hid b1
    clear b1
    go_wp2_with fail
    refine (HP.out _).mono ?_
    rintro _ _ ⟨rfl, rfl⟩
    go_wp2_with fail
    go_ret2
    exact Gives2.of HV.out B1.out
  case pos =>
  have HV := Go.Lib.hid (show crossR n zs p = (((countAt n zs p.toNat : Nat) : Int), 0) by simp [crossR, hL, hp])
  have hp2 := placeB_iff.1 hp
  have hlen := hL.len
  rw [hp] at HP
  obtain ⟨k, rfl⟩ := Int.eq_ofNat_of_zero_le hp2.1
  rw [Int.toNat_natCast] at HV
  have HC := Go.Lib.hid (fun (w0 : World) (h1 : Rd w0 0 w0.heap.size A zs.length (ints zs)) => implCount n A c zs k w0 _ _ h1 hL (by omega))
  clear hL hp hp2 hlen
  go_enter Try.func27, Try.ntmps27
  go_wp2_with fail
  refine HI.out.mono ?_
  rintro _ w1 ⟨rfl, b1⟩
  have hrd := Go.Lib.hid ((h.out.below b1 (Nat.le_refl _)).mono (Nat.le_refl _) b1.size)
  have B1 := Go.Lib.hid b1
  clear b1
  go_wp2_with fail
  refine (HP.out _).mono ?_
  rintro _ _ ⟨rfl, rfl⟩
  go_wp2_with fail
  refine (HC.out _ hrd.out).mono ?_
  rintro _ w2 ⟨rfl, b2⟩
  have B2 := Go.Lib.hid (B1.out.trans (b2.mono B1.out.size))
  clear b2
  go_wp2_with fail
  go_ret2
  exact Gives2.of HV.out B2.out

set_option maxRecDepth 100000 in
set_option maxHeartbeats 8000000 in
theorem implEven (n : Int) (A : Option Addr) (c : Nat) (zs : List Int) (w : World) (lo hi : Nat) (h0 : Rd w lo hi A zs.length (ints zs)) :
    Calls Try.prog 30 #[.int .i64 n, .slice A zs.length c] w (Gives2 (evenR n zs) w) := by
  have h := Go.Lib.hid h0.here
  clear h0
  obtain ⟨s, hs0⟩ : ∃ s, w.heap.size = s := ⟨_, rfl⟩
  have HS := Go.Lib.hid hs0
  clear hs0
  refine (callsIn_wide (n := 5)).1 ?_
  refine callsIn_of_wp_marks Try.func30 rfl trivial ?_ rfl
  simp only [Try.ntmps30, List.size_toArray, List.length_cons, List.length_nil, Nat.reduceAdd, Nat.reduceSub, Array.replicate_succ, Array.replicate_zero, List.push_toArray, List.append_toArray, List.nil_append, List.cons_append]
  refine (wpIn_wide (n := 5)).2 ?_
  go_upto_region 1 with fail
  refine wp_gen (R := fun W => W.heap.size = s + 1 + 1 + 1 + 1 ∧ Below s w W ∧ Box W s [.int .i64 n] ∧ Box W (s + 1) [.slice A zs.length c] ∧ Box W (s + 1 + 1) [.int .i64 0] ∧ Box W (s + 1 + 1 + 1) [.int .i64 0]) ?_ ?_
  · have e := HS.out
    subst e
    refine ⟨by simp, (((((Below.refl _ w).alloc (Nat.le_refl _) _).alloc (by simp) _).alloc (by simp; omega) _).alloc (by simp; omega) _), ?_, ?_, ?_, ?_⟩
    · exact (((Box.new rfl rfl).alloc _).alloc _).alloc _
    · exact ((Box.new (by simp) rfl).alloc _).alloc _
    · exact (Box.new (by simp) rfl).alloc _
    · exact Box.new (by simp) rfl
  try rw [HS.out]
  rintro wa ⟨za, ba, a0, a1, a2, a3⟩
  have c0 := a0.at_ 0 _ rfl
  have c1 := a1.at_ 0 _ rfl
  have c2 := a2.at_ 0 _ rfl
  have c3 := a3.at_ 0 _ rfl
  have hrd := h.out.below (w' := wa) (by rw [HS.out]; exact ba) (Nat.le_refl _)
  have HI := Go.Lib.hid (implIsLacing n A c zs wa _ _ hrd)
  clear hrd
  by_cases hL : Lac n zs
  case neg =>
    rw [decide_eq_false hL] at HI
    have HV := Go.Lib.hid (show evenR n zs = (0, 1) by simp [evenR, hL])
    clear hL
    go_wp2_with fail
    refine HI.out.mono ?_
    rintro _ w1 ⟨rfl, b1⟩
    have g2 := a2.below b1
    have g3 := a3.below b1
    have k2 := g2.at_ 0 _ rfl
    have k3 := g3.at_ 0 _ rfl
    have f2 := g2.fr 0
    have f3 := g3.fr 0
    have B1 := Go.Lib.hid (ba.trans (b1.mono (by omega)))
    clear b1 HI
    go_wp2_with fail
    have j2 := g2.set (k := 0) (.int .i64 0) (by simp)
    have j3 := g3.other (p := ⟨s + 1 + 1, 0, none⟩) (by simp) (.int .i64 0)
    refine leave0 (results_cellI2 rfl _ ⟨s + 1 + 1, 0, none⟩ ⟨s + 1 + 1 + 1, 0, none⟩ _ 0 1 rfl rfl ?_ ?_) (Gives2.of HV.out (by rw [HS.out]; exact (B1.out.setCell (p := ⟨s + 1 + 1, 0, none⟩) (by simp; omega) _).setCell (p := ⟨s + 1 + 1 + 1, 0, none⟩) (by simp; omega) _))
    · exact (j2.other (p := ⟨s + 1 + 1 + 1, 0, none⟩) (by simp) _).at_ 0 _ rfl
    · exact (j3.set (k := 0) _ (by simp)).at_ 0 _ rfl
  case pos =>
  rw [decide_eq_true hL] at HI
  have hlen := hL.len
  obtain ⟨r0, r1, -⟩ := hL.rim
  have HC := Go.Lib.hid (fun (k : Nat) (w0 : World) (h1 : Rd w0 0 w.heap.size A zs.length (ints zs)) (hk : k < zs.length) => implCount n A c zs k w0 _ _ h1 hL hk)
  have HE := Go.Lib.hid hL
  subst hlen
  clear hL
  go_wp2_with fail
  refine HI.out.mono ?_
  rintro _ w1 ⟨rfl, b1⟩
  have g0 := a0.below b1
  have g1 := a1.below b1
  have g2 := a2.below b1
  have g3 := a3.below b1
  have e0 := g0.at_ 0 _ rfl
  have e1 := g1.at_ 0 _ rfl
  have bb := ba.trans (b1.mono (by omega))
  have hz1 := b1.size
  clear b1 HI c0 c1 c2 c3 a0 a1 a2 a3 ba
  have HC0 := Go.Lib.hid (HC.out 0 w1 (h.out.below (by rw [HS.out]; exact bb) (Nat.le_refl _)) (by omega))
  go_wp2_with fail
  refine HC0.out.mono ?_
  rintro _ w2 ⟨rfl, b2⟩
  have a0 := g0.below b2
  have a1 := g1.below b2
  have a2 := g2.below b2
  have a3 := g3.below b2
  have k0 := a0.at_ 0 _ rfl
  have ba := bb.trans (b2.mono (by omega))
  have hz2 := b2.size
  clear b2 HC0 g0 g1 g2 g3 e0 e1 bb
  obtain ⟨q, hq⟩ : ∃ q, w2.heap.size = q := ⟨_, rfl⟩
  have hsq : s + 1 + 1 + 1 + 1 ≤ q := by omega
  have hsl : s < q := by omega
  go_wp2_with fail
  refine (implPlaces _ _).mono ?_
  rintro _ _ ⟨rfl, rfl⟩
  go_wp2_with fail
  refine wp_gen (R := fun W => W.heap.size = q + 1 + 1 ∧ Below s w W ∧ (Box W s [.int .i64 zs.length] ∧ Box W (s + 1) [.slice A zs.length c] ∧ Box W (s + 1 + 1) [.int .i64 0] ∧ Box W (s + 1 + 1 + 1) [.int .i64 0] ∧ Box W q [.int .i64 (countAt zs.length zs 0 : Nat)]) ∧ Box W (q + 1) [.int .i64 zs.length]) ?_ ?_
  · exact ⟨by simp [hq], (ba.alloc (by omega) _).alloc (by simp; omega) _, ⟨(a0.alloc _).alloc _, (a1.alloc _).alloc _, (a2.alloc _).alloc _, (a3.alloc _).alloc _, (Box.new hq.symm rfl).alloc _⟩, Box.new (by simp [hq]) rfl⟩
  try rw [hq]
  clear a0 a1 a2 a3 ba k0
  rintro wb ⟨zb, bb, ⟨b0, b1, b2, b3, bQ⟩, bN⟩
  refine (wpIn_wide (n := 4)).1 ?_
  refine wpIn_rangeFunc_ownG rfl (by omega) (gf := 66) (lb := #[.pointer (some ⟨q + 1, 0, none⟩)]) rfl trivial (enters_of Try.func66 (by kernel_rfl) rfl)
    (places_stops 3 (by omega) (q + 1) zs.length (by omega) wb (by omega) (bN.at_ 0 _ rfl)) (fun _ _ => trivial) (fun _ _ _ _ _ _ _ _ => trivial) (Below.refl _ _) (fun _ => rfl)
    (fun pre W => Rnd wb.heap.size s w (fun W => (Box W s [.int .i64 zs.length] ∧ Box W (s + 1) [.slice A zs.length c] ∧ Box W (s + 1 + 1) [.int .i64 0] ∧ Box W (s + 1 + 1 + 1) [.int .i64 0] ∧ Box W q [.int .i64 (countAt zs.length zs 0 : Nat)]) ∧ (pre.map Fin.val).all (sameB zs.length zs) = true) W)
    (fun co pre W => Rnd wb.heap.size s w (fun W => (Box W (s + 1 + 1) [.int .i64 0] ∧ Box W (s + 1 + 1 + 1) [.int .i64 5]) ∧ (co = .ret ∧ (pre.map Fin.val).all (sameB zs.length zs) = false)) W)
    (Rnd.own (by omega) fun pre => ((Lo.box (by omega) (by simp)).and ((Lo.box (by omega) (by simp)).and ((Lo.box (by omega) (by simp)).and ((Lo.box (by omega) (by simp)).and (Lo.box (by omega) (by simp)))))).and Lo.pure)
    (fun co => Rnd.own (by omega) fun pre => ((Lo.box (by omega) (by simp)).and (Lo.box (by omega) (by simp))).and Lo.pure)
    ⟨bb, Nat.le_refl _, ⟨b0, b1, b2, b3, bQ⟩, rfl⟩ ?a1 ?assign ?body ?done ?stop
  case assign =>
    intro l x W K hK
    gi_wp2
    exact hK
  case body =>
    rintro l pre x W ⟨hb, hs, ⟨e0, e1, e2, e3, eQ⟩, hall⟩ hlt
    have d0 := e0.at_ 0 _ rfl
    have d1 := e1.at_ 0 _ rfl
    have dq := eQ.at_ 0 _ rfl
    have hx := x.2
    have hWs : q + 1 + 1 ≤ W.heap.size := by omega
    have hrd := h.out.below (w' := W) (by rw [HS.out]; exact hb) (Nat.le_refl _)
    have HX := Go.Lib.hid (show ((pre ++ [x]).map Fin.val).all (sameB zs.length zs) = ((pre.map Fin.val).all (sameB zs.length zs) && sameB zs.length zs x.1) by simp)
    rw [hall, Bool.true_and] at HX
    gi_wp2_with fail
    refine wpIn_round_held (fun w' => w'.cell? ⟨s, 0, none⟩ = some (.int .i64 zs.length) ∧ w'.cell? ⟨s + 1, 0, none⟩ = some (.slice A zs.length c) ∧ w'.cell? ⟨q, 0, none⟩ = some (.int .i64 (countAt zs.length zs 0 : Nat)) ∧ Below W.heap.size W w') (by kernel_rfl) (by kernel_rfl) (fun _ _ h => h) (by exact ⟨d0, d1, dq, below_drewN (Below.refl _ _) 1⟩) (fun hHeld => ?_)
    refine wpAnyH_take (i := 0) (v := ?v0) rfl (by kernel_rfl) (by kernel_rfl) (by kernel_rfl) (fun _ _ _ h => h) (Or.inl ⟨by rfl, ?hy0⟩) (by assumption) ?rest0
    case hy0 => (intro w hSw; (try dsimp only at hSw); go_simp; try with_reducible rfl)
    try simp only [List.getElem_toArray, List.getElem_cons_succ, List.getElem_cons_zero, Act.put, List.setIfInBounds_toArray, List.set_cons_zero, List.set_cons_succ]
    refine wpAnyH_take (i := 1) (v := ?v1) rfl (by kernel_rfl) (by kernel_rfl) (by kernel_rfl) (fun _ _ _ h => h) (Or.inl ⟨by rfl, ?hy1⟩) (by assumption) ?rest1
    case hy1 => (intro w hSw; (try dsimp only at hSw); go_simp; try with_reducible rfl)
    try simp only [List.getElem_toArray, List.getElem_cons_succ, List.getElem_cons_zero, Act.put, List.setIfInBounds_toArray, List.set_cons_zero, List.set_cons_succ]
    refine wpAnyH_take (i := 2) (v := ?v2) rfl (by kernel_rfl) (by kernel_rfl) (by kernel_rfl) (fun _ _ _ h => h) (Or.inl ⟨by rfl, ?hy2⟩) (by assumption) ?rest2
    case hy2 => (intro w hSw; (try dsimp only at hSw); go_simp; try with_reducible rfl)
    try simp only [List.getElem_toArray, List.getElem_cons_succ, List.getElem_cons_zero, Act.put, List.setIfInBounds_toArray, List.set_cons_zero, List.set_cons_succ]
    refine wpAnyH_take (i := 4) (v := ?v4) rfl (by kernel_rfl) (by kernel_rfl) (by kernel_rfl) (fun _ _ _ h => h) (Or.inl ⟨by rfl, ?hy4⟩) (by assumption) ?rest4
    case hy4 => (intro w hSw; (try dsimp only at hSw); go_simp; try with_reducible rfl)
    try simp only [List.getElem_toArray, List.getElem_cons_succ, List.getElem_cons_zero, Act.put, List.setIfInBounds_toArray, List.set_cons_zero, List.set_cons_succ]
    refine wpAnyH_ready (rs := [3]) (by kernel_rfl) (by simp) ?_
    refine AllReadyH.cons rfl (fun K hK => ?_) AllReadyH.nil
    go_simp
    refine (HC.out x.1 _ (hrd.drewN 1) hx).mono ?_
    rintro _ w4 ⟨rfl, b4⟩
    try go_wp2_with fail
    refine hK.out _ _ ?_ (fun hHeld => ?_)
    · exact ⟨(b4.cell (p := ⟨s, 0, none⟩) (show s < _ by simp; omega)).trans d0, (b4.cell (p := ⟨s + 1, 0, none⟩) (show s + 1 < _ by simp; omega)).trans d1, (b4.cell (p := ⟨q, 0, none⟩) (show q < _ by simp; omega)).trans dq, (below_drewN (Below.refl W.heap.size W) 1).trans b4⟩
    clear hK K
    try simp only [List.getElem_toArray, List.getElem_cons_succ, List.getElem_cons_zero, Act.put, List.setIfInBounds_toArray, List.set_cons_zero, List.set_cons_succ]
    refine wpAnyH_take (i := 5) (v := ?v5) rfl (by kernel_rfl) (by kernel_rfl) (by kernel_rfl) (fun _ _ _ h => h) (Or.inl ⟨by rfl, ?hy5⟩) (by assumption) ?rest5
    case hy5 => (intro w hSw; (try dsimp only at hSw); go_simp; try with_reducible rfl)
    try simp only [List.getElem_toArray, List.getElem_cons_succ, List.getElem_cons_zero, Act.put, List.setIfInBounds_toArray, List.set_cons_zero, List.set_cons_succ]
    refine wpAnyH_done (by kernel_rfl) ?_ _
    have b5 : Below W.heap.size W w4 := (below_drewN (Below.refl W.heap.size W) 1).trans b4
    have m0 := e0.below b5
    have m1 := e1.below b5
    have m2 := e2.below b5
    have m3 := e3.below b5
    have mq := eQ.below b5
    have HB := Go.Lib.hid (hb.trans (b5.mono (by omega)))
    have HZ := Go.Lib.hid b5.size
    have KF := KeepsOthers.of_below b5
    by_cases hv : countAt zs.length zs x.1 = countAt zs.length zs 0
    case pos =>
      have hvb : (((countAt zs.length zs x.1 : Nat) : Int) != ((countAt zs.length zs 0 : Nat) : Int)) = false := by simp [hv]
      have hS : sameB zs.length zs x.1 = true := decide_eq_true hv
      rw [hS] at HX
      clear hv hS hHeld b5 b4 hb hrd d0 d1 dq e0 e1 e2 e3 eQ
      gi_wp2_with fail
      exact ⟨KF.from _, trivial, HB.out, Nat.le_trans hs HZ.out, ⟨m0, m1, m2, m3, mq⟩, HX.out⟩
    case neg =>
      have hvb : (((countAt zs.length zs x.1 : Nat) : Int) != ((countAt zs.length zs 0 : Nat) : Int)) = true := by simp; omega
      have hS : sameB zs.length zs x.1 = false := decide_eq_false hv
      rw [hS] at HX
      have n2 := m2.at_ 0 _ rfl
      have n3 := m3.at_ 0 _ rfl
      have f2 := m2.fr 0
      have f3 := m3.fr 0
      clear hv hS hHeld b5 b4 hb hrd d0 d1 dq e0 e1 e2 e3 eQ
      gi_wp2_with fail
      refine ⟨((KF.trans (KeepsOthers.setCell _ _ _)).trans (KeepsOthers.setCell _ _ _)).from _, Rnd.set (J := fun _ => True) (Rnd.set (J := fun _ => True) (J' := fun _ => True) ⟨HB.out, Nat.le_trans hs HZ.out, trivial⟩ (by omega) _ trivial) (by omega) _ ⟨⟨?_, ?_⟩, rfl, HX.out⟩⟩
      · exact (m2.set (k := 0) (.int .i64 0) (by simp)).other (p := ⟨s + 1 + 1 + 1, 0, none⟩) (by simp) _
      · exact (m3.other (p := ⟨s + 1 + 1, 0, none⟩) (by simp) _).set (k := 0) _ (by simp)
  case done =>
    rintro D ys W hD hys ⟨hb, hs, ⟨-, -, e2, e3, eQ⟩, hall⟩ hK
    have hys' : ys.map Fin.val = List.range zs.length := hys
    rw [hys'] at hall
    have HV := Go.Lib.hid (show evenR zs.length zs = (((countAt zs.length zs 0 : Nat) : Int), 0) by unfold evenR; rw [if_pos HE.out, if_pos hall])
    clear hys hys' hall
    have n2 := e2.at_ 0 _ rfl
    have n3 := e3.at_ 0 _ rfl
    have nq := eQ.at_ 0 _ rfl
    have f2 := e2.fr 0
    have f3 := e3.fr 0
    generalize countAt zs.length zs 0 = v at *
    go_wp2_with fail
    have r2 : Rnd wb.heap.size s w (fun W => Box W (s + 1 + 1) [.int .i64 v] ∧ Box W (s + 1 + 1 + 1) [.int .i64 0]) ((W.setCell ⟨s + 1 + 1, 0, none⟩ (.int .i64 v)).setCell ⟨s + 1 + 1 + 1, 0, none⟩ (.int .i64 0)) :=
      Rnd.set (J := fun _ => True) (Rnd.set (J := fun _ => True) (J' := fun _ => True) ⟨hb, hs, trivial⟩ (by omega) _ trivial) (by omega) _ ⟨(e2.set (k := 0) _ (by simp)).other (p := ⟨s + 1 + 1 + 1, 0, none⟩) (by simp) _, (e3.other (p := ⟨s + 1 + 1, 0, none⟩) (by simp) _).set (k := 0) _ (by simp)⟩
    have hK' := (KeepsOthers.setCell (W.setCell ⟨s + 1 + 1, 0, none⟩ (.int .i64 v)) ⟨s + 1 + 1 + 1, 0, none⟩ (.int .i64 0)).same D _ ((KeepsOthers.setCell W ⟨s + 1 + 1, 0, none⟩ (.int .i64 v)).same D _ hK rfl) rfl
    have r3 := r2.shut (by omega) ((Lo.box (by omega) (by simp)).and (Lo.box (by omega) (by simp))) hD hK' (o' := .deferred none)
    exact leave1 hK' (results_cellI2 rfl _ ⟨s + 1 + 1, 0, none⟩ ⟨s + 1 + 1 + 1, 0, none⟩ _ v 0 rfl rfl (r3.j.1.at_ 0 _ rfl) (r3.j.2.at_ 0 _ rfl)) (Gives2.of HV.out (by rw [HS.out]; exact r3.b))
  case stop =>
    rintro D co pre W hD ⟨k, hk, hpre⟩ hI hK
    obtain ⟨hb, hs, ⟨e2, e3⟩, rfl, hall⟩ := hI
    have hys' : pre.map Fin.val = List.range k := hpre
    have HV := Go.Lib.hid (show evenR zs.length zs = (0, 5) by
      unfold evenR; rw [if_pos HE.out, if_neg]
      intro ha
      rw [hys'] at hall
      rw [List.all_eq_true] at ha
      have : (List.range k).all (sameB zs.length zs) = true := List.all_eq_true.2 fun j hj => ha j (by simp at hj ⊢; omega)
      rw [this] at hall; cases hall)
    clear hpre hys' hall hk
    refine (wpIn_wide (n := 4)).2 ?_
    go_wp2_with fail
    have r2 : Rnd wb.heap.size s w (fun W => Box W (s + 1 + 1) [.int .i64 0] ∧ Box W (s + 1 + 1 + 1) [.int .i64 5]) W := ⟨hb, hs, e2, e3⟩
    have r3 := r2.shut (by omega) ((Lo.box (by omega) (by simp)).and (Lo.box (by omega) (by simp))) hD hK (o' := .deferred none)
    exact leave1 hK (results_cellI2 rfl _ ⟨s + 1 + 1, 0, none⟩ ⟨s + 1 + 1 + 1, 0, none⟩ _ 0 5 rfl rfl (r3.j.1.at_ 0 _ rfl) (r3.j.2.at_ 0 _ rfl)) (Gives2.of HV.out (by rw [HS.out]; exact r3.b))
end Go.Proofs.Ytlmbcidijbohiaa
