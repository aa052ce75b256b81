/- The draw of a train, a limit, a gear and a move. -/
import Derived.Test.YthedanpldebjcaaDrawSh
namespace Go.Proofs.Ythedanpldebjcaa
open Go.RowKit
set_option linter.unusedSimpArgs false
set_option linter.unusedVariables false

/-- What a draw holds: the source in g, a train in its variable xb, whose lists lie from lo on, the result's own variable Q, still empty. -/
structure TrG (W0 : World) (Q g : Nat) (A : Option Addr) (n cap : Nat) (bs : List Int) (xb : Nat) (t : Trn) (A1 : Option Addr) (c1 : Nat) (B1 : Option Addr) (d1 lo hi : Nat) (W : World) : Prop where
  src : Src W g A n cap bs
  kp : Keep g (g + 1) W0 W
  box : Box W xb [.slice A1 t.f.length c1, .slice B1 t.r.length d1, .int .i64 t.n]
  res : Box W Q [.slice none 0 0, .slice none 0 0, .int .i64 0]
  rf : Rd W lo hi A1 t.f.length (ints t.f)
  rr : Rd W lo hi B1 t.r.length (ints t.r)
  hs : hi ≤ W.heap.size
  qg : Q ≠ g
  qx : Q ≠ xb
  gx : g ≠ xb
  ql : Q < lo
  gl : g < lo
section
variable {W0 W W1 : World} {Q g : Nat} {A : Option Addr} {n cap : Nat} {bs : List Int} {xb : Nat} {t : Trn} {A1 : Option Addr} {c1 : Nat} {B1 : Option Addr} {d1 lo hi : Nat}
theorem TrG.next (h : TrG W0 Q g A n cap bs xb t A1 c1 B1 d1 lo hi W) (s : Src W1 g A n cap bs) (k : Keep g (g + 1) W W1) : TrG W0 Q g A n cap bs xb t A1 c1 B1 d1 lo hi W1 := by
  have h1 := h.qg
  have h2 := h.gx
  have h3 := h.gl
  exact ⟨s, h.kp.trans k, h.box.keep k (by omega), h.res.keep k (by omega), h.rf.keep k h.hs (by omega), h.rr.keep k h.hs (by omega), Nat.le_trans h.hs k.size, h.qg, h.qx, h.gx, h.ql, h.gl⟩
theorem TrG.cells (h : TrG W0 Q g A n cap bs xb t A1 c1 B1 d1 lo hi W) : W.cell? ⟨xb, 0, none⟩ = some (.slice A1 t.f.length c1) ∧ W.cell? ⟨xb, 1, none⟩ = some (.slice B1 t.r.length d1) ∧ W.cell? ⟨xb, 2, none⟩ = some (.int .i64 t.n) :=
  ⟨h.box.at_ 0 _ rfl, h.box.at_ 1 _ rfl, h.box.at_ 2 _ rfl⟩
end
/-- A train and four numbers. -/
def DvT4 (w : World) (e : Ending) (w' : World) : Prop := ∃ (x : Trn) (A : Option Addr) (c : Nat) (B : Option Addr) (d : Nat) (a b s u : Int), e = .returned (.tuple #[trainV x A c B d, .int .i64 a, .int .i64 b, .int .i64 s, .int .i64 u]) ∧ TrL x A c B d w' ∧ Below w.heap.size w w'
set_option maxRecDepth 100000 in
set_option maxHeartbeats 16000000 in
theorem drawShift (A : Option Addr) (n cap : Nat) (bs : List Int) (w : World) (h : Rd w 0 w.heap.size A n (byts bs)) (hs : ∀ z ∈ bs, 0 ≤ z ∧ z ≤ 255) (hn : n ≤ 140737488355328) :
    Calls Try.prog 18 #[.slice A n cap] w (DvT4 w) := by
  have HFR := Go.Lib.hid (fun w0 (b : Below w.heap.size w w0) => from_ A n cap bs w0 ((h.below b (Nat.le_refl _)).mono (Nat.le_refl _) b.size) hs hn)
  have HSL := Go.Lib.hid (fun w0 (b : Below w.heap.size w w0) => drawIsCrossed A n cap bs w0 ((h.below b (Nat.le_refl _)).mono (Nat.le_refl _) b.size) hs hn)
  clear h hs hn
  go_enter Try.func18, Try.ntmps18
  go_upto_region 1 with fail
  refine wp_gen (R := fun W => Box W w.heap.size [.slice none 0 0, .slice none 0 0, .int .i64 0] ∧ Below w.heap.size w W ∧ W.heap.size = w.heap.size + 1) ⟨Box.new rfl rfl, by go_grown, by simp⟩ ?_
  rintro W1 ⟨kb, b1, e1⟩
  have HB := Go.Lib.hid kb
  have B1w := Go.Lib.hid b1
  have E1 := Go.Lib.hid e1
  clear kb b1 e1
  go_wp2_with fail
  refine (HFR.out _ B1w.out).mono ?_
  rintro _ w1 ⟨g, rfl, hg, s1, b2⟩
  have HB := Go.Lib.hid (HB.out.below b2)
  have HBW := Go.Lib.hid (upB B1w.out b2)
  have HGE := Go.Lib.hid (show w.heap.size < g by have := E1.out; omega)
  have HG := Go.Lib.hid s1.lt
  have S1 := Go.Lib.hid s1
  have HN := Go.Lib.hid (fun (m : Int) (w0 : World) (s : Src w0 g A n cap bs) => next g A n cap bs m w0 s)
  clear s1 hg b2 B1w E1 HFR
  go_wp2_with fail
  refine (HSL.out _ HBW.out).mono ?_
  rintro _ w2 ⟨t, A1, c1, B1, d1, lm, f, r, rfl, tl, b3, rf, rr⟩
  have HTL := Go.Lib.hid tl
  obtain ⟨Q, hQ⟩ : ∃ Q, w.heap.size = Q := ⟨_, rfl⟩
  have hst : ∀ ty, TrG (w2.alloc (.cells #[.slice A1 t.f.length c1, .slice B1 t.r.length d1, .int .i64 t.n] ty)) Q g A n cap bs w2.heap.size t A1 c1 B1 d1 w1.heap.size w2.heap.size (w2.alloc (.cells #[.slice A1 t.f.length c1, .slice B1 t.r.length d1, .int .i64 t.n] ty)) := fun ty => by
    have hg := HG.out
    have hge := HGE.out
    have hsz := b3.size
    have hb := (Below.refl w2.heap.size w2).alloc (Nat.le_refl _) (.cells #[.slice A1 t.f.length c1, .slice B1 t.r.length d1, .int .i64 t.n] ty)
    exact ⟨(S1.out.below b3).below hb, Keep.refl _ _ _, Box.new rfl rfl, by rw [← hQ]; exact (HB.out.below b3).below hb, rf.below hb (Nat.le_refl _), rr.below hb (Nat.le_refl _), hb.size, by omega, by omega, by omega, by omega, by omega⟩
  have hbw : ∀ ty, Below w.heap.size w (w2.alloc (.cells #[.slice A1 t.f.length c1, .slice B1 t.r.length d1, .int .i64 t.n] ty)) := fun ty => (upB HBW.out b3).alloc (upB HBW.out b3).size _
  have HGW := Go.Lib.hid HGE.out
  have HQW := Go.Lib.hid (show w.heap.size ≤ Q from Nat.le_of_eq hQ)
  have HXQ := Go.Lib.hid (show w2.heap.size ≠ Q by have := b3.size; have := HGE.out; have := HG.out; omega)
  unfold trainV
  clear b3 rf rr tl HB S1 HSL HBW HG HGE
  go_upto_region 3 with fail
  refine wp_gen (R := fun W => TrG W Q g A n cap bs w2.heap.size t A1 c1 B1 d1 w1.heap.size w2.heap.size W ∧ Below w.heap.size w W) ⟨hst _, hbw _⟩ ?_
  rintro W3 ⟨ht, hb3⟩
  have HT := Go.Lib.hid ht
  have HBW := Go.Lib.hid hb3
  clear ht hst hbw hb3
  try simp only [hQ]
  generalize w2.heap.size = xb at *
  obtain ⟨hc0, hc1, hc2⟩ := HT.out.cells
  refine wp_region_held_drew (S := fun w' => w'.cell? ⟨xb, 0, none⟩ = some (.slice A1 t.f.length c1) ∧ w'.cell? ⟨xb, 1, none⟩ = some (.slice B1 t.r.length d1) ∧ w'.cell? ⟨xb, 2, none⟩ = some (.int .i64 t.n)) (by kernel_rfl) (by exact ⟨hc0, hc1, hc2⟩) (fun hHeld => ?_)
  change wpAnyH _ _ _ _ _ _ _ _ (W3.drewN 1)
  have HTV := Go.Lib.hid (HT.out.next (HT.out.src.drewN 1) ((Keep.refl g (g + 1) W3).drewN 1))
  generalize W3.drewN 1 = V at *
  clear HT hc0 hc1 hc2 hQ
  have hHeld2 := HTV.out.cells
  refine wpAnyH_take (i := 0) (v := ?vg1) rfl (by kernel_rfl) (by kernel_rfl) (by kernel_rfl) (fun _ _ _ h => h) (Or.inl ⟨by rfl, ?hyg1⟩) (by assumption) ?restg1
  case hyg1 => (intro w hSw; (try dsimp only at hSw); go_simp; try with_reducible rfl)
  try simp only [List.getElem_toArray, List.getElem_cons_succ, List.getElem_cons_zero, Act.put, List.setIfInBounds_toArray, List.set_cons_zero, List.set_cons_succ]
  refine wpAnyH_take (i := 1) (v := ?vg2) rfl (by kernel_rfl) (by kernel_rfl) (by kernel_rfl) (fun _ _ _ h => h) (Or.inl ⟨by rfl, ?hyg2⟩) (by assumption) ?restg2
  case hyg2 => (intro w hSw; (try dsimp only at hSw); go_simp; try with_reducible rfl)
  try simp only [List.getElem_toArray, List.getElem_cons_succ, List.getElem_cons_zero, Act.put, List.setIfInBounds_toArray, List.set_cons_zero, List.set_cons_succ]
  refine wpAnyH_take (i := 2) (v := ?vg3) rfl (by kernel_rfl) (by kernel_rfl) (by kernel_rfl) (fun _ _ _ h => h) (Or.inl ⟨by rfl, ?hyg3⟩) (by assumption) ?restg3
  case hyg3 => (intro w hSw; (try dsimp only at hSw); go_simp; try with_reducible rfl)
  try simp only [List.getElem_toArray, List.getElem_cons_succ, List.getElem_cons_zero, Act.put, List.setIfInBounds_toArray, List.set_cons_zero, List.set_cons_succ]
  refine wpAnyH_take (i := 3) (v := ?vg4) rfl (by kernel_rfl) (by kernel_rfl) (by kernel_rfl) (fun _ _ _ h => h) (Or.inl ⟨by rfl, ?hyg4⟩) (by assumption) ?restg4
  case hyg4 => (intro w hSw; (try dsimp only at hSw); go_simp; try with_reducible rfl)
  try simp only [List.getElem_toArray, List.getElem_cons_succ, List.getElem_cons_zero, Act.put, List.setIfInBounds_toArray, List.set_cons_zero, List.set_cons_succ]
  refine wpAnyH_take (i := 4) (v := ?vg5) rfl (by kernel_rfl) (by kernel_rfl) (by kernel_rfl) (fun _ _ _ h => h) (Or.inl ⟨by rfl, ?hyg5⟩) (by assumption) ?restg5
  case hyg5 => (intro w hSw; (try dsimp only at hSw); go_simp; try with_reducible rfl)
  try simp only [List.getElem_toArray, List.getElem_cons_succ, List.getElem_cons_zero, Act.put, List.setIfInBounds_toArray, List.set_cons_zero, List.set_cons_succ]
  refine wpAnyH_take (i := 6) (v := ?vg6) rfl (by kernel_rfl) (by kernel_rfl) (by kernel_rfl) (fun _ _ _ h => h) (Or.inl ⟨by rfl, ?hyg6⟩) (by assumption) ?restg6
  case hyg6 => (intro w hSw; (try dsimp only at hSw); go_simp; try with_reducible rfl)
  try simp only [List.getElem_toArray, List.getElem_cons_succ, List.getElem_cons_zero, Act.put, List.setIfInBounds_toArray, List.set_cons_zero, List.set_cons_succ]
  refine wpAnyH_ready (rs := [5]) (by kernel_rfl) (by simp) ?_
  refine AllReadyH.cons rfl (fun K hK => ?_) AllReadyH.nil
  go_simp
  (go_at_call 53; refine (HN.out _ _ HTV.out.src).mono ?_; rintro _ v5 ⟨r5, rfl, p5, m5, s5, k5⟩)
  have HTV := Go.Lib.hid (HTV.out.next s5 k5)
  clear s5 k5
  refine hK.out _ _ ?_ (fun hHeld => ?_)
  · exact HTV.out.cells
  clear hK K
  try simp only [List.getElem_toArray, List.getElem_cons_succ, List.getElem_cons_zero, Act.put, List.setIfInBounds_toArray, List.set_cons_zero, List.set_cons_succ]
  refine wpAnyH_ready (rs := [7]) (by kernel_rfl) (by simp) ?_
  refine AllReadyH.cons rfl (fun K hK => ?_) AllReadyH.nil
  go_simp
  (go_at_call 53; refine (HN.out _ _ HTV.out.src).mono ?_; rintro _ v7 ⟨r7, rfl, p7, m7, s7, k7⟩)
  have HTV := Go.Lib.hid (HTV.out.next s7 k7)
  clear s7 k7
  have q7 : r7.tdiv 23 = r7 / 23 := Int.tdiv_eq_ediv_of_nonneg p7
  have t7 : IntKind.i64.wrap (r7 / 23) = r7 / 23 := IntWalk.i64_in _ (by omega)
  have u7 : IntKind.i64.wrap (r5 + r7 / 23) = r5 + r7 / 23 := IntWalk.i64_in _ (by omega)
  refine hK.out _ _ ?_ (fun hHeld => ?_)
  · exact HTV.out.cells
  clear hK K
  try simp only [List.getElem_toArray, List.getElem_cons_succ, List.getElem_cons_zero, Act.put, List.setIfInBounds_toArray, List.set_cons_zero, List.set_cons_succ]
  refine wpAnyH_take (i := 8) (v := ?vg7) rfl (by kernel_rfl) (by kernel_rfl) (by kernel_rfl) (fun _ _ _ h => h) (Or.inl ⟨by rfl, ?hyg7⟩) (by assumption) ?restg7
  case hyg7 => (intro w hSw; (try dsimp only at hSw); go_simp; try with_reducible rfl)
  try simp only [List.getElem_toArray, List.getElem_cons_succ, List.getElem_cons_zero, Act.put, List.setIfInBounds_toArray, List.set_cons_zero, List.set_cons_succ]
  refine wpAnyH_take (i := 9) (v := ?vg8) rfl (by kernel_rfl) (by kernel_rfl) (by kernel_rfl) (fun _ _ _ h => h) (Or.inl ⟨by rfl, ?hyg8⟩) (by assumption) ?restg8
  case hyg8 => (intro w hSw; (try dsimp only at hSw); go_simp; try with_reducible rfl)
  try simp only [List.getElem_toArray, List.getElem_cons_succ, List.getElem_cons_zero, Act.put, List.setIfInBounds_toArray, List.set_cons_zero, List.set_cons_succ]
  refine wpAnyH_ready (rs := [10]) (by kernel_rfl) (by simp) ?_
  refine AllReadyH.cons rfl (fun K hK => ?_) AllReadyH.nil
  have d0 := HTV.out.res.at_ 0 _ rfl
  have d1x := HTV.out.res.at_ 1 _ rfl
  have d2 := HTV.out.res.at_ 2 _ rfl
  have df := HTV.out.res.fr
  go_simp
  have HRB := Go.Lib.hid (put3_box (a := .slice A1 t.f.length c1) (b := .slice B1 t.r.length d1) (c := .int .i64 t.n) HTV.out.res)
  have HK3 := Go.Lib.hid (put3_keep v7 Q (.slice A1 t.f.length c1) (.slice B1 t.r.length d1) (.int .i64 t.n))
  clear d0 d1x d2 df
  refine hK.out _ _ ?_ (fun hHeld => ?_)
  · exact ⟨(put3_far HXQ.out _ _ _ _ _).trans HTV.out.cells.1, (put3_far HXQ.out _ _ _ _ _).trans HTV.out.cells.2.1, (put3_far HXQ.out _ _ _ _ _).trans HTV.out.cells.2.2⟩
  clear hK K
  try simp only [List.getElem_toArray, List.getElem_cons_succ, List.getElem_cons_zero, Act.put, List.setIfInBounds_toArray, List.set_cons_zero, List.set_cons_succ]
  refine wpAnyH_take (i := 11) (v := ?vg9) rfl (by kernel_rfl) (by kernel_rfl) (by kernel_rfl) (fun _ _ _ h => h) (Or.inl ⟨by rfl, ?hyg9⟩) (by assumption) ?restg9
  case hyg9 => (intro w hSw; (try dsimp only at hSw); go_simp; try with_reducible rfl)
  try simp only [List.getElem_toArray, List.getElem_cons_succ, List.getElem_cons_zero, Act.put, List.setIfInBounds_toArray, List.set_cons_zero, List.set_cons_succ]
  refine wpAnyH_take (i := 12) (v := ?vg10) rfl (by kernel_rfl) (by kernel_rfl) (by kernel_rfl) (fun _ _ _ h => h) (Or.inl ⟨by rfl, ?hyg10⟩) (by assumption) ?restg10
  case hyg10 => (intro w hSw; (try dsimp only at hSw); go_simp; try with_reducible rfl)
  try simp only [List.getElem_toArray, List.getElem_cons_succ, List.getElem_cons_zero, Act.put, List.setIfInBounds_toArray, List.set_cons_zero, List.set_cons_succ]
  refine wpAnyH_take (i := 13) (v := ?vg11) rfl (by kernel_rfl) (by kernel_rfl) (by kernel_rfl) (fun _ _ _ h => h) (Or.inl ⟨by rfl, ?hyg11⟩) (by assumption) ?restg11
  case hyg11 => (intro w hSw; (try dsimp only at hSw); go_simp; try with_reducible rfl)
  try simp only [List.getElem_toArray, List.getElem_cons_succ, List.getElem_cons_zero, Act.put, List.setIfInBounds_toArray, List.set_cons_zero, List.set_cons_succ]
  refine wpAnyH_take (i := 14) (v := ?vg12) rfl (by kernel_rfl) (by kernel_rfl) (by kernel_rfl) (fun _ _ _ h => h) (Or.inl ⟨by rfl, ?hyg12⟩) (by assumption) ?restg12
  case hyg12 => (intro w hSw; (try dsimp only at hSw); go_simp; try with_reducible rfl)
  try simp only [List.getElem_toArray, List.getElem_cons_succ, List.getElem_cons_zero, Act.put, List.setIfInBounds_toArray, List.set_cons_zero, List.set_cons_succ]
  refine wpAnyH_done (by kernel_rfl) ?_ _
  change Exit.then _ _ _ _ (put3 v7 Q (.slice A1 t.f.length c1) (.slice B1 t.r.length d1) (.int .i64 t.n))
  generalize put3 v7 Q (.slice A1 t.f.length c1) (.slice B1 t.r.length d1) (.int .i64 t.n) = WE at *
  have e0 := HRB.out.at_ 0 _ rfl
  have e1 := HRB.out.at_ 1 _ rfl
  have e2 := HRB.out.at_ 2 _ rfl
  go_wp2_with fail
  refine bodyPost_ret (v := .tuple #[trainV t A1 c1 B1 d1, .int .i64 lm, .int .i64 f, .int .i64 r, .int .i64 (r5 + r7 / 23)]) (by simp [results, trainV, Try.results18, go_sem, *]) rfl ?_
  have hT := HTV.out
  have hk := HK3.out
  have hql := hT.ql
  have hbw := HBW.out
  have hgw := HGW.out
  have hqw := HQW.out
  have bF := hbw.trans (hT.kp.below (Nat.le_of_lt hgw) hbw.size)
  exact ⟨t, A1, c1, B1, d1, _, _, _, _, rfl, ⟨Ls.of (hT.rf.keep hk hT.hs (by omega)) HTL.out.f.le HTL.out.f.few, Ls.of (hT.rr.keep hk hT.hs (by omega)) HTL.out.r.le HTL.out.r.few⟩, bF.trans (hk.below hqw bF.size)⟩
end Go.Proofs.Ythedanpldebjcaa
