/- Draws of trains and numbers for chapter 10. -/
import Derived.Test.YtilepehlmjohbaaDrawCh
import Derived.Test.YtilepehlmjohbaaDrawTr3
import Derived.Test.YtilepehlmjohbaaChainS2
namespace Go.Proofs.Ytilepehlmjohbaa
open Go.RowKit
set_option linter.unusedSimpArgs false
set_option linter.unusedVariables false

set_option maxRecDepth 100000 in
set_option maxHeartbeats 16000000 in
theorem drawChainT (A : Option Addr) (n cap : Nat) (bs : List Int) (w : World) (h : Rd w 0 w.heap.size A n (byts bs)) (hs : ∀ z ∈ bs, 0 ≤ z ∧ z ≤ 255) (hn : n ≤ 140737488355328) :
    Calls Try.prog 32 #[.slice A n cap] w (DvT1 w) := by
  have HFR := Go.Lib.hid (fun w0 (b : Below w.heap.size w w0) => from_ A n cap bs w0 ((h.below b (Nat.le_refl _)).mono (Nat.le_refl _) b.size) hs hn)
  clear h hs hn
  go_enter Try.func32, Try.ntmps32
  go_upto_region 1 with fail
  refine wp_gen (R := fun W => Box W w.heap.size [.slice none 0 0, .slice none 0 0, .int .i64 0] ∧ Below w.heap.size w W ∧ W.heap.size = w.heap.size + 1) ⟨Box.new rfl rfl, by go_grown, by simp⟩ ?_
  rintro W1 ⟨kb, b1, e1⟩
  have HB := Go.Lib.hid kb
  have B1 := Go.Lib.hid b1
  have E1 := Go.Lib.hid e1
  clear kb b1 e1
  go_wp2_with fail
  refine (HFR.out _ B1.out).mono ?_
  rintro _ w1 ⟨g, rfl, hg, s1, b2⟩
  have HB := Go.Lib.hid (HB.out.below b2)
  have HBW := Go.Lib.hid (upB B1.out b2)
  have HGE := Go.Lib.hid (show w.heap.size < g by have := E1.out; omega)
  have HG := Go.Lib.hid s1.lt
  have S1 := Go.Lib.hid s1
  have HN := Go.Lib.hid (fun (m : Int) (w0 : World) (s : Src w0 g A n cap bs) => next g A n cap bs m w0 s)
  have HP := Go.Lib.hid (fun (w0 : World) (s : Src w0 g A n cap bs) (zs : List Int) (m : Nat) (hm : zs.length = m) (h0 : 0 < m) (h1 : m ≤ 1000) t cs (hc : cs = (ints zs).toArray) => pickNew g A n cap bs w0 s zs m hm h0 (by omega) (fun x => True) (fun _ _ => trivial) (t := t) hc)
  have HD := Go.Lib.hid (fun w0 s0 => drawL09 g A n cap bs w0 s0)
  have HST := Go.Lib.hid (fun w0 s0 => drawStayN g A n cap bs w0 s0)
  have HLK := Go.Lib.hid (fun w0 s0 => drawLinksN g A n cap bs w0 s0)
  clear s1 hg b2 B1 E1 HFR
  go_wp2_with fail
  refine (HD.out _ S1.out).mono ?_
  rintro _ w2 ⟨x0, gf, cf, gr, cr, rfl, hf, hr, s2, k2, of, or, hne, lf, lr, uf, ur⟩
  obtain ⟨fs, rs, z⟩ := x0
  obtain ⟨Q, hQ⟩ : ∃ Q, w.heap.size = Q := ⟨_, rfl⟩
  have hst : ∀ t, TrH w1 Q g A n cap bs w2.heap.size gf cf gr cr fs rs z (w2.alloc (.cells #[.slice (some ⟨gf, 0, none⟩) fs.length cf, .slice (some ⟨gr, 0, none⟩) rs.length cr, .int .i64 z] t)) := fun t => by
    have he := HGE.out
    have hg := HG.out
    rw [← hQ]
    exact TrH.make s2 k2 (HB.out.keep k2 (by omega)) of or hne (by omega) (by omega) (by omega) (by omega) (by omega) uf ur
  have HFL := Go.Lib.hid (show 1 ≤ fs.length ∧ fs.length ≤ 4 from hf)
  have HRL := Go.Lib.hid (show rs.length ≤ 11 from hr)
  have HQW := Go.Lib.hid (show w.heap.size ≤ Q from Nat.le_of_eq hQ)
  have HXQ := Go.Lib.hid (show w2.heap.size ≠ Q by have := k2.size; have := HGE.out; have := HG.out; omega)
  unfold trainV
  clear hf hr s2 k2 of or hne lf lr uf ur S1
  go_upto_region 3 with fail
  refine wp_gen (R := fun W => TrH w1 Q g A n cap bs w2.heap.size gf cf gr cr fs rs z W) (hst _) ?_
  rintro W3 ht
  have HT := Go.Lib.hid ht
  clear ht hst HB
  try simp only [hQ]
  generalize w2.heap.size = x at *
  obtain ⟨hc0, hc1, hc2⟩ := HT.out.cells
  refine wp_region_held_drew (S := fun w' => w'.cell? ⟨x, 0, none⟩ = some (.slice (some ⟨gf, 0, none⟩) fs.length cf) ∧ w'.cell? ⟨x, 1, none⟩ = some (.slice (some ⟨gr, 0, none⟩) rs.length cr) ∧ w'.cell? ⟨x, 2, none⟩ = some (.int .i64 z)) (by kernel_rfl) (by exact ⟨hc0, hc1, hc2⟩) (fun hHeld => ?_)
  change wpAnyH _ _ _ _ _ _ _ _ (W3.drewN 1)
  have HTV := Go.Lib.hid (HT.out.below HG.out (below_drewN (Below.refl W3.heap.size W3) 1))
  generalize W3.drewN 1 = V at *
  clear HT hc0 hc1 hc2
  have hHeld2 := HTV.out.cells
  clear hQ
  refine wpAnyH_take (i := 0) (v := ?ve1) rfl (by kernel_rfl) (by kernel_rfl) (by kernel_rfl) (fun _ _ _ h => h) (Or.inl ⟨by rfl, ?hye1⟩) (by assumption) ?reste1
  case hye1 => (intro w hSw; (try dsimp only at hSw); go_simp; try with_reducible rfl)
  try simp only [List.getElem_toArray, List.getElem_cons_succ, List.getElem_cons_zero, Act.put, List.setIfInBounds_toArray, List.set_cons_zero, List.set_cons_succ]
  refine wpAnyH_take (i := 1) (v := ?ve2) rfl (by kernel_rfl) (by kernel_rfl) (by kernel_rfl) (fun _ _ _ h => h) (Or.inl ⟨by rfl, ?hye2⟩) (by assumption) ?reste2
  case hye2 => (intro w hSw; (try dsimp only at hSw); go_simp; try with_reducible rfl)
  try simp only [List.getElem_toArray, List.getElem_cons_succ, List.getElem_cons_zero, Act.put, List.setIfInBounds_toArray, List.set_cons_zero, List.set_cons_succ]
  refine wpAnyH_ready (rs := [2]) (by kernel_rfl) (by simp) ?_
  refine AllReadyH.cons rfl (fun K hK => ?_) AllReadyH.nil
  go_simp
  (go_at_call 74; refine (HST.out _ HTV.out.src).mono ?_; rintro _ v2 ⟨r2, rfl, -, s2, k2⟩)
  have HTV := Go.Lib.hid (HTV.out.next HG.out s2 k2)
  clear s2 k2
  refine hK.out _ _ ?_ (fun hHeld => ?_)
  · exact HTV.out.cells
  clear hK K
  try simp only [List.getElem_toArray, List.getElem_cons_succ, List.getElem_cons_zero, Act.put, List.setIfInBounds_toArray, List.set_cons_zero, List.set_cons_succ]
  refine wpAnyH_ready (rs := [3]) (by kernel_rfl) (by simp) ?_
  refine AllReadyH.cons rfl (fun K hK => ?_) AllReadyH.nil
  have d0 := HTV.out.res.at_ 0 _ rfl
  have d1 := HTV.out.res.at_ 1 _ rfl
  have d2 := HTV.out.res.at_ 2 _ rfl
  have df := HTV.out.res.fr
  go_simp
  have HRB := Go.Lib.hid (put3_box (a := .slice (some ⟨gf, 0, none⟩) fs.length cf) (b := .slice (some ⟨gr, 0, none⟩) rs.length cr) (c := .int .i64 z) HTV.out.res)
  have HK3 := Go.Lib.hid (put3_keep v2 Q (.slice (some ⟨gf, 0, none⟩) fs.length cf) (.slice (some ⟨gr, 0, none⟩) rs.length cr) (.int .i64 z))
  clear d0 d1 d2 df
  refine hK.out _ _ ?_ (fun hHeld => ?_)
  · exact ⟨(put3_far HXQ.out _ _ _ _ _).trans HTV.out.cells.1, (put3_far HXQ.out _ _ _ _ _).trans HTV.out.cells.2.1, (put3_far HXQ.out _ _ _ _ _).trans HTV.out.cells.2.2⟩
  clear hK K
  try simp only [List.getElem_toArray, List.getElem_cons_succ, List.getElem_cons_zero, Act.put, List.setIfInBounds_toArray, List.set_cons_zero, List.set_cons_succ]
  refine wpAnyH_take (i := 4) (v := ?ve3) rfl (by kernel_rfl) (by kernel_rfl) (by kernel_rfl) (fun _ _ _ h => h) (Or.inl ⟨by rfl, ?hye3⟩) (by assumption) ?reste3
  case hye3 => (intro w hSw; (try dsimp only at hSw); go_simp; try with_reducible rfl)
  try simp only [List.getElem_toArray, List.getElem_cons_succ, List.getElem_cons_zero, Act.put, List.setIfInBounds_toArray, List.set_cons_zero, List.set_cons_succ]
  refine wpAnyH_done (by kernel_rfl) ?_ _
  change Exit.then _ _ _ _ (put3 v2 Q (.slice (some ⟨gf, 0, none⟩) fs.length cf) (.slice (some ⟨gr, 0, none⟩) rs.length cr) (.int .i64 z))
  generalize put3 v2 Q (.slice (some ⟨gf, 0, none⟩) fs.length cf) (.slice (some ⟨gr, 0, none⟩) rs.length cr) (.int .i64 z) = WE at *
  have e0 := HRB.out.at_ 0 _ rfl
  have e1 := HRB.out.at_ 1 _ rfl
  have e2 := HRB.out.at_ 2 _ rfl
  go_wp2_with fail
  refine bodyPost_ret (v := .tuple #[trainV ⟨fs, rs, z⟩ (some ⟨gf, 0, none⟩) cf (some ⟨gr, 0, none⟩) cr, .int .i64 r2]) (by simp [results, trainV, Try.results32, go_sem, *]) rfl ?_
  have hT := HTV.out
  have hk := HK3.out
  have hqw := HQW.out
  have hge := HGE.out
  have hws := HBW.out.size
  have bF := hk.below (show w.heap.size ≤ Q by omega) (Nat.le_trans hws hT.kp.size)
  exact ⟨⟨fs, rs, z⟩, _, cf, _, cr, r2, rfl, hT.trl HFL.out.2 (by have := HRL.out; omega) hk, (HBW.out.trans (hT.kp.below (Nat.le_of_lt hge) hws)).trans bF⟩
/-- A train in lists of its own, and two numbers. -/
def DvT2n (w : World) (e : Ending) (w' : World) : Prop := ∃ (x : Trn) (A : Option Addr) (c : Nat) (B : Option Addr) (d : Nat) (a b : Int), e = .returned (.tuple #[trainV x A c B d, .int .i64 a, .int .i64 b]) ∧ TrL x A c B d w' ∧ Below w.heap.size w w' ∧ Rd w' w.heap.size w'.heap.size A x.f.length (ints x.f) ∧ Rd w' w.heap.size w'.heap.size B x.r.length (ints x.r)
set_option maxRecDepth 100000 in
set_option maxHeartbeats 16000000 in
theorem drawSlacksT (A : Option Addr) (n cap : Nat) (bs : List Int) (w : World) (h : Rd w 0 w.heap.size A n (byts bs)) (hs : ∀ z ∈ bs, 0 ≤ z ∧ z ≤ 255) (hn : n ≤ 140737488355328) :
    Calls Try.prog 62 #[.slice A n cap] w (DvT2n w) := by
  have HFR := Go.Lib.hid (fun w0 (b : Below w.heap.size w w0) => from_ A n cap bs w0 ((h.below b (Nat.le_refl _)).mono (Nat.le_refl _) b.size) hs hn)
  clear h hs hn
  go_enter Try.func62, Try.ntmps62
  go_upto_region 1 with fail
  refine wp_gen (R := fun W => Box W w.heap.size [.slice none 0 0, .slice none 0 0, .int .i64 0] ∧ Below w.heap.size w W ∧ W.heap.size = w.heap.size + 1) ⟨Box.new rfl rfl, by go_grown, by simp⟩ ?_
  rintro W1 ⟨kb, b1, e1⟩
  have HB := Go.Lib.hid kb
  have B1 := Go.Lib.hid b1
  have E1 := Go.Lib.hid e1
  clear kb b1 e1
  go_wp2_with fail
  refine (HFR.out _ B1.out).mono ?_
  rintro _ w1 ⟨g, rfl, hg, s1, b2⟩
  have HB := Go.Lib.hid (HB.out.below b2)
  have HBW := Go.Lib.hid (upB B1.out b2)
  have HGE := Go.Lib.hid (show w.heap.size < g by have := E1.out; omega)
  have HG := Go.Lib.hid s1.lt
  have S1 := Go.Lib.hid s1
  have HN := Go.Lib.hid (fun (m : Int) (w0 : World) (s : Src w0 g A n cap bs) => next g A n cap bs m w0 s)
  have HP := Go.Lib.hid (fun (w0 : World) (s : Src w0 g A n cap bs) (zs : List Int) (m : Nat) (hm : zs.length = m) (h0 : 0 < m) (h1 : m ≤ 1000) t cs (hc : cs = (ints zs).toArray) => pickNew g A n cap bs w0 s zs m hm h0 (by omega) (fun x => True) (fun _ _ => trivial) (t := t) hc)
  have HD := Go.Lib.hid (fun w0 s0 => drawL09 g A n cap bs w0 s0)
  have HST := Go.Lib.hid (fun w0 s0 => drawStayN g A n cap bs w0 s0)
  have HLK := Go.Lib.hid (fun w0 s0 => drawLinksN g A n cap bs w0 s0)
  clear s1 hg b2 B1 E1 HFR
  go_wp2_with fail
  refine (HD.out _ S1.out).mono ?_
  rintro _ w2 ⟨x0, gf, cf, gr, cr, rfl, hf, hr, s2, k2, of, or, hne, lf, lr, uf, ur⟩
  obtain ⟨fs, rs, z⟩ := x0
  obtain ⟨Q, hQ⟩ : ∃ Q, w.heap.size = Q := ⟨_, rfl⟩
  have hst : ∀ t, TrH w1 Q g A n cap bs w2.heap.size gf cf gr cr fs rs z (w2.alloc (.cells #[.slice (some ⟨gf, 0, none⟩) fs.length cf, .slice (some ⟨gr, 0, none⟩) rs.length cr, .int .i64 z] t)) := fun t => by
    have he := HGE.out
    have hg := HG.out
    rw [← hQ]
    exact TrH.make s2 k2 (HB.out.keep k2 (by omega)) of or hne (by omega) (by omega) (by omega) (by omega) (by omega) uf ur
  have HFL := Go.Lib.hid (show 1 ≤ fs.length ∧ fs.length ≤ 4 from hf)
  have HRL := Go.Lib.hid (show rs.length ≤ 11 from hr)
  have HQW := Go.Lib.hid (show w.heap.size ≤ Q from Nat.le_of_eq hQ)
  have HXQ := Go.Lib.hid (show w2.heap.size ≠ Q by have := k2.size; have := HGE.out; have := HG.out; omega)
  unfold trainV
  clear hf hr s2 k2 of or hne lf lr uf ur S1
  go_upto_region 3 with fail
  refine wp_gen (R := fun W => TrH w1 Q g A n cap bs w2.heap.size gf cf gr cr fs rs z W) (hst _) ?_
  rintro W3 ht
  have HT := Go.Lib.hid ht
  clear ht hst HB
  try simp only [hQ]
  generalize w2.heap.size = x at *
  go_wp2_with fail
  refine (HST.out _ HT.out.src).mono ?_
  rintro _ w9 ⟨r9, rfl, -, s9, k9⟩
  have HT := Go.Lib.hid (HT.out.next HG.out s9 k9)
  clear s9 k9
  go_upto_region 4 with fail
  obtain ⟨hc0, hc1, hc2⟩ := HT.out.cells
  refine wp_region_held_drew (S := fun w' => w'.cell? ⟨x, 0, none⟩ = some (.slice (some ⟨gf, 0, none⟩) fs.length cf) ∧ w'.cell? ⟨x, 1, none⟩ = some (.slice (some ⟨gr, 0, none⟩) rs.length cr) ∧ w'.cell? ⟨x, 2, none⟩ = some (.int .i64 z)) (by kernel_rfl) (by exact ⟨hc0, hc1, hc2⟩) (fun hHeld => ?_)
  change wpAnyH _ _ _ _ _ _ _ _ (w9.drewN 1)
  have HTV := Go.Lib.hid (HT.out.below HG.out (below_drewN (Below.refl w9.heap.size w9) 1))
  generalize w9.drewN 1 = V at *
  clear HT hc0 hc1 hc2
  have hHeld2 := HTV.out.cells
  clear hQ
  refine wpAnyH_take (i := 0) (v := ?vf1) rfl (by kernel_rfl) (by kernel_rfl) (by kernel_rfl) (fun _ _ _ h => h) (Or.inl ⟨by rfl, ?hyf1⟩) (by assumption) ?restf1
  case hyf1 => (intro w hSw; (try dsimp only at hSw); go_simp; try with_reducible rfl)
  try simp only [List.getElem_toArray, List.getElem_cons_succ, List.getElem_cons_zero, Act.put, List.setIfInBounds_toArray, List.set_cons_zero, List.set_cons_succ]
  refine wpAnyH_take (i := 1) (v := ?vf2) rfl (by kernel_rfl) (by kernel_rfl) (by kernel_rfl) (fun _ _ _ h => h) (Or.inl ⟨by rfl, ?hyf2⟩) (by assumption) ?restf2
  case hyf2 => (intro w hSw; (try dsimp only at hSw); go_simp; try with_reducible rfl)
  try simp only [List.getElem_toArray, List.getElem_cons_succ, List.getElem_cons_zero, Act.put, List.setIfInBounds_toArray, List.set_cons_zero, List.set_cons_succ]
  refine wpAnyH_take (i := 2) (v := ?vf3) rfl (by kernel_rfl) (by kernel_rfl) (by kernel_rfl) (fun _ _ _ h => h) (Or.inl ⟨by rfl, ?hyf3⟩) (by assumption) ?restf3
  case hyf3 => (intro w hSw; (try dsimp only at hSw); go_simp; try with_reducible rfl)
  try simp only [List.getElem_toArray, List.getElem_cons_succ, List.getElem_cons_zero, Act.put, List.setIfInBounds_toArray, List.set_cons_zero, List.set_cons_succ]
  refine wpAnyH_ready (rs := [3]) (by kernel_rfl) (by simp) ?_
  refine AllReadyH.cons rfl (fun K hK => ?_) AllReadyH.nil
  go_simp
  (go_at_call 54; refine (HLK.out _ HTV.out.src).mono ?_; rintro _ v3 ⟨r3, rfl, -, s3, k3⟩)
  have HTV := Go.Lib.hid (HTV.out.next HG.out s3 k3)
  clear s3 k3
  refine hK.out _ _ ?_ (fun hHeld => ?_)
  · exact HTV.out.cells
  clear hK K
  try simp only [List.getElem_toArray, List.getElem_cons_succ, List.getElem_cons_zero, Act.put, List.setIfInBounds_toArray, List.set_cons_zero, List.set_cons_succ]
  refine wpAnyH_ready (rs := [4]) (by kernel_rfl) (by simp) ?_
  refine AllReadyH.cons rfl (fun K hK => ?_) AllReadyH.nil
  have d0 := HTV.out.res.at_ 0 _ rfl
  have d1 := HTV.out.res.at_ 1 _ rfl
  have d2 := HTV.out.res.at_ 2 _ rfl
  have df := HTV.out.res.fr
  go_simp
  have HRB := Go.Lib.hid (put3_box (a := .slice (some ⟨gf, 0, none⟩) fs.length cf) (b := .slice (some ⟨gr, 0, none⟩) rs.length cr) (c := .int .i64 z) HTV.out.res)
  have HK3 := Go.Lib.hid (put3_keep v3 Q (.slice (some ⟨gf, 0, none⟩) fs.length cf) (.slice (some ⟨gr, 0, none⟩) rs.length cr) (.int .i64 z))
  clear d0 d1 d2 df
  refine hK.out _ _ ?_ (fun hHeld => ?_)
  · exact ⟨(put3_far HXQ.out _ _ _ _ _).trans HTV.out.cells.1, (put3_far HXQ.out _ _ _ _ _).trans HTV.out.cells.2.1, (put3_far HXQ.out _ _ _ _ _).trans HTV.out.cells.2.2⟩
  clear hK K
  try simp only [List.getElem_toArray, List.getElem_cons_succ, List.getElem_cons_zero, Act.put, List.setIfInBounds_toArray, List.set_cons_zero, List.set_cons_succ]
  refine wpAnyH_take (i := 5) (v := ?vf4) rfl (by kernel_rfl) (by kernel_rfl) (by kernel_rfl) (fun _ _ _ h => h) (Or.inl ⟨by rfl, ?hyf4⟩) (by assumption) ?restf4
  case hyf4 => (intro w hSw; (try dsimp only at hSw); go_simp; try with_reducible rfl)
  try simp only [List.getElem_toArray, List.getElem_cons_succ, List.getElem_cons_zero, Act.put, List.setIfInBounds_toArray, List.set_cons_zero, List.set_cons_succ]
  refine wpAnyH_take (i := 6) (v := ?vf5) rfl (by kernel_rfl) (by kernel_rfl) (by kernel_rfl) (fun _ _ _ h => h) (Or.inl ⟨by rfl, ?hyf5⟩) (by assumption) ?restf5
  case hyf5 => (intro w hSw; (try dsimp only at hSw); go_simp; try with_reducible rfl)
  try simp only [List.getElem_toArray, List.getElem_cons_succ, List.getElem_cons_zero, Act.put, List.setIfInBounds_toArray, List.set_cons_zero, List.set_cons_succ]
  refine wpAnyH_done (by kernel_rfl) ?_ _
  change Exit.then _ _ _ _ (put3 v3 Q (.slice (some ⟨gf, 0, none⟩) fs.length cf) (.slice (some ⟨gr, 0, none⟩) rs.length cr) (.int .i64 z))
  generalize put3 v3 Q (.slice (some ⟨gf, 0, none⟩) fs.length cf) (.slice (some ⟨gr, 0, none⟩) rs.length cr) (.int .i64 z) = WE at *
  have e0 := HRB.out.at_ 0 _ rfl
  have e1 := HRB.out.at_ 1 _ rfl
  have e2 := HRB.out.at_ 2 _ rfl
  go_wp2_with fail
  refine bodyPost_ret (v := .tuple #[trainV ⟨fs, rs, z⟩ (some ⟨gf, 0, none⟩) cf (some ⟨gr, 0, none⟩) cr, .int .i64 r9, .int .i64 r3]) (by simp [results, trainV, Try.results62, go_sem, *]) rfl ?_
  have hT := HTV.out
  have hk := HK3.out
  have hqw := HQW.out
  have hge := HGE.out
  have hws := HBW.out.size
  have bF := hk.below (show w.heap.size ≤ Q by omega) (Nat.le_trans hws hT.kp.size)
  have huf := hT.uf
  have hur := hT.ur
  have hlf := hT.lf
  have hlr := hT.lr
  have hqf := hT.qf
  have hqr := hT.qr
  have hse := hk.size
  exact ⟨⟨fs, rs, z⟩, _, cf, _, cr, r9, r3, rfl, hT.trl HFL.out.2 (by have := HRL.out; omega) hk, (HBW.out.trans (hT.kp.below (Nat.le_of_lt hge) hws)).trans bF, (hT.of.keep hk (by omega) (by omega)).rd.mono (by omega) (by omega), (hT.or.keep hk (by omega) (by omega)).rd.mono (by omega) (by omega)⟩
set_option maxRecDepth 100000 in
set_option maxHeartbeats 16000000 in
theorem drawLooseT (A : Option Addr) (n cap : Nat) (bs : List Int) (w : World) (h : Rd w 0 w.heap.size A n (byts bs)) (hs : ∀ z ∈ bs, 0 ≤ z ∧ z ≤ 255) (hn : n ≤ 140737488355328) :
    Calls Try.prog 25 #[.slice A n cap] w (DvT2 w) := by
  have HSL := Go.Lib.hid (fun w0 (b : Below w.heap.size w w0) => drawSlacksT A n cap bs w0 ((h.below b (Nat.le_refl _)).mono (Nat.le_refl _) b.size) hs hn)
  have HFR := Go.Lib.hid (fun w0 (b : Below w.heap.size w w0) => from_ A n cap bs w0 ((h.below b (Nat.le_refl _)).mono (Nat.le_refl _) b.size) hs hn)
  clear h hs hn
  go_enter Try.func25, Try.ntmps25
  go_upto_region 1 with fail
  refine wp_gen (R := fun W => Box W w.heap.size [.slice none 0 0, .slice none 0 0, .int .i64 0] ∧ Below w.heap.size w W ∧ W.heap.size = w.heap.size + 1) ⟨Box.new rfl rfl, by go_grown, by simp⟩ ?_
  rintro W1 ⟨kb, b1, e1⟩
  have HB := Go.Lib.hid kb
  have B1 := Go.Lib.hid b1
  have E1 := Go.Lib.hid e1
  clear kb b1 e1
  go_wp2_with fail
  refine (HFR.out _ B1.out).mono ?_
  rintro _ w1 ⟨g, rfl, hg, s1, b2⟩
  have HB := Go.Lib.hid (HB.out.below b2)
  have HBW := Go.Lib.hid (upB B1.out b2)
  have HGE := Go.Lib.hid (show w.heap.size < g by have := E1.out; omega)
  have HG := Go.Lib.hid s1.lt
  have S1 := Go.Lib.hid s1
  have HN := Go.Lib.hid (fun (m : Int) (w0 : World) (s : Src w0 g A n cap bs) => next g A n cap bs m w0 s)
  have HP := Go.Lib.hid (fun (w0 : World) (s : Src w0 g A n cap bs) (zs : List Int) (m : Nat) (hm : zs.length = m) (h0 : 0 < m) (h1 : m ≤ 1000) t cs (hc : cs = (ints zs).toArray) => pickNew g A n cap bs w0 s zs m hm h0 (by omega) (fun x => True) (fun _ _ => trivial) (t := t) hc)
  have HD := Go.Lib.hid (fun w0 s0 => drawL09 g A n cap bs w0 s0)
  have HST := Go.Lib.hid (fun w0 s0 => drawStayN g A n cap bs w0 s0)
  have HLK := Go.Lib.hid (fun w0 s0 => drawLinksN g A n cap bs w0 s0)
  clear s1 hg b2 B1 E1 HFR
  go_wp2_with fail
  refine (HSL.out _ HBW.out).mono ?_
  rintro _ w2 ⟨x, Ax, cx, Bx, dx, st, lk, rfl, tx, b3, rf, rr⟩
  have HRE := Go.Lib.hid (HB.out.below b3)
  have HS := Go.Lib.hid (S1.out.below b3)
  have HG2 := Go.Lib.hid (Nat.lt_of_lt_of_le HG.out b3.size)
  have HBW := Go.Lib.hid (upB HBW.out b3)
  have HT := Go.Lib.hid tx
  have HF := Go.Lib.hid rf
  have HR := Go.Lib.hid rr
  have HZ2 := Go.Lib.hid (Nat.le_refl w2.heap.size)
  have HQ1 := Go.Lib.hid (show w.heap.size + 1 ≤ w1.heap.size by have := HGE.out; have := HG.out; omega)
  have HXQ := Go.Lib.hid (show ¬ w.heap.size = w2.heap.size by have := HGE.out; have := HG2.out; omega)
  clear b3 tx rf rr S1 HB HSL
  have HX := Go.Lib.hid (boxT_box x Ax cx Bx dx w2)
  have HXB := Go.Lib.hid (boxT_below x Ax cx Bx dx w2)
  have HCH := Go.Lib.hid (fun w0 T0 => specChain x Ax cx Bx dx st w0 T0)
  unfold trainV at *
  go_upto_region 3 with fail
  refine wp_gen (R := fun W => Box W w2.heap.size (trainC x Ax cx Bx dx) ∧ Below w2.heap.size w2 W) ⟨HX.out, HXB.out⟩ ?_
  rintro W3 ⟨hx, hb⟩
  have HX := Go.Lib.hid hx
  have HRE := Go.Lib.hid (HRE.out.below hb)
  have HS := Go.Lib.hid (HS.out.below hb)
  have HBW := Go.Lib.hid (HBW.out.trans (hb.mono HBW.out.size))
  have HT := Go.Lib.hid (HT.out.below hb)
  have HF := Go.Lib.hid (HF.out.below hb HZ2.out)
  have HR := Go.Lib.hid (HR.out.below hb HZ2.out)
  have HZ2 := Go.Lib.hid (Nat.le_trans HZ2.out hb.size)
  clear hx hb HXB
  have hc0 : W3.cell? ⟨w2.heap.size, 0, none⟩ = some (.slice Ax x.f.length cx) := HX.out.at_ 0 _ rfl
  have hc1 : W3.cell? ⟨w2.heap.size, 1, none⟩ = some (.slice Bx x.r.length dx) := HX.out.at_ 1 _ rfl
  have hc2 : W3.cell? ⟨w2.heap.size, 2, none⟩ = some (.int .i64 x.n) := HX.out.at_ 2 _ rfl
  obtain ⟨ow, z, hz⟩ : ∃ ow z, chainR x st = (ow, z) := ⟨_, _, rfl⟩
  rw [hz] at HCH
  clear hz
  go_wp2_with fail
  refine (HCH.out _ HT.out).mono ?_
  rintro _ WV ⟨rfl, b5⟩
  have HX := Go.Lib.hid (HX.out.below b5)
  have HRE := Go.Lib.hid (HRE.out.below b5)
  have HS := Go.Lib.hid (HS.out.below b5)
  have HBW := Go.Lib.hid (HBW.out.trans (b5.mono HBW.out.size))
  have HT := Go.Lib.hid (HT.out.below b5)
  have HF := Go.Lib.hid (HF.out.below b5 HZ2.out)
  have HR := Go.Lib.hid (HR.out.below b5 HZ2.out)
  have HZ2 := Go.Lib.hid (Nat.le_trans HZ2.out b5.size)
  clear b5 hc0 hc1 hc2 HCH
  by_cases hz : z = 0
  case pos =>
    subst hz
    go_wp2_with fail
    refine (HN.out _ _ HS.out).mono ?_
    rintro _ WN ⟨r, rfl, r0, r1, s9, k9⟩
    have hg1 := HG.out
    have hg2 := HG2.out
    have hge := HGE.out
    have hxq := HXQ.out
    have hws := HBW.out.size
    have hq1 := HQ1.out
    have HX := Go.Lib.hid (HX.out.keep k9 (by omega))
    have HRE := Go.Lib.hid (HRE.out.keep k9 (by omega))
    have HBW := Go.Lib.hid (HBW.out.trans (k9.below (Nat.le_of_lt hge) hws))
    have HF := Go.Lib.hid (HF.out.keep k9 HZ2.out (by omega))
    have HR := Go.Lib.hid (HR.out.keep k9 HZ2.out (by omega))
    have HZ2 := Go.Lib.hid (Nat.le_trans HZ2.out k9.size)
    clear s9 k9 hg1 hg2 hge hxq hws hq1 r1
    by_cases hr : 0 < r
    case pos =>
      have d0 := HRE.out.at_ 0 _ rfl
      have d1 := HRE.out.at_ 1 _ rfl
      have d2 := HRE.out.at_ 2 _ rfl
      have df := HRE.out.fr
      have hx0 : WN.cell? ⟨w2.heap.size, 0, none⟩ = some (.slice Ax x.f.length cx) := HX.out.at_ 0 _ rfl
      have hx1 : WN.cell? ⟨w2.heap.size, 1, none⟩ = some (.slice Bx x.r.length dx) := HX.out.at_ 1 _ rfl
      have hx2 : WN.cell? ⟨w2.heap.size, 2, none⟩ = some (.int .i64 x.n) := HX.out.at_ 2 _ rfl
      have hxq : ¬ w2.heap.size = w.heap.size := fun e => HXQ.out e.symm
      have HRB := Go.Lib.hid (put3_box (a := .slice Ax x.f.length cx) (b := .slice Bx x.r.length dx) (c := .int .i64 x.n) HRE.out)
      have HK3 := Go.Lib.hid (put3_keep WN w.heap.size (.slice Ax x.f.length cx) (.slice Bx x.r.length dx) (.int .i64 x.n))
      go_wp2_with fail
      change bodyPost _ _ _ _ _ (put3 WN w.heap.size (.slice Ax x.f.length cx) (.slice Bx x.r.length dx) (.int .i64 x.n))
      generalize put3 WN w.heap.size (.slice Ax x.f.length cx) (.slice Bx x.r.length dx) (.int .i64 x.n) = WE at *
      have e0 := HRB.out.at_ 0 _ rfl
      have e1 := HRB.out.at_ 1 _ rfl
      have e2 := HRB.out.at_ 2 _ rfl
      clear d0 d1 d2 df hx0 hx1 hx2
      refine bodyPost_ret (v := .tuple #[trainV x Ax cx Bx dx, .int .i64 st, .int .i64 ow]) (by simp [results, trainV, Try.results25, go_sem, *]) rfl ?_
      have hb := HBW.out
      have hq1 := HQ1.out
      have hz2 := HZ2.out
      exact ⟨x, Ax, cx, Bx, dx, _, _, rfl, ⟨Ls.of (HF.out.keep HK3.out hz2 (by omega)) HT.out.f.le HT.out.f.few, Ls.of (HR.out.keep HK3.out hz2 (by omega)) HT.out.r.le HT.out.r.few⟩, hb.trans (HK3.out.below (Nat.le_refl _) hb.size)⟩
    case neg =>
      have d0 := HRE.out.at_ 0 _ rfl
      have d1 := HRE.out.at_ 1 _ rfl
      have d2 := HRE.out.at_ 2 _ rfl
      have df := HRE.out.fr
      have hx0 : WN.cell? ⟨w2.heap.size, 0, none⟩ = some (.slice Ax x.f.length cx) := HX.out.at_ 0 _ rfl
      have hx1 : WN.cell? ⟨w2.heap.size, 1, none⟩ = some (.slice Bx x.r.length dx) := HX.out.at_ 1 _ rfl
      have hx2 : WN.cell? ⟨w2.heap.size, 2, none⟩ = some (.int .i64 x.n) := HX.out.at_ 2 _ rfl
      have hxq : ¬ w2.heap.size = w.heap.size := fun e => HXQ.out e.symm
      have HRB := Go.Lib.hid (put3_box (a := .slice Ax x.f.length cx) (b := .slice Bx x.r.length dx) (c := .int .i64 x.n) HRE.out)
      have HK3 := Go.Lib.hid (put3_keep WN w.heap.size (.slice Ax x.f.length cx) (.slice Bx x.r.length dx) (.int .i64 x.n))
      go_wp2_with fail
      change bodyPost _ _ _ _ _ (put3 WN w.heap.size (.slice Ax x.f.length cx) (.slice Bx x.r.length dx) (.int .i64 x.n))
      generalize put3 WN w.heap.size (.slice Ax x.f.length cx) (.slice Bx x.r.length dx) (.int .i64 x.n) = WE at *
      have e0 := HRB.out.at_ 0 _ rfl
      have e1 := HRB.out.at_ 1 _ rfl
      have e2 := HRB.out.at_ 2 _ rfl
      clear d0 d1 d2 df hx0 hx1 hx2
      refine bodyPost_ret (v := .tuple #[trainV x Ax cx Bx dx, .int .i64 st, .int .i64 lk]) (by simp [results, trainV, Try.results25, go_sem, *]) rfl ?_
      have hb := HBW.out
      have hq1 := HQ1.out
      have hz2 := HZ2.out
      exact ⟨x, Ax, cx, Bx, dx, _, _, rfl, ⟨Ls.of (HF.out.keep HK3.out hz2 (by omega)) HT.out.f.le HT.out.f.few, Ls.of (HR.out.keep HK3.out hz2 (by omega)) HT.out.r.le HT.out.r.few⟩, hb.trans (HK3.out.below (Nat.le_refl _) hb.size)⟩
  case neg =>
    have hzb : (z == 0) = false := by simpa using hz
    have d0 := HRE.out.at_ 0 _ rfl
    have d1 := HRE.out.at_ 1 _ rfl
    have d2 := HRE.out.at_ 2 _ rfl
    have df := HRE.out.fr
    have hx0 : WV.cell? ⟨w2.heap.size, 0, none⟩ = some (.slice Ax x.f.length cx) := HX.out.at_ 0 _ rfl
    have hx1 : WV.cell? ⟨w2.heap.size, 1, none⟩ = some (.slice Bx x.r.length dx) := HX.out.at_ 1 _ rfl
    have hx2 : WV.cell? ⟨w2.heap.size, 2, none⟩ = some (.int .i64 x.n) := HX.out.at_ 2 _ rfl
    have hxq : ¬ w2.heap.size = w.heap.size := fun e => HXQ.out e.symm
    have HRB := Go.Lib.hid (put3_box (a := .slice Ax x.f.length cx) (b := .slice Bx x.r.length dx) (c := .int .i64 x.n) HRE.out)
    have HK3 := Go.Lib.hid (put3_keep WV w.heap.size (.slice Ax x.f.length cx) (.slice Bx x.r.length dx) (.int .i64 x.n))
    go_wp2_with fail
    change bodyPost _ _ _ _ _ (put3 WV w.heap.size (.slice Ax x.f.length cx) (.slice Bx x.r.length dx) (.int .i64 x.n))
    generalize put3 WV w.heap.size (.slice Ax x.f.length cx) (.slice Bx x.r.length dx) (.int .i64 x.n) = WE at *
    have e0 := HRB.out.at_ 0 _ rfl
    have e1 := HRB.out.at_ 1 _ rfl
    have e2 := HRB.out.at_ 2 _ rfl
    clear d0 d1 d2 df hx0 hx1 hx2
    refine bodyPost_ret (v := .tuple #[trainV x Ax cx Bx dx, .int .i64 st, .int .i64 lk]) (by simp [results, trainV, Try.results25, go_sem, *]) rfl ?_
    have hb := HBW.out
    have hq1 := HQ1.out
    have hz2 := HZ2.out
    exact ⟨x, Ax, cx, Bx, dx, _, _, rfl, ⟨Ls.of (HF.out.keep HK3.out hz2 (by omega)) HT.out.f.le HT.out.f.few, Ls.of (HR.out.keep HK3.out hz2 (by omega)) HT.out.r.le HT.out.r.few⟩, hb.trans (HK3.out.below (Nat.le_refl _) hb.size)⟩
end Go.Proofs.Ytilepehlmjohbaa
