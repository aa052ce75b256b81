/- Draws of trains, limits and gears. -/
import Derived.Test.YthedanpldebjcaaDrawTr3
namespace Go.Proofs.Ythedanpldebjcaa
open Go.RowKit
set_option linter.unusedSimpArgs false
set_option linter.unusedVariables false

def AnyL (_ : Int) : Prop := True
set_option maxRecDepth 100000 in
set_option maxHeartbeats 8000000 in
theorem drawLimitN (g : Nat) (A : Option Addr) (n cap : Nat) (bs : List Int) (w : World) (h : Src w g A n cap bs) :
    Calls Try.prog 52 #[.pointer (some ⟨g, 0, none⟩)] w (NumEnd w g A n cap bs AnyL) := by
  have HP := Go.Lib.hid (fun (w0 : World) (s : Src w0 g A n cap bs) (zs : List Int) (m : Nat) (hm : zs.length = m) (h0 : 0 < m) (h1 : m ≤ 1000) t cs (hc : cs = (ints zs).toArray) => pickNew g A n cap bs w0 s zs m hm h0 (by omega) (fun x => True) (fun _ _ => trivial) (t := t) hc)
  have HS := Go.Lib.hid h
  have HK := Go.Lib.hid (Keep.refl g (g + 1) w)
  clear h
  go_enter Try.func52, Try.ntmps52
  go_wp2_with fail
  refine (HP.out _ HS.out [-1, 5] 2 rfl (by omega) (by omega) _ _ rfl).mono ?_
  rintro _ v1 ⟨r1, rfl, -, s1, k1⟩
  have HK := Go.Lib.hid (HK.out.trans k1)
  have HS := Go.Lib.hid s1
  clear s1 k1
  go_wp2_with fail
  refine (HP.out _ HS.out [1, 2, 0, 3, 4, 1, 2, r1] 8 rfl (by omega) (by omega) _ _ rfl).mono ?_
  rintro _ v2 ⟨r2, rfl, -, s2, k2⟩
  have HK := Go.Lib.hid (HK.out.trans k2)
  have HS := Go.Lib.hid s2
  clear s2 k2
  go_wp2_with fail
  go_ret
  exact ⟨_, rfl, trivial, HS.out, HK.out⟩
/-- A train in lists of its own, and three numbers. -/
def DvT3n (w : World) (e : Ending) (w' : World) : Prop := ∃ (x : Trn) (A : Option Addr) (c : Nat) (B : Option Addr) (d : Nat) (a b s : Int), e = .returned (.tuple #[trainV x A c B d, .int .i64 a, .int .i64 b, .int .i64 s]) ∧ TrL x A c B d w' ∧ Below w.heap.size w w' ∧ Rd w' w.heap.size w'.heap.size A x.f.length (ints x.f) ∧ Rd w' w.heap.size w'.heap.size B x.r.length (ints x.r)
set_option maxRecDepth 100000 in
set_option maxHeartbeats 16000000 in
theorem drawIsCrossed (A : Option Addr) (n cap : Nat) (bs : List Int) (w : World) (h : Rd w 0 w.heap.size A n (byts bs)) (hs : ∀ z ∈ bs, 0 ≤ z ∧ z ≤ 255) (hn : n ≤ 140737488355328) :
    Calls Try.prog 60 #[.slice A n cap] w (DvT3n w) := by
  have HFR := Go.Lib.hid (fun w0 (b : Below w.heap.size w w0) => from_ A n cap bs w0 ((h.below b (Nat.le_refl _)).mono (Nat.le_refl _) b.size) hs hn)
  clear h hs hn
  go_enter Try.func60, Try.ntmps60
  go_upto_region 1 with fail
  refine wp_gen (R := fun W => Box W w.heap.size [.slice none 0 0, .slice none 0 0, .int .i64 0] ∧ Below w.heap.size w W ∧ W.heap.size = w.heap.size + 1) ⟨Box.new rfl rfl, by go_grown, by simp⟩ ?_
  rintro W1 ⟨kb, b1, e1⟩
  have HB := Go.Lib.hid kb
  have B1 := Go.Lib.hid b1
  have E1 := Go.Lib.hid e1
  clear kb b1 e1
  go_wp2_with fail
  refine (HFR.out _ B1.out).mono ?_
  rintro _ w1 ⟨g, rfl, hg, s1, b2⟩
  have HB := Go.Lib.hid (HB.out.below b2)
  have HBW := Go.Lib.hid (upB B1.out b2)
  have HGE := Go.Lib.hid (show w.heap.size < g by have := E1.out; omega)
  have HG := Go.Lib.hid s1.lt
  have S1 := Go.Lib.hid s1
  have HN := Go.Lib.hid (fun (m : Int) (w0 : World) (s : Src w0 g A n cap bs) => next g A n cap bs m w0 s)
  have HP := Go.Lib.hid (fun (w0 : World) (s : Src w0 g A n cap bs) (zs : List Int) (m : Nat) (hm : zs.length = m) (h0 : 0 < m) (h1 : m ≤ 1000) t cs (hc : cs = (ints zs).toArray) => pickNew g A n cap bs w0 s zs m hm h0 (by omega) (fun x => True) (fun _ _ => trivial) (t := t) hc)
  have HD := Go.Lib.hid (fun w0 s0 => drawL09 g A n cap bs w0 s0)
  have HLM := Go.Lib.hid (fun w0 s0 => drawLimitN g A n cap bs w0 s0)
  have HSO := Go.Lib.hid (fun w0 s0 => drawSome g A n cap bs w0 s0)
  clear s1 hg b2 B1 E1 HFR
  go_wp2_with fail
  refine (HSO.out _ S1.out).mono ?_
  rintro _ w2 ⟨x0, gf, cf, gr, cr, a, b, rfl, hf, hr, s2, k2, of, or, hne, lf, lr, uf, ur⟩
  obtain ⟨fs, rs, z⟩ := x0
  obtain ⟨Q, hQ⟩ : ∃ Q, w.heap.size = Q := ⟨_, rfl⟩
  have hst : ∀ t, TrH w1 Q g A n cap bs w2.heap.size gf cf gr cr fs rs z (w2.alloc (.cells #[.slice (some ⟨gf, 0, none⟩) fs.length cf, .slice (some ⟨gr, 0, none⟩) rs.length cr, .int .i64 z] t)) := fun t => by
    have he := HGE.out
    have hg := HG.out
    rw [← hQ]
    exact TrH.make s2 k2 (HB.out.keep k2 (by omega)) of or hne (by omega) (by omega) (by omega) (by omega) (by omega) uf ur
  have HFL := Go.Lib.hid (show 1 ≤ fs.length ∧ fs.length ≤ 4 from hf)
  have HRL := Go.Lib.hid (show rs.length ≤ 11 from hr)
  have HQW := Go.Lib.hid (show w.heap.size ≤ Q from Nat.le_of_eq hQ)
  have HXQ := Go.Lib.hid (show w2.heap.size ≠ Q by have := k2.size; have := HGE.out; have := HG.out; omega)
  unfold trainV
  clear hf hr s2 k2 of or hne lf lr uf ur S1
  go_upto_region 3 with fail
  refine wp_gen (R := fun W => TrH w1 Q g A n cap bs w2.heap.size gf cf gr cr fs rs z W) (hst _) ?_
  rintro W3 ht
  have HT := Go.Lib.hid ht
  clear ht hst HB
  try simp only [hQ]
  generalize w2.heap.size = x at *
  obtain ⟨hc0, hc1, hc2⟩ := HT.out.cells
  refine wp_region_held_drew (S := fun w' => w'.cell? ⟨x, 0, none⟩ = some (.slice (some ⟨gf, 0, none⟩) fs.length cf) ∧ w'.cell? ⟨x, 1, none⟩ = some (.slice (some ⟨gr, 0, none⟩) rs.length cr) ∧ w'.cell? ⟨x, 2, none⟩ = some (.int .i64 z)) (by kernel_rfl) (by exact ⟨hc0, hc1, hc2⟩) (fun hHeld => ?_)
  change wpAnyH _ _ _ _ _ _ _ _ (W3.drewN 1)
  have HTV := Go.Lib.hid (HT.out.below HG.out (below_drewN (Below.refl W3.heap.size W3) 1))
  generalize W3.drewN 1 = V at *
  clear HT hc0 hc1 hc2
  have hHeld2 := HTV.out.cells
  clear hQ
  refine wpAnyH_take (i := 0) (v := ?va1) rfl (by kernel_rfl) (by kernel_rfl) (by kernel_rfl) (fun _ _ _ h => h) (Or.inl ⟨by rfl, ?hya1⟩) (by assumption) ?resta1
  case hya1 => (intro w hSw; (try dsimp only at hSw); go_simp; try with_reducible rfl)
  try simp only [List.getElem_toArray, List.getElem_cons_succ, List.getElem_cons_zero, Act.put, List.setIfInBounds_toArray, List.set_cons_zero, List.set_cons_succ]
  refine wpAnyH_take (i := 1) (v := ?va2) rfl (by kernel_rfl) (by kernel_rfl) (by kernel_rfl) (fun _ _ _ h => h) (Or.inl ⟨by rfl, ?hya2⟩) (by assumption) ?resta2
  case hya2 => (intro w hSw; (try dsimp only at hSw); go_simp; try with_reducible rfl)
  try simp only [List.getElem_toArray, List.getElem_cons_succ, List.getElem_cons_zero, Act.put, List.setIfInBounds_toArray, List.set_cons_zero, List.set_cons_succ]
  refine wpAnyH_take (i := 3) (v := ?va3) rfl (by kernel_rfl) (by kernel_rfl) (by kernel_rfl) (fun _ _ _ h => h) (Or.inl ⟨by rfl, ?hya3⟩) (by assumption) ?resta3
  case hya3 => (intro w hSw; (try dsimp only at hSw); go_simp; try with_reducible rfl)
  try simp only [List.getElem_toArray, List.getElem_cons_succ, List.getElem_cons_zero, Act.put, List.setIfInBounds_toArray, List.set_cons_zero, List.set_cons_succ]
  refine wpAnyH_take (i := 4) (v := ?va4) rfl (by kernel_rfl) (by kernel_rfl) (by kernel_rfl) (fun _ _ _ h => h) (Or.inl ⟨by rfl, ?hya4⟩) (by assumption) ?resta4
  case hya4 => (intro w hSw; (try dsimp only at hSw); go_simp; try with_reducible rfl)
  try simp only [List.getElem_toArray, List.getElem_cons_succ, List.getElem_cons_zero, Act.put, List.setIfInBounds_toArray, List.set_cons_zero, List.set_cons_succ]
  refine wpAnyH_ready (rs := [2]) (by kernel_rfl) (by simp) ?_
  refine AllReadyH.cons rfl (fun K hK => ?_) AllReadyH.nil
  go_simp
  (go_at_call 52; refine (HLM.out _ HTV.out.src).mono ?_; rintro _ v2 ⟨r2, rfl, -, s2, k2⟩)
  have HTV := Go.Lib.hid (HTV.out.next HG.out s2 k2)
  clear s2 k2
  refine hK.out _ _ ?_ (fun hHeld => ?_)
  · exact HTV.out.cells
  clear hK K
  try simp only [List.getElem_toArray, List.getElem_cons_succ, List.getElem_cons_zero, Act.put, List.setIfInBounds_toArray, List.set_cons_zero, List.set_cons_succ]
  refine wpAnyH_ready (rs := [5]) (by kernel_rfl) (by simp) ?_
  refine AllReadyH.cons rfl (fun K hK => ?_) AllReadyH.nil
  have d0 := HTV.out.res.at_ 0 _ rfl
  have d1 := HTV.out.res.at_ 1 _ rfl
  have d2 := HTV.out.res.at_ 2 _ rfl
  have df := HTV.out.res.fr
  go_simp
  have HRB := Go.Lib.hid (put3_box (a := .slice (some ⟨gf, 0, none⟩) fs.length cf) (b := .slice (some ⟨gr, 0, none⟩) rs.length cr) (c := .int .i64 z) HTV.out.res)
  have HK3 := Go.Lib.hid (put3_keep v2 Q (.slice (some ⟨gf, 0, none⟩) fs.length cf) (.slice (some ⟨gr, 0, none⟩) rs.length cr) (.int .i64 z))
  clear d0 d1 d2 df
  refine hK.out _ _ ?_ (fun hHeld => ?_)
  · exact ⟨(put3_far HXQ.out _ _ _ _ _).trans HTV.out.cells.1, (put3_far HXQ.out _ _ _ _ _).trans HTV.out.cells.2.1, (put3_far HXQ.out _ _ _ _ _).trans HTV.out.cells.2.2⟩
  clear hK K
  try simp only [List.getElem_toArray, List.getElem_cons_succ, List.getElem_cons_zero, Act.put, List.setIfInBounds_toArray, List.set_cons_zero, List.set_cons_succ]
  refine wpAnyH_take (i := 6) (v := ?va5) rfl (by kernel_rfl) (by kernel_rfl) (by kernel_rfl) (fun _ _ _ h => h) (Or.inl ⟨by rfl, ?hya5⟩) (by assumption) ?resta5
  case hya5 => (intro w hSw; (try dsimp only at hSw); go_simp; try with_reducible rfl)
  try simp only [List.getElem_toArray, List.getElem_cons_succ, List.getElem_cons_zero, Act.put, List.setIfInBounds_toArray, List.set_cons_zero, List.set_cons_succ]
  refine wpAnyH_take (i := 7) (v := ?va6) rfl (by kernel_rfl) (by kernel_rfl) (by kernel_rfl) (fun _ _ _ h => h) (Or.inl ⟨by rfl, ?hya6⟩) (by assumption) ?resta6
  case hya6 => (intro w hSw; (try dsimp only at hSw); go_simp; try with_reducible rfl)
  try simp only [List.getElem_toArray, List.getElem_cons_succ, List.getElem_cons_zero, Act.put, List.setIfInBounds_toArray, List.set_cons_zero, List.set_cons_succ]
  refine wpAnyH_take (i := 8) (v := ?va7) rfl (by kernel_rfl) (by kernel_rfl) (by kernel_rfl) (fun _ _ _ h => h) (Or.inl ⟨by rfl, ?hya7⟩) (by assumption) ?resta7
  case hya7 => (intro w hSw; (try dsimp only at hSw); go_simp; try with_reducible rfl)
  try simp only [List.getElem_toArray, List.getElem_cons_succ, List.getElem_cons_zero, Act.put, List.setIfInBounds_toArray, List.set_cons_zero, List.set_cons_succ]
  refine wpAnyH_done (by kernel_rfl) ?_ _
  change Exit.then _ _ _ _ (put3 v2 Q (.slice (some ⟨gf, 0, none⟩) fs.length cf) (.slice (some ⟨gr, 0, none⟩) rs.length cr) (.int .i64 z))
  generalize put3 v2 Q (.slice (some ⟨gf, 0, none⟩) fs.length cf) (.slice (some ⟨gr, 0, none⟩) rs.length cr) (.int .i64 z) = WE at *
  have e0 := HRB.out.at_ 0 _ rfl
  have e1 := HRB.out.at_ 1 _ rfl
  have e2 := HRB.out.at_ 2 _ rfl
  go_wp2_with fail
  refine bodyPost_ret (v := .tuple #[trainV ⟨fs, rs, z⟩ (some ⟨gf, 0, none⟩) cf (some ⟨gr, 0, none⟩) cr, .int .i64 r2, .int .i64 a, .int .i64 b]) (by simp [results, trainV, Try.results60, go_sem, *]) rfl ?_
  have hT := HTV.out
  have hk := HK3.out
  have hqw := HQW.out
  have hge := HGE.out
  have hws := HBW.out.size
  have bF := hk.below (show w.heap.size ≤ Q by omega) (Nat.le_trans hws hT.kp.size)
  have huf := hT.uf
  have hur := hT.ur
  have hlf := hT.lf
  have hlr := hT.lr
  have hqf := hT.qf
  have hqr := hT.qr
  have hse := hk.size
  exact ⟨⟨fs, rs, z⟩, _, cf, _, cr, r2, a, b, rfl, hT.trl HFL.out.2 (by have := HRL.out; omega) hk, (HBW.out.trans (hT.kp.below (Nat.le_of_lt hge) hws)).trans bF, (hT.of.keep hk (by omega) (by omega)).rd.mono (by omega) (by omega), (hT.or.keep hk (by omega) (by omega)).rd.mono (by omega) (by omega)⟩
set_option maxRecDepth 100000 in
set_option maxHeartbeats 8000000 in
theorem drawReach (A : Option Addr) (n cap : Nat) (bs : List Int) (w : World) (h : Rd w 0 w.heap.size A n (byts bs)) (hs : ∀ z ∈ bs, 0 ≤ z ∧ z ≤ 255) (hn : n ≤ 140737488355328) :
    Calls Try.prog 23 #[.slice A n cap] w (DvT3 w) := by
  have HSL := Go.Lib.hid (fun w0 (b : Below w.heap.size w w0) => drawIsCrossed A n cap bs w0 ((h.below b (Nat.le_refl _)).mono (Nat.le_refl _) b.size) hs hn)
  clear h hs hn
  go_enter Try.func23, Try.ntmps23
  go_upto_region 1 with fail
  refine wp_gen (R := fun W => Box W w.heap.size [.slice none 0 0, .slice none 0 0, .int .i64 0] ∧ Below w.heap.size w W ∧ W.heap.size = w.heap.size + 1) ⟨Box.new rfl rfl, by go_grown, by simp⟩ ?_
  rintro W1 ⟨kb, b1, e1⟩
  have HB := Go.Lib.hid kb
  have B1 := Go.Lib.hid b1
  have E1 := Go.Lib.hid e1
  clear kb b1 e1
  go_wp2_with fail
  refine (HSL.out _ B1.out).mono ?_
  rintro _ w2 ⟨x, Ax, cx, Bx, dx, lm, f, r, rfl, tx, b3, rf, rr⟩
  have HRE := Go.Lib.hid (HB.out.below b3)
  have HBW := Go.Lib.hid (upB B1.out b3)
  have HT := Go.Lib.hid tx
  have HF := Go.Lib.hid rf
  have HR := Go.Lib.hid rr
  clear b3 tx rf rr HB HSL B1
  unfold trainV at *
  have d0 := HRE.out.at_ 0 _ rfl
  have d1 := HRE.out.at_ 1 _ rfl
  have d2 := HRE.out.at_ 2 _ rfl
  have df := HRE.out.fr
  have HRB := Go.Lib.hid (put3_box (a := .slice Ax x.f.length cx) (b := .slice Bx x.r.length dx) (c := .int .i64 x.n) HRE.out)
  have HK3 := Go.Lib.hid (put3_keep w2 w.heap.size (.slice Ax x.f.length cx) (.slice Bx x.r.length dx) (.int .i64 x.n))
  go_wp2_with fail
  change bodyPost _ _ _ _ _ (put3 w2 w.heap.size (.slice Ax x.f.length cx) (.slice Bx x.r.length dx) (.int .i64 x.n))
  generalize put3 w2 w.heap.size (.slice Ax x.f.length cx) (.slice Bx x.r.length dx) (.int .i64 x.n) = WE at *
  have e0 := HRB.out.at_ 0 _ rfl
  have e1 := HRB.out.at_ 1 _ rfl
  have e2 := HRB.out.at_ 2 _ rfl
  clear d0 d1 d2 df
  refine bodyPost_ret (v := .tuple #[trainV x Ax cx Bx dx, .int .i64 lm, .int .i64 f, .int .i64 r]) (by simp [results, trainV, Try.results23, go_sem, *]) rfl ?_
  have hb := HBW.out
  have he := E1.out
  exact ⟨x, Ax, cx, Bx, dx, _, _, _, rfl, ⟨Ls.of (HF.out.keep HK3.out (Nat.le_refl _) (by omega)) HT.out.f.le HT.out.f.few, Ls.of (HR.out.keep HK3.out (Nat.le_refl _) (by omega)) HT.out.r.le HT.out.r.few⟩, hb.trans (HK3.out.below (Nat.le_refl _) hb.size)⟩
def DvT5 (w : World) (e : Ending) (w' : World) : Prop := ∃ (x : Trn) (A : Option Addr) (c : Nat) (B : Option Addr) (d : Nat) (a b s t u : Int), e = .returned (.tuple #[trainV x A c B d, .int .i64 a, .int .i64 b, .int .i64 s, .int .i64 t, .int .i64 u]) ∧ TrL x A c B d w' ∧ Below w.heap.size w w'
set_option maxRecDepth 100000 in
set_option maxHeartbeats 16000000 in
theorem drawShortest (A : Option Addr) (n cap : Nat) (bs : List Int) (w : World) (h : Rd w 0 w.heap.size A n (byts bs)) (hs : ∀ z ∈ bs, 0 ≤ z ∧ z ≤ 255) (hn : n ≤ 140737488355328) :
    Calls Try.prog 15 #[.slice A n cap] w (DvT5 w) := by
  have HFR := Go.Lib.hid (fun w0 (b : Below w.heap.size w w0) => from_ A n cap bs w0 ((h.below b (Nat.le_refl _)).mono (Nat.le_refl _) b.size) hs hn)
  clear h hs hn
  go_enter Try.func15, Try.ntmps15
  go_upto_region 1 with fail
  refine wp_gen (R := fun W => Box W w.heap.size [.slice none 0 0, .slice none 0 0, .int .i64 0] ∧ Below w.heap.size w W ∧ W.heap.size = w.heap.size + 1) ⟨Box.new rfl rfl, by go_grown, by simp⟩ ?_
  rintro W1 ⟨kb, b1, e1⟩
  have HB := Go.Lib.hid kb
  have B1 := Go.Lib.hid b1
  have E1 := Go.Lib.hid e1
  clear kb b1 e1
  go_wp2_with fail
  refine (HFR.out _ B1.out).mono ?_
  rintro _ w1 ⟨g, rfl, hg, s1, b2⟩
  have HB := Go.Lib.hid (HB.out.below b2)
  have HBW := Go.Lib.hid (upB B1.out b2)
  have HGE := Go.Lib.hid (show w.heap.size < g by have := E1.out; omega)
  have HG := Go.Lib.hid s1.lt
  have S1 := Go.Lib.hid s1
  have HN := Go.Lib.hid (fun (m : Int) (w0 : World) (s : Src w0 g A n cap bs) => next g A n cap bs m w0 s)
  have HP := Go.Lib.hid (fun (w0 : World) (s : Src w0 g A n cap bs) (zs : List Int) (m : Nat) (hm : zs.length = m) (h0 : 0 < m) (h1 : m ≤ 1000) t cs (hc : cs = (ints zs).toArray) => pickNew g A n cap bs w0 s zs m hm h0 (by omega) (fun x => True) (fun _ _ => trivial) (t := t) hc)
  have HD := Go.Lib.hid (fun w0 s0 => drawL09 g A n cap bs w0 s0)
  have HLM := Go.Lib.hid (fun w0 s0 => drawLimitN g A n cap bs w0 s0)
  have HSO := Go.Lib.hid (fun w0 s0 => drawSome g A n cap bs w0 s0)
  clear s1 hg b2 B1 E1 HFR
  go_wp2_with fail
  refine (HSO.out _ S1.out).mono ?_
  rintro _ w2 ⟨x0, gf, cf, gr, cr, a, b, rfl, hf, hr, s2, k2, of, or, hne, lf, lr, uf, ur⟩
  obtain ⟨fs, rs, z⟩ := x0
  obtain ⟨Q, hQ⟩ : ∃ Q, w.heap.size = Q := ⟨_, rfl⟩
  have hst : ∀ t, TrH w1 Q g A n cap bs w2.heap.size gf cf gr cr fs rs z (w2.alloc (.cells #[.slice (some ⟨gf, 0, none⟩) fs.length cf, .slice (some ⟨gr, 0, none⟩) rs.length cr, .int .i64 z] t)) := fun t => by
    have he := HGE.out
    have hg := HG.out
    rw [← hQ]
    exact TrH.make s2 k2 (HB.out.keep k2 (by omega)) of or hne (by omega) (by omega) (by omega) (by omega) (by omega) uf ur
  have HFL := Go.Lib.hid (show 1 ≤ fs.length ∧ fs.length ≤ 4 from hf)
  have HRL := Go.Lib.hid (show rs.length ≤ 11 from hr)
  have HQW := Go.Lib.hid (show w.heap.size ≤ Q from Nat.le_of_eq hQ)
  have HXQ := Go.Lib.hid (show w2.heap.size ≠ Q by have := k2.size; have := HGE.out; have := HG.out; omega)
  unfold trainV
  clear hf hr s2 k2 of or hne lf lr uf ur S1
  go_upto_region 3 with fail
  refine wp_gen (R := fun W => TrH w1 Q g A n cap bs w2.heap.size gf cf gr cr fs rs z W) (hst _) ?_
  rintro W3 ht
  have HT := Go.Lib.hid ht
  clear ht hst HB
  try simp only [hQ]
  generalize w2.heap.size = x at *
  go_wp2_with fail
  refine (HLM.out _ HT.out.src).mono ?_
  rintro _ w9 ⟨rl, rfl, -, s9, k9⟩
  have HT := Go.Lib.hid (HT.out.next HG.out s9 k9)
  clear s9 k9
  go_upto_region 4 with fail
  obtain ⟨hc0, hc1, hc2⟩ := HT.out.cells
  refine wp_region_held_drew (S := fun w' => w'.cell? ⟨x, 0, none⟩ = some (.slice (some ⟨gf, 0, none⟩) fs.length cf) ∧ w'.cell? ⟨x, 1, none⟩ = some (.slice (some ⟨gr, 0, none⟩) rs.length cr) ∧ w'.cell? ⟨x, 2, none⟩ = some (.int .i64 z)) (by kernel_rfl) (by exact ⟨hc0, hc1, hc2⟩) (fun hHeld => ?_)
  change wpAnyH _ _ _ _ _ _ _ _ (w9.drewN 1)
  have HTV := Go.Lib.hid (HT.out.below HG.out (below_drewN (Below.refl w9.heap.size w9) 1))
  generalize w9.drewN 1 = V at *
  clear HT hc0 hc1 hc2
  have hHeld2 := HTV.out.cells
  clear hQ
  refine wpAnyH_take (i := 0) (v := ?vs1) rfl (by kernel_rfl) (by kernel_rfl) (by kernel_rfl) (fun _ _ _ h => h) (Or.inl ⟨by rfl, ?hys1⟩) (by assumption) ?rests1
  case hys1 => (intro w hSw; (try dsimp only at hSw); go_simp; try with_reducible rfl)
  try simp only [List.getElem_toArray, List.getElem_cons_succ, List.getElem_cons_zero, Act.put, List.setIfInBounds_toArray, List.set_cons_zero, List.set_cons_succ]
  refine wpAnyH_take (i := 1) (v := ?vs2) rfl (by kernel_rfl) (by kernel_rfl) (by kernel_rfl) (fun _ _ _ h => h) (Or.inl ⟨by rfl, ?hys2⟩) (by assumption) ?rests2
  case hys2 => (intro w hSw; (try dsimp only at hSw); go_simp; try with_reducible rfl)
  try simp only [List.getElem_toArray, List.getElem_cons_succ, List.getElem_cons_zero, Act.put, List.setIfInBounds_toArray, List.set_cons_zero, List.set_cons_succ]
  refine wpAnyH_take (i := 2) (v := ?vs3) rfl (by kernel_rfl) (by kernel_rfl) (by kernel_rfl) (fun _ _ _ h => h) (Or.inl ⟨by rfl, ?hys3⟩) (by assumption) ?rests3
  case hys3 => (intro w hSw; (try dsimp only at hSw); go_simp; try with_reducible rfl)
  try simp only [List.getElem_toArray, List.getElem_cons_succ, List.getElem_cons_zero, Act.put, List.setIfInBounds_toArray, List.set_cons_zero, List.set_cons_succ]
  refine wpAnyH_take (i := 3) (v := ?vs4) rfl (by kernel_rfl) (by kernel_rfl) (by kernel_rfl) (fun _ _ _ h => h) (Or.inl ⟨by rfl, ?hys4⟩) (by assumption) ?rests4
  case hys4 => (intro w hSw; (try dsimp only at hSw); go_simp; try with_reducible rfl)
  try simp only [List.getElem_toArray, List.getElem_cons_succ, List.getElem_cons_zero, Act.put, List.setIfInBounds_toArray, List.set_cons_zero, List.set_cons_succ]
  refine wpAnyH_take (i := 4) (v := ?vs5) rfl (by kernel_rfl) (by kernel_rfl) (by kernel_rfl) (fun _ _ _ h => h) (Or.inl ⟨by rfl, ?hys5⟩) (by assumption) ?rests5
  case hys5 => (intro w hSw; (try dsimp only at hSw); go_simp; try with_reducible rfl)
  try simp only [List.getElem_toArray, List.getElem_cons_succ, List.getElem_cons_zero, Act.put, List.setIfInBounds_toArray, List.set_cons_zero, List.set_cons_succ]
  refine wpAnyH_take (i := 5) (v := ?vs6) rfl (by kernel_rfl) (by kernel_rfl) (by kernel_rfl) (fun _ _ _ h => h) (Or.inl ⟨by rfl, ?hys6⟩) (by assumption) ?rests6
  case hys6 => (intro w hSw; (try dsimp only at hSw); go_simp; try with_reducible rfl)
  try simp only [List.getElem_toArray, List.getElem_cons_succ, List.getElem_cons_zero, Act.put, List.setIfInBounds_toArray, List.set_cons_zero, List.set_cons_succ]
  refine wpAnyH_take (i := 6) (v := ?vs7) rfl (by kernel_rfl) (by kernel_rfl) (by kernel_rfl) (fun _ _ _ h => h) (Or.inl ⟨by rfl, ?hys7⟩) (by assumption) ?rests7
  case hys7 => (intro w hSw; (try dsimp only at hSw); go_simp; try with_reducible rfl)
  try simp only [List.getElem_toArray, List.getElem_cons_succ, List.getElem_cons_zero, Act.put, List.setIfInBounds_toArray, List.set_cons_zero, List.set_cons_succ]
  refine wpAnyH_take (i := 7) (v := ?vs8) rfl (by kernel_rfl) (by kernel_rfl) (by kernel_rfl) (fun _ _ _ h => h) (Or.inl ⟨by rfl, ?hys8⟩) (by assumption) ?rests8
  case hys8 => (intro w hSw; (try dsimp only at hSw); go_simp; try with_reducible rfl)
  try simp only [List.getElem_toArray, List.getElem_cons_succ, List.getElem_cons_zero, Act.put, List.setIfInBounds_toArray, List.set_cons_zero, List.set_cons_succ]
  refine wpAnyH_take (i := 8) (v := ?vs9) rfl (by kernel_rfl) (by kernel_rfl) (by kernel_rfl) (fun _ _ _ h => h) (Or.inl ⟨by rfl, ?hys9⟩) (by assumption) ?rests9
  case hys9 => (intro w hSw; (try dsimp only at hSw); go_simp; try with_reducible rfl)
  try simp only [List.getElem_toArray, List.getElem_cons_succ, List.getElem_cons_zero, Act.put, List.setIfInBounds_toArray, List.set_cons_zero, List.set_cons_succ]
  refine wpAnyH_take (i := 13) (v := ?vs10) rfl (by kernel_rfl) (by kernel_rfl) (by kernel_rfl) (fun _ _ _ h => h) (Or.inl ⟨by rfl, ?hys10⟩) (by assumption) ?rests10
  case hys10 => (intro w hSw; (try dsimp only at hSw); go_simp; try with_reducible rfl)
  try simp only [List.getElem_toArray, List.getElem_cons_succ, List.getElem_cons_zero, Act.put, List.setIfInBounds_toArray, List.set_cons_zero, List.set_cons_succ]
  refine wpAnyH_take (i := 14) (v := ?vs11) rfl (by kernel_rfl) (by kernel_rfl) (by kernel_rfl) (fun _ _ _ h => h) (Or.inl ⟨by rfl, ?hys11⟩) (by assumption) ?rests11
  case hys11 => (intro w hSw; (try dsimp only at hSw); go_simp; try with_reducible rfl)
  try simp only [List.getElem_toArray, List.getElem_cons_succ, List.getElem_cons_zero, Act.put, List.setIfInBounds_toArray, List.set_cons_zero, List.set_cons_succ]
  refine wpAnyH_take (i := 15) (v := ?vs12) rfl (by kernel_rfl) (by kernel_rfl) (by kernel_rfl) (fun _ _ _ h => h) (Or.inl ⟨by rfl, ?hys12⟩) (by assumption) ?rests12
  case hys12 => (intro w hSw; (try dsimp only at hSw); go_simp; try with_reducible rfl)
  try simp only [List.getElem_toArray, List.getElem_cons_succ, List.getElem_cons_zero, Act.put, List.setIfInBounds_toArray, List.set_cons_zero, List.set_cons_succ]
  refine wpAnyH_take (i := 16) (v := ?vs13) rfl (by kernel_rfl) (by kernel_rfl) (by kernel_rfl) (fun _ _ _ h => h) (Or.inl ⟨by rfl, ?hys13⟩) (by assumption) ?rests13
  case hys13 => (intro w hSw; (try dsimp only at hSw); go_simp; try with_reducible rfl)
  try simp only [List.getElem_toArray, List.getElem_cons_succ, List.getElem_cons_zero, Act.put, List.setIfInBounds_toArray, List.set_cons_zero, List.set_cons_succ]
  refine wpAnyH_take (i := 17) (v := ?vs14) rfl (by kernel_rfl) (by kernel_rfl) (by kernel_rfl) (fun _ _ _ h => h) (Or.inl ⟨by rfl, ?hys14⟩) (by assumption) ?rests14
  case hys14 => (intro w hSw; (try dsimp only at hSw); go_simp; try with_reducible rfl)
  try simp only [List.getElem_toArray, List.getElem_cons_succ, List.getElem_cons_zero, Act.put, List.setIfInBounds_toArray, List.set_cons_zero, List.set_cons_succ]
  refine wpAnyH_ready (rs := [9]) (by kernel_rfl) (by simp) ?_
  refine AllReadyH.cons rfl (fun K hK => ?_) AllReadyH.nil
  go_simp
  (go_at_call 53; refine (HN.out _ _ HTV.out.src).mono ?_; rintro _ v9 ⟨r9, rfl, p9, m9, s9, k9⟩)
  have HTV := Go.Lib.hid (HTV.out.next HG.out s9 k9)
  clear s9 k9
  have q9 : r9.tdiv 11 = r9 / 11 := Int.tdiv_eq_ediv_of_nonneg p9
  have t9 : IntKind.i64.wrap (r9 / 11) = r9 / 11 := IntWalk.i64_in _ (by omega)
  have u9 : IntKind.i64.wrap ((fs.length : Int) + r9 / 11) = (fs.length : Int) + r9 / 11 := IntWalk.i64_in _ (by have := HFL.out; have := HRL.out; omega)
  refine hK.out _ _ ?_ (fun hHeld => ?_)
  · exact HTV.out.cells
  clear hK K
  try simp only [List.getElem_toArray, List.getElem_cons_succ, List.getElem_cons_zero, Act.put, List.setIfInBounds_toArray, List.set_cons_zero, List.set_cons_succ]
  refine wpAnyH_take (i := 10) (v := ?vs15) rfl (by kernel_rfl) (by kernel_rfl) (by kernel_rfl) (fun _ _ _ h => h) (Or.inl ⟨by rfl, ?hys15⟩) (by assumption) ?rests15
  case hys15 => (intro w hSw; (try dsimp only at hSw); go_simp; try with_reducible rfl)
  try simp only [List.getElem_toArray, List.getElem_cons_succ, List.getElem_cons_zero, Act.put, List.setIfInBounds_toArray, List.set_cons_zero, List.set_cons_succ]
  refine wpAnyH_take (i := 11) (v := ?vs16) rfl (by kernel_rfl) (by kernel_rfl) (by kernel_rfl) (fun _ _ _ h => h) (Or.inl ⟨by rfl, ?hys16⟩) (by assumption) ?rests16
  case hys16 => (intro w hSw; (try dsimp only at hSw); go_simp; try with_reducible rfl)
  try simp only [List.getElem_toArray, List.getElem_cons_succ, List.getElem_cons_zero, Act.put, List.setIfInBounds_toArray, List.set_cons_zero, List.set_cons_succ]
  refine wpAnyH_ready (rs := [12]) (by kernel_rfl) (by simp) ?_
  refine AllReadyH.cons rfl (fun K hK => ?_) AllReadyH.nil
  go_simp
  (go_at_call 53; refine (HN.out _ _ HTV.out.src).mono ?_; rintro _ v12 ⟨r12, rfl, p12, m12, s12, k12⟩)
  have HTV := Go.Lib.hid (HTV.out.next HG.out s12 k12)
  clear s12 k12
  refine hK.out _ _ ?_ (fun hHeld => ?_)
  · exact HTV.out.cells
  clear hK K
  try simp only [List.getElem_toArray, List.getElem_cons_succ, List.getElem_cons_zero, Act.put, List.setIfInBounds_toArray, List.set_cons_zero, List.set_cons_succ]
  refine wpAnyH_ready (rs := [18]) (by kernel_rfl) (by simp) ?_
  refine AllReadyH.cons rfl (fun K hK => ?_) AllReadyH.nil
  go_simp
  (go_at_call 53; refine (HN.out _ _ HTV.out.src).mono ?_; rintro _ v18 ⟨r18, rfl, p18, m18, s18, k18⟩)
  have HTV := Go.Lib.hid (HTV.out.next HG.out s18 k18)
  clear s18 k18
  have q18 : r18.tdiv 11 = r18 / 11 := Int.tdiv_eq_ediv_of_nonneg p18
  have t18 : IntKind.i64.wrap (r18 / 11) = r18 / 11 := IntWalk.i64_in _ (by omega)
  have u18 : IntKind.i64.wrap ((rs.length : Int) + r18 / 11) = (rs.length : Int) + r18 / 11 := IntWalk.i64_in _ (by have := HFL.out; have := HRL.out; omega)
  refine hK.out _ _ ?_ (fun hHeld => ?_)
  · exact HTV.out.cells
  clear hK K
  try simp only [List.getElem_toArray, List.getElem_cons_succ, List.getElem_cons_zero, Act.put, List.setIfInBounds_toArray, List.set_cons_zero, List.set_cons_succ]
  refine wpAnyH_take (i := 19) (v := ?vs17) rfl (by kernel_rfl) (by kernel_rfl) (by kernel_rfl) (fun _ _ _ h => h) (Or.inl ⟨by rfl, ?hys17⟩) (by assumption) ?rests17
  case hys17 => (intro w hSw; (try dsimp only at hSw); go_simp; try with_reducible rfl)
  try simp only [List.getElem_toArray, List.getElem_cons_succ, List.getElem_cons_zero, Act.put, List.setIfInBounds_toArray, List.set_cons_zero, List.set_cons_succ]
  refine wpAnyH_take (i := 20) (v := ?vs18) rfl (by kernel_rfl) (by kernel_rfl) (by kernel_rfl) (fun _ _ _ h => h) (Or.inl ⟨by rfl, ?hys18⟩) (by assumption) ?rests18
  case hys18 => (intro w hSw; (try dsimp only at hSw); go_simp; try with_reducible rfl)
  try simp only [List.getElem_toArray, List.getElem_cons_succ, List.getElem_cons_zero, Act.put, List.setIfInBounds_toArray, List.set_cons_zero, List.set_cons_succ]
  refine wpAnyH_ready (rs := [21]) (by kernel_rfl) (by simp) ?_
  refine AllReadyH.cons rfl (fun K hK => ?_) AllReadyH.nil
  go_simp
  (go_at_call 53; refine (HN.out _ _ HTV.out.src).mono ?_; rintro _ v21 ⟨r21, rfl, p21, m21, s21, k21⟩)
  have HTV := Go.Lib.hid (HTV.out.next HG.out s21 k21)
  clear s21 k21
  refine hK.out _ _ ?_ (fun hHeld => ?_)
  · exact HTV.out.cells
  clear hK K
  try simp only [List.getElem_toArray, List.getElem_cons_succ, List.getElem_cons_zero, Act.put, List.setIfInBounds_toArray, List.set_cons_zero, List.set_cons_succ]
  refine wpAnyH_ready (rs := [22]) (by kernel_rfl) (by simp) ?_
  refine AllReadyH.cons rfl (fun K hK => ?_) AllReadyH.nil
  have d0 := HTV.out.res.at_ 0 _ rfl
  have d1 := HTV.out.res.at_ 1 _ rfl
  have d2 := HTV.out.res.at_ 2 _ rfl
  have df := HTV.out.res.fr
  go_simp
  have HRB := Go.Lib.hid (put3_box (a := .slice (some ⟨gf, 0, none⟩) fs.length cf) (b := .slice (some ⟨gr, 0, none⟩) rs.length cr) (c := .int .i64 z) HTV.out.res)
  have HK3 := Go.Lib.hid (put3_keep v21 Q (.slice (some ⟨gf, 0, none⟩) fs.length cf) (.slice (some ⟨gr, 0, none⟩) rs.length cr) (.int .i64 z))
  clear d0 d1 d2 df
  refine hK.out _ _ ?_ (fun hHeld => ?_)
  · exact ⟨(put3_far HXQ.out _ _ _ _ _).trans HTV.out.cells.1, (put3_far HXQ.out _ _ _ _ _).trans HTV.out.cells.2.1, (put3_far HXQ.out _ _ _ _ _).trans HTV.out.cells.2.2⟩
  clear hK K
  try simp only [List.getElem_toArray, List.getElem_cons_succ, List.getElem_cons_zero, Act.put, List.setIfInBounds_toArray, List.set_cons_zero, List.set_cons_succ]
  refine wpAnyH_take (i := 23) (v := ?vs19) rfl (by kernel_rfl) (by kernel_rfl) (by kernel_rfl) (fun _ _ _ h => h) (Or.inl ⟨by rfl, ?hys19⟩) (by assumption) ?rests19
  case hys19 => (intro w hSw; (try dsimp only at hSw); go_simp; try with_reducible rfl)
  try simp only [List.getElem_toArray, List.getElem_cons_succ, List.getElem_cons_zero, Act.put, List.setIfInBounds_toArray, List.set_cons_zero, List.set_cons_succ]
  refine wpAnyH_take (i := 24) (v := ?vs20) rfl (by kernel_rfl) (by kernel_rfl) (by kernel_rfl) (fun _ _ _ h => h) (Or.inl ⟨by rfl, ?hys20⟩) (by assumption) ?rests20
  case hys20 => (intro w hSw; (try dsimp only at hSw); go_simp; try with_reducible rfl)
  try simp only [List.getElem_toArray, List.getElem_cons_succ, List.getElem_cons_zero, Act.put, List.setIfInBounds_toArray, List.set_cons_zero, List.set_cons_succ]
  refine wpAnyH_take (i := 25) (v := ?vs21) rfl (by kernel_rfl) (by kernel_rfl) (by kernel_rfl) (fun _ _ _ h => h) (Or.inl ⟨by rfl, ?hys21⟩) (by assumption) ?rests21
  case hys21 => (intro w hSw; (try dsimp only at hSw); go_simp; try with_reducible rfl)
  try simp only [List.getElem_toArray, List.getElem_cons_succ, List.getElem_cons_zero, Act.put, List.setIfInBounds_toArray, List.set_cons_zero, List.set_cons_succ]
  refine wpAnyH_take (i := 26) (v := ?vs22) rfl (by kernel_rfl) (by kernel_rfl) (by kernel_rfl) (fun _ _ _ h => h) (Or.inl ⟨by rfl, ?hys22⟩) (by assumption) ?rests22
  case hys22 => (intro w hSw; (try dsimp only at hSw); go_simp; try with_reducible rfl)
  try simp only [List.getElem_toArray, List.getElem_cons_succ, List.getElem_cons_zero, Act.put, List.setIfInBounds_toArray, List.set_cons_zero, List.set_cons_succ]
  refine wpAnyH_take (i := 27) (v := ?vs23) rfl (by kernel_rfl) (by kernel_rfl) (by kernel_rfl) (fun _ _ _ h => h) (Or.inl ⟨by rfl, ?hys23⟩) (by assumption) ?rests23
  case hys23 => (intro w hSw; (try dsimp only at hSw); go_simp; try with_reducible rfl)
  try simp only [List.getElem_toArray, List.getElem_cons_succ, List.getElem_cons_zero, Act.put, List.setIfInBounds_toArray, List.set_cons_zero, List.set_cons_succ]
  refine wpAnyH_done (by kernel_rfl) ?_ _
  change Exit.then _ _ _ _ (put3 v21 Q (.slice (some ⟨gf, 0, none⟩) fs.length cf) (.slice (some ⟨gr, 0, none⟩) rs.length cr) (.int .i64 z))
  generalize put3 v21 Q (.slice (some ⟨gf, 0, none⟩) fs.length cf) (.slice (some ⟨gr, 0, none⟩) rs.length cr) (.int .i64 z) = WE at *
  have e0 := HRB.out.at_ 0 _ rfl
  have e1 := HRB.out.at_ 1 _ rfl
  have e2 := HRB.out.at_ 2 _ rfl
  go_wp2_with fail
  refine bodyPost_ret (v := .tuple #[trainV ⟨fs, rs, z⟩ (some ⟨gf, 0, none⟩) cf (some ⟨gr, 0, none⟩) cr, .int .i64 rl, .int .i64 a, .int .i64 b, .int .i64 r12, .int .i64 r21]) (by simp [results, trainV, Try.results15, go_sem, *]) rfl ?_
  have hT := HTV.out
  have hk := HK3.out
  have hqw := HQW.out
  have hge := HGE.out
  have hws := HBW.out.size
  have bF := hk.below (show w.heap.size ≤ Q by omega) (Nat.le_trans hws hT.kp.size)
  exact ⟨⟨fs, rs, z⟩, _, cf, _, cr, rl, a, b, r12, r21, rfl, hT.trl HFL.out.2 (by have := HRL.out; omega) hk, (HBW.out.trans (hT.kp.below (Nat.le_of_lt hge) hws)).trans bF⟩
end Go.Proofs.Ythedanpldebjcaa
