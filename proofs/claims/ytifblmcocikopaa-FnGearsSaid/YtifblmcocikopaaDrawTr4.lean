/- Draws of trains for the laws. -/
import Derived.Test.YtifblmcocikopaaDrawTr3
namespace Go.Proofs.Ytifblmcocikopaa
open Go.RowKit
set_option linter.unusedSimpArgs false
set_option linter.unusedVariables false

theorem boxLs {W : World} {q m c : Nat} {zs : List Int} (h : Box W q (ints zs)) (hm : m ≤ zs.length) (hc : m ≤ c) (hf : zs.length ≤ 1000) : Ls (zs.take m) (some ⟨q, 0, none⟩) c W := by
  have hl : (zs.take m).length = m := by rw [List.length_take]; omega
  refine ⟨⟨ints_len _, fun hn => ⟨q, 0, rfl, Nat.zero_le _, h.lt, fun j u hu => ?_⟩⟩, by omega, by omega⟩
  rw [Nat.zero_add]
  refine h.at_ j u ?_
  have hj : j < (ints (zs.take m)).length := (List.getElem?_eq_some_iff.1 hu).1
  rw [ints_len, hl] at hj
  rw [← hu]
  simp [ints, List.getElem?_take_of_lt hj]
set_option maxRecDepth 100000 in
set_option maxHeartbeats 16000000 in
theorem drawDevelopmentOf (A : Option Addr) (n cap : Nat) (bs : List Int) (w : World) (h : Rd w 0 w.heap.size A n (byts bs)) (hs : ∀ z ∈ bs, 0 ≤ z ∧ z ≤ 255) (hn : n ≤ 140737488355328) :
    Calls Try.prog 21 #[.slice A n cap] w (DvT2 w) := by
  have HFR := Go.Lib.hid (fun w0 (b : Below w.heap.size w w0) => from_ A n cap bs w0 ((h.below b (Nat.le_refl _)).mono (Nat.le_refl _) b.size) hs hn)
  clear h hs hn
  go_enter Try.func21, Try.ntmps21
  go_upto_region 1 with fail
  refine wp_gen (R := fun W => Box W w.heap.size [.slice none 0 0, .slice none 0 0, .int .i64 0] ∧ Below w.heap.size w W ∧ W.heap.size = w.heap.size + 1) ⟨Box.new rfl rfl, by go_grown, by simp⟩ ?_
  rintro W1 ⟨kb, b1, e1⟩
  have HB := Go.Lib.hid kb
  have B1 := Go.Lib.hid b1
  have E1 := Go.Lib.hid e1
  clear kb b1 e1
  go_wp2_with fail
  refine (HFR.out _ B1.out).mono ?_
  rintro _ w1 ⟨g, rfl, hg, s1, b2⟩
  have HB := Go.Lib.hid (HB.out.below b2)
  have HBW := Go.Lib.hid (upB B1.out b2)
  have HGE := Go.Lib.hid (show w.heap.size < g by have := E1.out; omega)
  have HG := Go.Lib.hid s1.lt
  have S1 := Go.Lib.hid s1
  have HN := Go.Lib.hid (fun (m : Int) (w0 : World) (s : Src w0 g A n cap bs) => next g A n cap bs m w0 s)
  have HP := Go.Lib.hid (fun (w0 : World) (s : Src w0 g A n cap bs) (zs : List Int) (m : Nat) (hm : zs.length = m) (h0 : 0 < m) (h1 : m ≤ 1000) t cs (hc : cs = (ints zs).toArray) => pickNew g A n cap bs w0 s zs m hm h0 (by omega) (fun x => True) (fun _ _ => trivial) (t := t) hc)
  have HD := Go.Lib.hid (fun w0 s0 => drawL09 g A n cap bs w0 s0)
  have HSO := Go.Lib.hid (fun w0 s0 => drawSome g A n cap bs w0 s0)
  clear s1 hg b2 B1 E1 HFR
  go_wp2_with fail
  refine (HSO.out _ S1.out).mono ?_
  rintro _ w2 ⟨x0, gf, cf, gr, cr, a, b, rfl, hf, hr, s2, k2, of, or, hne, lf, lr, uf, ur⟩
  obtain ⟨fs, rs, z⟩ := x0
  have HRE := Go.Lib.hid (show Box w2 w.heap.size [.slice none 0 0, .slice none 0 0, .int .i64 0] from HB.out.keep k2 (by have := HGE.out; omega))
  have hF : w.heap.size ≠ gf ∧ w.heap.size ≠ gr := by have := HGE.out; have := HG.out; omega
  have HTL := Go.Lib.hid (fun WE (k : Keep w.heap.size (w.heap.size + 1) w2 WE) => (⟨Ls.of (of.keep k (by omega) (by omega)).rd of.le (by show fs.length ≤ _; have : fs.length ≤ 4 := hf.2; omega), Ls.of (or.keep k (by omega) (by omega)).rd or.le (by show rs.length ≤ _; have : rs.length ≤ 11 := hr; omega)⟩ : TrL ⟨fs, rs, z⟩ (some ⟨gf, 0, none⟩) cf (some ⟨gr, 0, none⟩) cr WE))
  have HKB := Go.Lib.hid (show Below w.heap.size w w2 from HBW.out.trans (k2.below (Nat.le_of_lt HGE.out) HBW.out.size))
  unfold trainV
  clear hf hr s2 k2 of or hne lf lr uf ur S1 HB hF
  have d0 := HRE.out.at_ 0 _ rfl
  have d1 := HRE.out.at_ 1 _ rfl
  have d2 := HRE.out.at_ 2 _ rfl
  have df := HRE.out.fr
  have HRB := Go.Lib.hid (put3_box (a := .slice (some ⟨gf, 0, none⟩) fs.length cf) (b := .slice (some ⟨gr, 0, none⟩) rs.length cr) (c := .int .i64 z) HRE.out)
  have HK3 := Go.Lib.hid (put3_keep w2 w.heap.size (.slice (some ⟨gf, 0, none⟩) fs.length cf) (.slice (some ⟨gr, 0, none⟩) rs.length cr) (.int .i64 z))
  go_wp2_with fail
  change bodyPost _ _ _ _ _ (put3 w2 w.heap.size (.slice (some ⟨gf, 0, none⟩) fs.length cf) (.slice (some ⟨gr, 0, none⟩) rs.length cr) (.int .i64 z))
  generalize put3 w2 w.heap.size (.slice (some ⟨gf, 0, none⟩) fs.length cf) (.slice (some ⟨gr, 0, none⟩) rs.length cr) (.int .i64 z) = WE at *
  have e0 := HRB.out.at_ 0 _ rfl
  have e1 := HRB.out.at_ 1 _ rfl
  have e2 := HRB.out.at_ 2 _ rfl
  clear d0 d1 d2 df
  refine bodyPost_ret (v := .tuple #[trainV ⟨fs, rs, z⟩ (some ⟨gf, 0, none⟩) cf (some ⟨gr, 0, none⟩) cr, .int .i64 a, .int .i64 b]) (by simp [results, trainV, Try.results21, go_sem, *]) rfl ?_
  have hb := HKB.out
  exact ⟨⟨fs, rs, z⟩, _, cf, _, cr, a, b, rfl, HTL.out _ HK3.out, hb.trans (HK3.out.below (Nat.le_refl _) hb.size)⟩
set_option maxRecDepth 100000 in
set_option maxHeartbeats 16000000 in
theorem drawEqualGears (A : Option Addr) (n cap : Nat) (bs : List Int) (w : World) (h : Rd w 0 w.heap.size A n (byts bs)) (hs : ∀ z ∈ bs, 0 ≤ z ∧ z ≤ 255) (hn : n ≤ 140737488355328) :
    Calls Try.prog 26 #[.slice A n cap] w (DvT0 w) := by
  have HFR := Go.Lib.hid (fun w0 (b : Below w.heap.size w w0) => from_ A n cap bs w0 ((h.below b (Nat.le_refl _)).mono (Nat.le_refl _) b.size) hs hn)
  clear h hs hn
  go_enter Try.func26, Try.ntmps26
  go_upto_region 1 with fail
  refine wp_gen (R := fun W => Box W w.heap.size [.slice none 0 0, .slice none 0 0, .int .i64 0] ∧ Below w.heap.size w W ∧ W.heap.size = w.heap.size + 1) ⟨Box.new rfl rfl, by go_grown, by simp⟩ ?_
  rintro W1 ⟨kb, b1, e1⟩
  have HB := Go.Lib.hid kb
  have B1 := Go.Lib.hid b1
  have E1 := Go.Lib.hid e1
  clear kb b1 e1
  go_wp2_with fail
  refine (HFR.out _ B1.out).mono ?_
  rintro _ w1 ⟨g, rfl, hg, s1, b2⟩
  have HB := Go.Lib.hid (HB.out.below b2)
  have HBW := Go.Lib.hid (upB B1.out b2)
  have HGE := Go.Lib.hid (show w.heap.size < g by have := E1.out; omega)
  have HG := Go.Lib.hid s1.lt
  have S1 := Go.Lib.hid s1
  have HN := Go.Lib.hid (fun (m : Int) (w0 : World) (s : Src w0 g A n cap bs) => next g A n cap bs m w0 s)
  have HP := Go.Lib.hid (fun (w0 : World) (s : Src w0 g A n cap bs) (zs : List Int) (m : Nat) (hm : zs.length = m) (h0 : 0 < m) (h1 : m ≤ 1000) t cs (hc : cs = (ints zs).toArray) => pickNew g A n cap bs w0 s zs m hm h0 (by omega) (fun x => True) (fun _ _ => trivial) (t := t) hc)
  have HD := Go.Lib.hid (fun w0 s0 => drawL09 g A n cap bs w0 s0)
  have HSO := Go.Lib.hid (fun w0 s0 => drawSome g A n cap bs w0 s0)
  clear s1 hg b2 B1 E1 HFR
  go_wp2_with fail
  refine (HD.out _ S1.out).mono ?_
  rintro _ w2 ⟨x0, gf, cf, gr, cr, rfl, hf, hr, s2, k2, of, or, hne, lf, lr, uf, ur⟩
  obtain ⟨fs, rs, z⟩ := x0
  obtain ⟨Q, hQ⟩ : ∃ Q, w.heap.size = Q := ⟨_, rfl⟩
  have hst : ∀ t, TrH w1 Q g A n cap bs w2.heap.size gf cf gr cr fs rs z (w2.alloc (.cells #[.slice (some ⟨gf, 0, none⟩) fs.length cf, .slice (some ⟨gr, 0, none⟩) rs.length cr, .int .i64 z] t)) := fun t => by
    have he := HGE.out
    have hg := HG.out
    rw [← hQ]
    exact TrH.make s2 k2 (HB.out.keep k2 (by omega)) of or hne (by omega) (by omega) (by omega) (by omega) (by omega) uf ur
  have HFL := Go.Lib.hid (show 1 ≤ fs.length ∧ fs.length ≤ 4 from hf)
  have HRL := Go.Lib.hid (show rs.length ≤ 11 from hr)
  have HQW := Go.Lib.hid (show w.heap.size ≤ Q from Nat.le_of_eq hQ)
  have HXQ := Go.Lib.hid (show w2.heap.size ≠ Q by have := k2.size; have := HGE.out; have := HG.out; omega)
  unfold trainV
  clear hf hr s2 k2 of or hne lf lr uf ur S1
  go_upto_region 3 with fail
  refine wp_gen (R := fun W => TrH w1 Q g A n cap bs w2.heap.size gf cf gr cr fs rs z W) (hst _) ?_
  rintro W3 ht
  have HT := Go.Lib.hid ht
  clear ht hst HB
  try simp only [hQ]
  generalize w2.heap.size = x at *
  go_wp2_with fail
  refine (HN.out _ _ HT.out.src).mono ?_
  rintro _ v2 ⟨r, rfl, r0, r1, s4, k4⟩
  have HT := Go.Lib.hid (HT.out.next HG.out s4 k4)
  clear s4 k4
  by_cases h0 : r = 0
  case pos =>
    subst h0
    have hb1 := (Below.refl v2.heap.size v2).alloc (Nat.le_refl _) (.cells #[.int .i64 24, .int .i64 36, .int .i64 48] 2)
    have hs1 : (v2.alloc (.cells #[.int .i64 24, .int .i64 36, .int .i64 48] 2)).heap.size = v2.heap.size + 1 := by simp
    have hx1 : Box (v2.alloc (.cells #[.int .i64 24, .int .i64 36, .int .i64 48] 2)) v2.heap.size (ints [24, 36, 48]) := Box.new rfl rfl
    have hb2 := (Below.refl (v2.alloc (.cells #[.int .i64 24, .int .i64 36, .int .i64 48] 2)).heap.size (v2.alloc (.cells #[.int .i64 24, .int .i64 36, .int .i64 48] 2))).alloc (Nat.le_refl _) (.cells #[.int .i64 12, .int .i64 16, .int .i64 18, .int .i64 24, .int .i64 32] 2)
    have hx2 : Box ((v2.alloc (.cells #[.int .i64 24, .int .i64 36, .int .i64 48] 2)).alloc (.cells #[.int .i64 12, .int .i64 16, .int .i64 18, .int .i64 24, .int .i64 32] 2)) (v2.heap.size + 1) (ints [12, 16, 18, 24, 32]) := Box.new hs1.symm rfl
    have HX1 := Go.Lib.hid (hx1.below hb2)
    have HX2 := Go.Lib.hid hx2
    have HTW := Go.Lib.hid ((HT.out.below HG.out hb1).below HG.out hb2)
    have hqv : Q < v2.heap.size := HT.out.res.lt
    have HQV := Go.Lib.hid hqv
    have HVS := Go.Lib.hid (show g < v2.heap.size from Nat.lt_of_lt_of_le HG.out HT.out.kp.size)
    clear hb1 hb2 hx1 hx2 hs1 HT
    go_wp2_with fail
    refine (HN.out _ _ HTW.out.src).mono ?_
    rintro _ v3 ⟨k, rfl, k0, k1, s5, k5⟩
    obtain ⟨j, rfl⟩ := Int.eq_ofNat_of_zero_le k0
    have hj : j ≤ 4 := by omega
    have HT := Go.Lib.hid (HTW.out.next HG.out s5 k5)
    have HX1 := Go.Lib.hid (HX1.out.keep k5 (by have := HVS.out; omega))
    have HX2 := Go.Lib.hid (HX2.out.keep k5 (by have := HVS.out; omega))
    have ew : IntKind.i64.wrap (1 + (j : Int)) = ((1 + j : Nat) : Int) := (IntWalk.i64_in _ (by omega)).trans (by omega)
    have hw0 : (0 : Int) ≤ ((1 + j : Nat) : Int) := by omega
    have hw1 : ((1 + j : Nat) : Int) ≤ 5 := by omega
    clear s5 k5 HTW k0 k1
    have d0 := HT.out.res.at_ 0 _ rfl
    have d1 := HT.out.res.at_ 1 _ rfl
    have d2 := HT.out.res.at_ 2 _ rfl
    have df := HT.out.res.fr
    have HRB := Go.Lib.hid (put3_box (a := .slice (some ⟨v2.heap.size, 0, none⟩) 3 3) (b := .slice (some ⟨v2.heap.size + 1, 0, none⟩) (1 + j) 5) (c := .int .i64 2100) HT.out.res)
    have HK3 := Go.Lib.hid (put3_keep v3 Q (.slice (some ⟨v2.heap.size, 0, none⟩) 3 3) (.slice (some ⟨v2.heap.size + 1, 0, none⟩) (1 + j) 5) (.int .i64 2100))
    have HQV2 := Go.Lib.hid (show v2.heap.size + 1 < v3.heap.size from HX2.out.lt)
    have HKT := Go.Lib.hid HT.out.kp
    clear HT
    generalize v2.heap.size = vs at *
    go_wp2_with fail
    change bodyPost _ _ _ _ _ (put3 v3 Q (.slice (some ⟨vs, 0, none⟩) 3 3) (.slice (some ⟨vs + 1, 0, none⟩) (1 + j) 5) (.int .i64 2100))
    generalize put3 v3 Q (.slice (some ⟨vs, 0, none⟩) 3 3) (.slice (some ⟨vs + 1, 0, none⟩) (1 + j) 5) (.int .i64 2100) = WE at *
    have e0 := HRB.out.at_ 0 _ rfl
    have e1 := HRB.out.at_ 1 _ rfl
    have e2 := HRB.out.at_ 2 _ rfl
    clear d0 d1 d2 df
    have hlen : ([12, 16, 18, 24, 32].take (1 + j) : List Int).length = 1 + j := by rw [List.length_take]; simp; omega
    refine bodyPost_ret (v := trainV ⟨[24, 36, 48].take 3, [12, 16, 18, 24, 32].take (1 + j), 2100⟩ (some ⟨vs, 0, none⟩) 3 (some ⟨vs + 1, 0, none⟩) 5) (by simp only [trainV, hlen]; simp [results, Try.results26, go_sem, *]) rfl ?_
    have hqv := HQV.out
    have hk := HK3.out
    have hqw := HQW.out
    have hge := HGE.out
    have hws := HBW.out.size
    have bF := hk.below (show w.heap.size ≤ Q by omega) (Nat.le_trans hws HKT.out.size)
    exact ⟨⟨[24, 36, 48].take 3, [12, 16, 18, 24, 32].take (1 + j), 2100⟩, _, 3, _, 5, rfl, ⟨boxLs (HX1.out.keep hk (by omega)) (by simp) (by omega) (by simp), boxLs (HX2.out.keep hk (by omega)) (by simp; omega) (by omega) (by simp)⟩, (HBW.out.trans (HKT.out.below (Nat.le_of_lt hge) hws)).trans bF⟩
  case neg =>
    have hb0 : (r == 0) = false := by simpa using h0
    obtain ⟨c0, c1, c2⟩ := HT.out.cells
    have hqx := HT.out.qx
    have hxq : ¬ x = Q := fun e => hqx e.symm
    have d0 := HT.out.res.at_ 0 _ rfl
    have d1 := HT.out.res.at_ 1 _ rfl
    have d2 := HT.out.res.at_ 2 _ rfl
    have df := HT.out.res.fr
    have HRB := Go.Lib.hid (put3_box (a := .slice (some ⟨gf, 0, none⟩) fs.length cf) (b := .slice (some ⟨gr, 0, none⟩) rs.length cr) (c := .int .i64 z) HT.out.res)
    have HK3 := Go.Lib.hid (put3_keep v2 Q (.slice (some ⟨gf, 0, none⟩) fs.length cf) (.slice (some ⟨gr, 0, none⟩) rs.length cr) (.int .i64 z))
    go_wp2_with fail
    change bodyPost _ _ _ _ _ (put3 v2 Q (.slice (some ⟨gf, 0, none⟩) fs.length cf) (.slice (some ⟨gr, 0, none⟩) rs.length cr) (.int .i64 z))
    generalize put3 v2 Q (.slice (some ⟨gf, 0, none⟩) fs.length cf) (.slice (some ⟨gr, 0, none⟩) rs.length cr) (.int .i64 z) = WE at *
    have e0 := HRB.out.at_ 0 _ rfl
    have e1 := HRB.out.at_ 1 _ rfl
    have e2 := HRB.out.at_ 2 _ rfl
    clear d0 d1 d2 df
    refine bodyPost_ret (v := trainV ⟨fs, rs, z⟩ (some ⟨gf, 0, none⟩) cf (some ⟨gr, 0, none⟩) cr) (by simp [results, trainV, Try.results26, go_sem, *]) rfl ?_
    have hT := HT.out
    have hk := HK3.out
    have hqw := HQW.out
    have hge := HGE.out
    have hws := HBW.out.size
    have bF := hk.below (show w.heap.size ≤ Q by omega) (Nat.le_trans hws hT.kp.size)
    exact ⟨⟨fs, rs, z⟩, _, cf, _, cr, rfl, hT.trl HFL.out.2 (by have := HRL.out; omega) hk, (HBW.out.trans (hT.kp.below (Nat.le_of_lt hge) hws)).trans bF⟩
end Go.Proofs.Ytifblmcocikopaa
