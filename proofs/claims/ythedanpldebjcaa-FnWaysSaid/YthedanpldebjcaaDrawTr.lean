/- The draw of a train. -/
import Derived.Test.YthedanpldebjcaaTrS
import Derived.Test.YthedanpldebjcaaRowsZ
import Derived.Test.YthedanpldebjcaaMgWays4
namespace Go.Proofs.Ythedanpldebjcaa
open Go.RowKit
set_option linter.unusedSimpArgs false
set_option linter.unusedVariables false

theorem TrS.start {w w2 : World} {g : Nat} {A : Option Addr} {n cap : Nat} {bs : List Int} {gf gr : Nat} {z : Int} {t : TypeId} (s : Src w2 g A n cap bs) (k : Keep g (g + 1) w w2) (hres : Box w2 w.heap.size [.slice none 0 0, .slice none 0 0, .int .i64 0]) (of : Ow w2 gf (gf + 1) 2 (some ⟨gf, 0, none⟩) 0 0 (ints [])) (or : Ow w2 gr (gr + 1) 2 (some ⟨gr, 0, none⟩) 0 0 (ints [])) (hne : gf ≠ gr) (lf : w.heap.size < gf) (lr : w.heap.size < gr) (uf : gf < w2.heap.size) (ur : gr < w2.heap.size) :
    TrS w g A n cap bs w2.heap.size gf 0 gr 0 [] [] z (w2.alloc (.cells #[.slice (some ⟨gf, 0, none⟩) 0 0, .slice (some ⟨gr, 0, none⟩) 0 0, .int .i64 z] t)) := by
  have hb := (Below.refl w2.heap.size w2).alloc (Nat.le_refl _) (.cells #[.slice (some ⟨gf, 0, none⟩) 0 0, .slice (some ⟨gr, 0, none⟩) 0 0, .int .i64 z] t)
  have hs := hb.size
  exact ⟨s.below hb, k.trans (keepAlloc' _ _ _), Box.new rfl rfl, hres.below hb, of.below hb (by omega), or.below hb (by omega), hne, by omega, by omega, lf, lr, by omega, by omega, by omega⟩
theorem ow_none (w : World) : Ow (w.alloc (.cells #[] 2)) w.heap.size (w.heap.size + 1) 2 (some ⟨w.heap.size, 0, none⟩) 0 0 (ints []) :=
  ⟨own_none (Nat.le_refl _), fun g hg => by
    have : w.heap.size = g := by simpa [Value.ownBlock] using hg
    omega⟩
/-- A train that has been drawn. -/
def DrawnT (m : Nat) (w : World) (g : Nat) (A : Option Addr) (n cap : Nat) (bs : List Int) (e : Ending) (w' : World) : Prop :=
  ∃ (x : Trn) (gf cf gr cr : Nat), e = .returned (trainV x (some ⟨gf, 0, none⟩) cf (some ⟨gr, 0, none⟩) cr) ∧ (1 ≤ x.f.length ∧ x.f.length ≤ 4) ∧ x.r.length ≤ m ∧ Src w' g A n cap bs ∧ Keep g (g + 1) w w' ∧ Ow w' gf (gf + 1) 2 (some ⟨gf, 0, none⟩) x.f.length cf (ints x.f) ∧ Ow w' gr (gr + 1) 2 (some ⟨gr, 0, none⟩) x.r.length cr (ints x.r) ∧ gf ≠ gr ∧ w.heap.size ≤ gf ∧ w.heap.size ≤ gr ∧ gf < w'.heap.size ∧ gr < w'.heap.size
set_option maxRecDepth 100000 in
set_option maxHeartbeats 8000000 in
theorem drawGood (g : Nat) (A : Option Addr) (n cap : Nat) (bs : List Int) (w : World) (h : Src w g A n cap bs) :
    Calls Try.prog 93 #[.pointer (some ⟨g, 0, none⟩)] w (DrawnT 10 w g A n cap bs) := by
  have HN := Go.Lib.hid (fun (m : Int) (w0 : World) (s : Src w0 g A n cap bs) => next g A n cap bs m w0 s)
  have HP := Go.Lib.hid (fun (w0 : World) (s : Src w0 g A n cap bs) (zs : List Int) (m : Nat) (hm : zs.length = m) (h0 : 0 < m) (h1 : m ≤ 1000) t cs (hc : cs = (ints zs).toArray) => pickNew g A n cap bs w0 s zs m hm h0 (by omega) (fun x => True) (fun _ _ => trivial) (t := t) hc)
  have HG := Go.Lib.hid h.lt
  have S0 := Go.Lib.hid h
  obtain ⟨i0, hi, hz0, hz1, hz2⟩ := info_parts infoI64
  clear h
  go_enter Try.func93, Try.ntmps93
  go_upto_region 1 with fail
  refine wp_gen (R := fun W => Box W w.heap.size [.slice none 0 0, .slice none 0 0, .int .i64 0] ∧ Src W g A n cap bs ∧ Keep g (g + 1) w W ∧ W.heap.size = w.heap.size + 1) ⟨Box.new rfl rfl, S0.out.below (by go_grown), keepAlloc' _ _ _, by simp⟩ ?_
  rintro W1 ⟨kb, s1, k1, e1⟩
  have HB := Go.Lib.hid kb
  have S1 := Go.Lib.hid s1
  have K1 := Go.Lib.hid k1
  have E1 := Go.Lib.hid e1
  clear kb s1 k1 e1 S0
  go_wp2_with fail
  refine (HN.out _ _ (S1.out.below (by go_grown))).mono ?_
  rintro _ w2 ⟨r2, rfl, p2, m2, s2, k2⟩
  have hst : ∀ t z, TrS w g A n cap bs w2.heap.size W1.heap.size 0 (W1.heap.size + 1) 0 [] [] z (w2.alloc (.cells #[.slice (some ⟨W1.heap.size, 0, none⟩) 0 0, .slice (some ⟨W1.heap.size + 1, 0, none⟩) 0 0, .int .i64 z] t)) := fun t z => by
    have hsz : ((W1.alloc (.cells #[] 2)).alloc (.cells #[] 2)).heap.size = W1.heap.size + 2 := by simp
    have hs2 := k2.size
    have hg := HG.out
    have he := E1.out
    have hw := K1.out.size
    have hf := (ow_none W1).below ((Below.refl _ _).alloc (Nat.le_refl _) (.cells #[] 2)) (by simp)
    have hr := ow_none (W1.alloc (.cells #[] 2))
    rw [show (W1.alloc (.cells #[] 2)).heap.size = W1.heap.size + 1 by simp] at hr
    exact TrS.start s2 ((K1.out.trans ((keepAlloc' _ _ _).trans (keepAlloc' _ _ _))).trans k2) (((HB.out.alloc _).alloc _).keep k2 (by omega)) (hf.keep k2 (by omega) (by omega)) (hr.keep k2 (by omega) (by omega)) (by omega) (by omega) (by omega) (by omega) (by omega)
  go_upto_region 2 with fail
  refine wp_gen (R := fun W => TrS w g A n cap bs w2.heap.size W1.heap.size 0 (W1.heap.size + 1) 0 [] [] (1900 + r2) W) (hst _ _) ?_
  rintro W3 ht
  have HT := Go.Lib.hid ht
  clear ht hst s2 k2 p2 m2 HB S1 K1 E1
  generalize W1.heap.size + 1 = gr0 at HT ⊢
  generalize W1.heap.size = gf0 at HT ⊢
  generalize w2.heap.size = x at HT ⊢
  generalize 1900 + r2 = z at HT ⊢
  go_wp2_with fail
  refine (HN.out _ _ HT.out.src).mono ?_
  rintro _ w4 ⟨r4, rfl, p4, m4, s4, k4⟩
  have HT := Go.Lib.hid (HT.out.next HG.out s4 k4)
  clear s4 k4 p4 m4
  go_wp2_with fail
  refine (HN.out _ _ HT.out.src).mono ?_
  rintro _ w5 ⟨r5, rfl, p5, m5, s5, k5⟩
  have HT := Go.Lib.hid (HT.out.next HG.out s5 k5)
  have hr5 : r5 ≤ 2 := by omega
  clear s5 k5 m5
  go_wp2_with fail
  go_loopw [4, 5] (fun u v wr => ∃ (T k : Int) (gf cf : Nat) (fs : List Int), u = .int .i64 T ∧ v = .int .i64 k ∧ 0 ≤ k ∧ ((fs.length : Nat) : Int) + k = 1 + r5 ∧ TrS w g A n cap bs x gf cf gr0 0 (fs) [] z wr) (fun _ v _ => (intOf v).toNat)
  case atStart => exact ⟨_, _, gf0, 0, [], rfl, rfl, by omega, by simp, HT.out⟩
  case round =>
    obtain ⟨T, k, gf, cf, fs, rfl, rfl, hk0, hlen, ht⟩ := hrel
    have HT := Go.Lib.hid ht
    clear ht
    by_cases hk : 0 < k
    case neg =>
      obtain rfl : k = 0 := by omega
      have hfl : 1 ≤ fs.length ∧ fs.length ≤ 4 := ⟨by omega, by omega⟩
      clear hk hlen hk0
      go_wp2_with fail
      refine (HN.out _ _ HT.out.src).mono ?_
      rintro _ w9 ⟨r9, rfl, p9, m9, s9, k9⟩
      have HT := Go.Lib.hid (HT.out.next HG.out s9 k9)
      clear s9 k9 p9 m9
      go_wp2_with fail
      refine (HN.out _ _ HT.out.src).mono ?_
      rintro _ w10 ⟨r10, rfl, p10, m10, s10, k10⟩
      have HT := Go.Lib.hid (HT.out.next HG.out s10 k10)
      have hr10 : r10 ≤ 6 := by omega
      clear s10 k10 m10
      go_wp2_with fail
      go_loopw [4, 6] (fun u v wr => ∃ (T k : Int) (gr cr : Nat) (rs : List Int), u = .int .i64 T ∧ v = .int .i64 k ∧ 0 ≤ k ∧ ((rs.length : Nat) : Int) + k = 2 + r10 ∧ TrS w g A n cap bs x gf cf gr cr fs (rs) z wr) (fun _ v _ => (intOf v).toNat)
      case atStart => exact ⟨_, _, gr0, 0, [], rfl, rfl, by omega, by simp, HT.out⟩
      case round =>
        obtain ⟨T, k, gr, cr, rs, rfl, rfl, hk0, hlen, ht⟩ := hrel
        have HT := Go.Lib.hid ht
        clear ht
        by_cases hk : 0 < k
        case neg =>
          obtain rfl : k = 0 := by omega
          have hrl : rs.length ≤ 8 := by omega
          clear hk hlen
          have hbx0 := HT.out.box
          have hc0 := hbx0.at_ 0 _ rfl
          have hc1 := hbx0.at_ 1 _ rfl
          have hc2 := hbx0.at_ 2 _ rfl
          have hrs := HT.out.res
          have hd0 := hrs.at_ 0 _ rfl
          have hd1 := hrs.at_ 1 _ rfl
          have hd2 := hrs.at_ 2 _ rfl
          have hdf := hrs.fr
          have hdl := hrs.lt
          have hlx := HT.out.lx
          have hxw : ¬ x = w.heap.size := by omega
          clear hbx0 hrs
          go_wp2_with fail
          refine bodyPost_ret (v := trainV ⟨fs, rs, z⟩ (some ⟨gf, 0, none⟩) cf (some ⟨gr, 0, none⟩) cr) (by simp [results, trainV, Try.results93, go_sem, *]) rfl ?_
          have kF := (((Keep.refl w.heap.size (w.heap.size + 1) wr).setCell (p := ⟨w.heap.size, 0, none⟩) (Nat.le_refl _) (Nat.lt_succ_self _) (.slice (some ⟨gf, 0, none⟩) fs.length cf)).setCell (p := ⟨w.heap.size, 1, none⟩) (Nat.le_refl _) (Nat.lt_succ_self _) (.slice (some ⟨gr, 0, none⟩) rs.length cr)).setCell (p := ⟨w.heap.size, 2, none⟩) (Nat.le_refl _) (Nat.lt_succ_self _) (.int .i64 z)
          have hT := HT.out
          have bF := kF.below (Nat.le_refl _) hT.kp.size
          have hlf := hT.lf
          have hlr := hT.lr
          have huf := hT.uf
          have hur := hT.ur
          have hsF := kF.size
          exact ⟨⟨fs, rs, z⟩, gf, cf, gr, cr, rfl, hfl, (show rs.length ≤ 10 by omega), hT.src.below' bF HG.out, hT.kp.then_below bF, hT.of.keep kF (by omega) (.inr (by omega)), hT.or.keep kF (by omega) (.inr (by omega)), hT.ne, by omega, by omega, by omega, by omega⟩
        case pos =>
          have HL := Go.Lib.hid hlen
          have hlb : rs.length ≤ 8 := by omega
          have ek : IntKind.i64.wrap (k - 1) = k - 1 := IntWalk.i64_in _ (by omega)
          have hbx0 := HT.out.box
          have hc0 := hbx0.at_ 0 _ rfl
          have hc1 := hbx0.at_ 1 _ rfl
          have hc2 := hbx0.at_ 2 _ rfl
          have hfr := hbx0.fr
          have hxl := hbx0.lt
          have hown0 : wr.ownsRow (w.heap.size + 1) 2 1 (.slice (some ⟨gr, 0, none⟩) rs.length cr) rs.length (ints rs) := (HT.out.or.lower HT.out.lr).1
          clear hbx0 hlen
          go_wp2_with (at_builtin; refine wpList_append_own_at _ rfl _ _ 24 rfl (w.heap.size + 1) 2 i0 (.int .i64 0) 1 8 Try.underlying24 hi hz0 hz1 hz2 rfl (by decide) _ _ _ rfl (hown0.alloc _) ⟨wr.heap.size, 0, none⟩ 1 1 [.int .i64 T] rfl rfl (cell_one_new _ _ _) (by simp [Value.oneCell']) (by unfold maxLen; omega) (by omega) (by have := HT.out.kp.size; have := HT.out.lf; have := HT.out.uf; simp; omega) ?_; intro v' w6 hown' hgrow hnil hat; clear hnil; obtain ⟨g', c', rfl, hbx, hts⟩ := HT.out.appR HG.out rfl hown' hgrow hat; have HBX := Go.Lib.hid hbx; have HTS := Go.Lib.hid hts; clear hown' hgrow hat hbx hts hown0; clear hc0 hc1 hc2 hfr hxl; have hc0 := HBX.out.at_ 0 _ rfl; have hc1 := HBX.out.at_ 1 _ rfl; have hc2 := HBX.out.at_ 2 _ rfl; have hfr := HBX.out.fr; have hxl := HBX.out.lt)
          have HT := HTS
          clear HTS HBX hc0 hc1 hc2 hfr hxl

          skip
          have HPX := HP.out _ HT.out.src [1, 2, 3, 4] 4 rfl (by omega) (by omega) 2 _ rfl
          rw [show ∀ (W : World) (p : Addr) (v : Value), (W.setCell p v).heap.size = W.heap.size from fun W p v => by simp] at HPX
          refine HPX.mono ?_
          rintro _ w8 ⟨pk, rfl, -, s8, k8⟩
          have HT := Go.Lib.hid (HT.out.next HG.out s8 k8)
          clear s8 k8
          go_wp2_with fail
          go_roundw
          case rel => exact ⟨_, k - 1, g', c', rs ++ [T], rfl, rfl, by omega, by have := HL.out; rw [List.length_append]; simp; omega, HT.out⟩
          case measure => simp [intOf]; omega
    case pos =>
      have HL := Go.Lib.hid hlen
      have hlb : fs.length ≤ 3 := by omega
      have ek : IntKind.i64.wrap (k - 1) = k - 1 := IntWalk.i64_in _ (by omega)
      have hbx0 := HT.out.box
      have hc0 := hbx0.at_ 0 _ rfl
      have hc1 := hbx0.at_ 1 _ rfl
      have hc2 := hbx0.at_ 2 _ rfl
      have hfr := hbx0.fr
      have hxl := hbx0.lt
      have hown0 : wr.ownsRow (w.heap.size + 1) 2 1 (.slice (some ⟨gf, 0, none⟩) fs.length cf) fs.length (ints fs) := (HT.out.of.lower HT.out.lf).1
      clear hbx0 hlen
      go_wp2_with (at_builtin; refine wpList_append_own_at _ rfl _ _ 24 rfl (w.heap.size + 1) 2 i0 (.int .i64 0) 1 8 Try.underlying24 hi hz0 hz1 hz2 rfl (by decide) _ _ _ rfl (hown0.alloc _) ⟨wr.heap.size, 0, none⟩ 1 1 [.int .i64 T] rfl rfl (cell_one_new _ _ _) (by simp [Value.oneCell']) (by unfold maxLen; omega) (by omega) (by have := HT.out.kp.size; have := HT.out.lf; have := HT.out.uf; simp; omega) ?_; intro v' w6 hown' hgrow hnil hat; clear hnil; obtain ⟨g', c', rfl, hbx, hts⟩ := HT.out.appF HG.out rfl hown' hgrow hat; have HBX := Go.Lib.hid hbx; have HTS := Go.Lib.hid hts; clear hown' hgrow hat hbx hts hown0; clear hc0 hc1 hc2 hfr hxl; have hc0 := HBX.out.at_ 0 _ rfl; have hc1 := HBX.out.at_ 1 _ rfl; have hc2 := HBX.out.at_ 2 _ rfl; have hfr := HBX.out.fr; have hxl := HBX.out.lt)
      have HT := HTS
      clear HTS HBX hc0 hc1 hc2 hfr hxl
      refine (HN.out _ _ HT.out.src).mono ?_
      rintro _ w7 ⟨r7, rfl, p7, m7, s7, k7⟩
      have HT := Go.Lib.hid (HT.out.next HG.out s7 k7)
      have hr7 : r7 ≤ 11 := by omega
      clear s7 k7 m7

      go_wp2_with fail
      skip
      skip
      refine (HP.out _ HT.out.src [8, 12, 1 + r7] 3 rfl (by omega) (by omega) _ _ rfl).mono ?_
      rintro _ w8 ⟨pk, rfl, -, s8, k8⟩
      have HT := Go.Lib.hid (HT.out.next HG.out s8 k8)
      clear s8 k8
      go_wp2_with fail
      go_roundw
      case rel => exact ⟨_, k - 1, g', c', fs ++ [T], rfl, rfl, by omega, by have := HL.out; rw [List.length_append]; simp; omega, HT.out⟩
      case measure => simp [intOf]; omega
end Go.Proofs.Ythedanpldebjcaa
