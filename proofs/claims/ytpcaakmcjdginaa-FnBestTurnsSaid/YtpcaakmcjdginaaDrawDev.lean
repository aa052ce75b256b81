/- Draws of deviations. -/
import Derived.Test.YtpcaakmcjdginaaDrawTru
import Derived.Test.YtpcaakmcjdginaaZeros
import Derived.Deep.DeepCutAuto
namespace Go.Proofs.Ytpcaakmcjdginaa
open Go.RowKit
set_option linter.unusedSimpArgs false
set_option linter.unusedVariables false

section
variable {w W W1 : World} {g : Nat} {A : Option Addr} {n cap : Nat} {bs : List Int} {zs : List Int} {B : Option Addr} {c : Nat}
theorem StL.below (h : StL w g A n cap bs zs B c W) (b : Below W.heap.size W W1) : StL w g A n cap bs zs B c W1 :=
  ⟨h.src.below b, h.kp.then_below (b.mono h.kp.size), (h.ow.below b (Nat.le_refl _)).raise b.size⟩
theorem StL.drewN (h : StL w g A n cap bs zs B c W) (m : Nat) : StL w g A n cap bs zs B c (W.drewN m) := h.below (below_drewN (Below.refl _ _) m)
theorem StL.tur {N gd d : Nat} {us : List Int} (h : StL w g A n cap bs zs B c W) (t : Tur W N gd d us W1) : StL w g A n cap bs us (some ⟨gd, 0, none⟩) d W1 :=
  ⟨h.src.below t.b, h.kp.then_below (t.b.mono h.kp.size), by rw [t.len]; exact t.ow.lower h.kp.size⟩
theorem StL.zeros {gd g' c' m N : Nat} (h : StL w g A n cap bs zs (some ⟨gd, 0, none⟩) c W) (hg : g < w.heap.size) (hd : w.heap.size ≤ gd) (hm : zs.length = N)
    (hown : W1.ownsRow w.heap.size 2 1 (.slice (some ⟨g', 0, none⟩) (N + m) c') (N + m) (ints zs ++ List.replicate m (.int .i64 0))) (hgrow : W.grownBy W1 (some gd)) (hlt : g' < W1.heap.size) :
    StL w g A n cap bs (zs ++ List.replicate m 0) (some ⟨g', 0, none⟩) c' W1 := by
  subst hm
  have b6 : Below w.heap.size W W1 := (Below.refl w.heap.size W).grown hgrow h.kp.size (fun j ej => by cases ej; exact hd)
  refine ⟨h.src.below' b6 hg, h.kp.then_below b6, ?_⟩
  have e : ints (zs ++ List.replicate m 0) = ints zs ++ List.replicate m (.int .i64 0) := by simp [ints]
  rw [e, List.length_append, List.length_replicate]
  exact ⟨hown, fun j hj => by
    have : g' = j := by simpa [Value.ownBlock] using hj
    omega⟩
end
theorem bd_after {X : Int} {zs s ts : List Int} {N : Nat} (h : Bd X zs) (hl : zs.length = N) (hR : rngB (-100) 100 ts = true) (hS : Eff s) (hn : N ≤ 8) (ht : ts.length = N) : Bd (X + 100000) (afterI zs s ts) := by
  subst hl
  exact (bdAllTo2 (n := zs.length) h (sgT_bd hR) hS.rng hS.hi zs.length (by rw [sgT_len]; omega)).mono (by omega)

set_option maxRecDepth 100000 in
set_option maxHeartbeats 16000000 in
theorem drawDev (g : Nat) (A : Option Addr) (n cap : Nat) (bs : List Int) (w : World) (h : Src w g A n cap bs) (E : Option Addr) (c : Nat) (s : List Int) (lo hi : Nat) (hr : Rd w lo hi E s.length (ints s)) (hlo : g < lo) (hhi : hi ≤ w.heap.size) (hsc : s.length ≤ c) (hs4 : s.length ≤ 4) :
    Calls Try.prog 50 #[.pointer (some ⟨g, 0, none⟩), .slice E s.length c] w (DrawnL w g A n cap bs 3 13) := by
  have HN := Go.Lib.hid (fun (m : Int) (w0 : World) (s : Src w0 g A n cap bs) => next g A n cap bs m w0 s)
  have HG := Go.Lib.hid h.lt
  have HLS := Go.Lib.hid (fun W (k : Keep g (g + 1) w W) => (Ls.of (hr.keep k hhi (.inr (by omega))) hsc (by omega) : Ls s E c W))
  have HP := Go.Lib.hid (fun t cs (hc : cs = (ints [4, 6, 8, 5]).toArray) => pickNew g A n cap bs w h [4, 6, 8, 5] 4 rfl (by omega) (by omega) (fun x => 4 ≤ x ∧ x ≤ 8) (by intro x hx; simp at hx; omega) (t := t) hc)
  obtain ⟨i0, hi0, hz0, hz1, hz2⟩ := info_parts infoI64
  clear h hr hlo hhi hsc hs4
  go_enter Try.func50, Try.ntmps50
  go_wp2_with fail
  refine (HP.out _ _ rfl).mono ?_
  rintro _ w1 ⟨x, rfl, ⟨hx0, hx1⟩, s1, k1⟩
  obtain ⟨N, rfl⟩ : ∃ N : Nat, x = N := ⟨x.toNat, by omega⟩
  have hN4 : 4 ≤ N := by omega
  have hN8 : N ≤ 8 := by omega
  have hks := k1.size
  have S1 := Go.Lib.hid s1
  have K1 := Go.Lib.hid k1
  clear s1 k1 hx0 hx1 HP
  go_wp2_with (at_make; refine wpList_make_full _ rfl _ _ 24 rfl w.heap.size 2 i0 (.int .i64 0) 1 Try.underlying24 hi0 hz0 hz1 .i64 .i64 _ _ N rfl rfl rfl rfl (by rw [hz2]; omega) (by unfold maxLen; omega) hks ?_; intro w2 hown hg; have ho := made_zero hown; have hb := (Below.refl w1.heap.size w1).grown hg (Nat.le_refl _) (by simp); have ST2 := Go.Lib.hid (StL.mk (zs := List.replicate N 0) (c := N) (S1.out.below hb) (K1.out.then_below (hb.mono hks)) (by rw [List.length_replicate]; exact ho)); clear hown hg ho hb S1 K1 hks)
  refine (specEff E c s _ (HLS.out _ ST2.out.kp)).mono ?_
  rintro _ _ ⟨rfl, rfl⟩
  generalize w1.heap.size = gd0 at *
  go_upto_if 15 with fail
  go_cut [6] (fun s6 wx => ∃ (zs : List Int) (D : Option Addr) (d : Nat), s6 = .slice D N d ∧ zs.length = N ∧ Bd 1000000 zs ∧ StL w g A n cap bs zs D d wx)
  case first =>
    by_cases he : effB s = true
    case neg =>
      have heb : effB s = false := by simpa using he
      rw [heb]
      clear he heb
      go_wp2_with fail
      go_meet
      exact ⟨List.replicate N 0, _, N, rfl, by simp, fun k => by simp only [List.getD_eq_getElem?_getD, List.getElem?_replicate]; split <;> simp, ST2.out⟩
    case pos =>
      have HEF := Go.Lib.hid (effB_iff.1 he)
      rw [he]
      clear he
      go_wp2_with fail
      refine (HN.out _ _ ST2.out.src).mono ?_
      rintro _ w3 ⟨k, rfl, hk0, hk1, s3, k3⟩
      have hk2 : k ≤ 4 := by omega
      have ST3 := Go.Lib.hid (ST2.out.next HG.out s3 k3)
      clear s3 k3 hk1 ST2
      go_wp2_with fail
      go_loopw [6, 7] (fun o i wr => ∃ (zs : List Int) (D : Option Addr) (d : Nat) (j : Int), o = .slice D N d ∧ i = .int .i64 j ∧ 0 ≤ j ∧ j ≤ 4 ∧ zs.length = N ∧ Bd (1000000 - 100000 * j) zs ∧ StL w g A n cap bs zs D d wr) (fun _ i _ => (intOf i).toNat)
      case atStart => exact ⟨List.replicate N 0, _, N, k, rfl, rfl, hk0, hk2, by simp, (show Bd 0 (List.replicate N 0) from fun k => by simp only [List.getD_eq_getElem?_getD, List.getElem?_replicate]; split <;> simp).mono (by omega), ST3.out⟩
      case round =>
        obtain ⟨zs, D, d, j, rfl, rfl, hj0, hj4, hzl, hbd, hst⟩ := hrel
        have HBD := Go.Lib.hid hbd
        have HZL := Go.Lib.hid hzl
        have ST4 := Go.Lib.hid hst
        clear hbd hzl hst ST3
        by_cases hj : 0 < j
        case pos =>
          go_wp2_with fail
          refine (HN.out _ _ ST4.out.src).mono ?_
          rintro _ w5 ⟨p, rfl, hp0, hp1, s5, k5⟩
          obtain ⟨q, rfl⟩ : ∃ q : Nat, p = q := ⟨p.toNat, by omega⟩
          have hqN : q < N := by omega
          have st5 := ST4.out.next HG.out s5 k5
          have HP := Go.Lib.hid (fun t cs (hc : cs = (ints [1, -1]).toArray) => pickNew g A n cap bs w5 st5.src [1, -1] 2 rfl (by omega) (by omega) (fun x => -1 ≤ x ∧ x ≤ 1) (by intro x hx; simp at hx; omega) (t := t) hc)
          have ST5 := Go.Lib.hid st5
          clear s5 k5 hp0 hp1 st5 ST4
          go_wp2_with fail
          refine (HP.out _ _ rfl).mono ?_
          rintro _ w6 ⟨t, rfl, ⟨ht0, ht1⟩, s6, k6⟩
          have ST6 := Go.Lib.hid (ST5.out.next HG.out s6 k6)
          clear s6 k6 ST5 HP
          go_wp2_with fail
          refine (specOne N q t w6 hqN (by omega)).mono ?_
          rintro _ w7 ⟨g2, rfl, ho, b7⟩
          have st7 := ST6.out.below b7
          have HL3 := Go.Lib.hid (show Ls (oneT N q t) (some ⟨g2, 0, none⟩) N w7 from ⟨by rw [oneT_len]; exact ho.rd.here, by rw [oneT_len]; exact Nat.le_refl _, by rw [oneT_len]; omega⟩)
          have HR := Go.Lib.hid (show rngB (-100) 100 (oneT N q t) = true by rw [oneT_rng hqN]; simp; omega)
          have HL1 := Go.Lib.hid (show Ls zs D d w7 from Ls.of st7.ow.rd st7.ow.le (by rw [HZL.out]; omega))
          have HA := Go.Lib.hid (specAfter D d zs E c s _ N (oneT N q t) w7 HL1.out (HLS.out _ st7.kp) HL3.out N HZL.out hN4 (by omega) HEF.out HR.out (oneT_len ..) _ HBD.out (by omega) (by omega))
          rw [oneT_len] at HA
          have ST7 := Go.Lib.hid st7
          have HBN := Go.Lib.hid (bd_after HBD.out HZL.out HR.out HEF.out hN8 (oneT_len ..))
          have HAL := Go.Lib.hid ((afterI_len zs s (oneT N q t)).trans HZL.out)
          clear ho b7 st7 HL3 HR HL1 HZL HBD ST6
          generalize afterI zs s (oneT N q t) = us at *
          go_wp2_with fail
          refine HA.out.mono ?_
          rintro _ w8 ⟨g3, c3, rfl, tr⟩
          have ST8 := Go.Lib.hid (ST7.out.tur tr)
          clear tr ST7 HA
          go_wp2_with fail
          go_roundw
          case rel => exact ⟨us, _, c3, j - 1, rfl, rfl, by omega, by omega, HAL.out, HBN.out.mono (by omega), ST8.out⟩
          case measure => simp [intOf]; omega
        case neg =>
          go_wp2_with fail
          go_meet
          exact ⟨zs, D, d, rfl, HZL.out, HBD.out.mono (by omega), ST4.out⟩
  case rest wc =>
    obtain ⟨zs, D, d, rfl, hzl, hbd, hst⟩ := hcut
    obtain ⟨gd, hD, hgd, -, -⟩ := hst.ow.form (show 0 < zs.length by omega)
    subst hD
    have hle := hst.ow.le
    have HGD := Go.Lib.hid hgd
    have HBD := Go.Lib.hid hbd
    have HZL := Go.Lib.hid hzl
    have ST9 := Go.Lib.hid hst
    rw [hzl] at hle
    clear hbd hzl hst ST2
    go_wp2_with fail
    go_loopw [8] (fun i wr => ∃ (k : Nat) (us : List Int), k ≤ N ∧ i = .int .i64 k ∧ us.length = N ∧ Bd (1000000 + 10 * (k : Int)) us ∧ StL w g A n cap bs us (some ⟨gd, 0, none⟩) d wr) (fun i _ => N - (intOf i).toNat)
    case atStart => exact ⟨0, zs, Nat.zero_le _, rfl, HZL.out, HBD.out.mono (by omega), ST9.out⟩
    case round =>
      obtain ⟨k, us, hk, rfl, hul, hbu, hst⟩ := hrel
      clear ST9 HBD HZL
      by_cases hkN : k < N
      case pos =>
        have HT := Go.Lib.hid hst
        have HN5 := Go.Lib.hid (HN.out 5 _ (hst.drewN 1).src)
        have hrest := hbu
        have HCY := Go.Lib.hid (fun w5 (st : StL w g A n cap bs us (some ⟨gd, 0, none⟩) d w5) => ((st.ow.cell (show k < us.length by omega)).trans (ints_at us k (by omega)) : w5.cell? ⟨gd, k, none⟩ = _))
        have HY := Go.Lib.hid (fun v (h0 : -2 ≤ v) (h1 : v ≤ 2) => (show Bd (1000000 + 10 * ((k + 1 : Nat) : Int)) (us.set k (us.getD k 0 + v)) from (hbu.add (k := k) (C := 2) h0 h1).mono (by omega)))
        obtain ⟨y0, y1⟩ := hbu k
        generalize us.getD k 0 = y at *
        have hcy := HCY.out _ HT.out
        clear hst hbu hrest
        go_upto_region 11 with fail
        refine wp_region_held_drew (S := fun _ => True) (by kernel_rfl) trivial (fun hHeld => ?_)
        refine wpAnyH_take (i := 0) (v := ?vd1) rfl (by kernel_rfl) (by kernel_rfl) (by kernel_rfl) (fun _ _ _ h => h) (Or.inl ⟨by rfl, ?hyd1⟩) (by assumption) ?restd1
        case hyd1 => (intro w hSw; (try dsimp only at hSw); go_simp; try with_reducible rfl)
        try simp only [List.getElem_toArray, List.getElem_cons_succ, List.getElem_cons_zero, Act.put, List.setIfInBounds_toArray, List.set_cons_zero, List.set_cons_succ]
        refine wpAnyH_take (i := 1) (v := ?vd2) rfl (by kernel_rfl) (by kernel_rfl) (by kernel_rfl) (fun _ _ _ h => h) (Or.inl ⟨by rfl, ?hyd2⟩) (by assumption) ?restd2
        case hyd2 => (intro w hSw; (try dsimp only at hSw); go_simp; try with_reducible rfl)
        try simp only [List.getElem_toArray, List.getElem_cons_succ, List.getElem_cons_zero, Act.put, List.setIfInBounds_toArray, List.set_cons_zero, List.set_cons_succ]
        refine wpAnyH_take (i := 2) (v := ?vd3) rfl (by kernel_rfl) (by kernel_rfl) (by kernel_rfl) (fun _ _ _ h => h) (Or.inl ⟨by rfl, ?hyd3⟩) (by assumption) ?restd3
        case hyd3 => (intro w hSw; (try dsimp only at hSw); go_simp; try with_reducible rfl)
        try simp only [List.getElem_toArray, List.getElem_cons_succ, List.getElem_cons_zero, Act.put, List.setIfInBounds_toArray, List.set_cons_zero, List.set_cons_succ]
        refine wpAnyH_take (i := 3) (v := ?vd4) rfl (by kernel_rfl) (by kernel_rfl) (by kernel_rfl) (fun _ _ _ h => h) (Or.inl ⟨by rfl, ?hyd4⟩) (by assumption) ?restd4
        case hyd4 => (intro w hSw; (try dsimp only at hSw); go_simp; try with_reducible rfl)
        try simp only [List.getElem_toArray, List.getElem_cons_succ, List.getElem_cons_zero, Act.put, List.setIfInBounds_toArray, List.set_cons_zero, List.set_cons_succ]
        refine wpAnyH_take (i := 4) (v := ?vd5) rfl (by kernel_rfl) (by kernel_rfl) (by kernel_rfl) (fun _ _ _ h => h) (Or.inl ⟨by rfl, ?hyd5⟩) (by assumption) ?restd5
        case hyd5 => (intro w hSw; (try dsimp only at hSw); go_simp; try with_reducible rfl)
        try simp only [List.getElem_toArray, List.getElem_cons_succ, List.getElem_cons_zero, Act.put, List.setIfInBounds_toArray, List.set_cons_zero, List.set_cons_succ]
        refine wpAnyH_take (i := 6) (v := ?vd6) rfl (by kernel_rfl) (by kernel_rfl) (by kernel_rfl) (fun _ _ _ h => h) (Or.inl ⟨by rfl, ?hyd6⟩) (by assumption) ?restd6
        case hyd6 => (intro w hSw; (try dsimp only at hSw); go_simp; try with_reducible rfl)
        try simp only [List.getElem_toArray, List.getElem_cons_succ, List.getElem_cons_zero, Act.put, List.setIfInBounds_toArray, List.set_cons_zero, List.set_cons_succ]
        refine wpAnyH_ready (rs := [5, 7]) (by kernel_rfl) (by simp) ?_
        refine AllReadyH.cons rfl (fun K hK => ?_) (AllReadyH.cons rfl (fun K hK => ?_) AllReadyH.nil)
        · go_simp
          refine hK.out _ _ ?_ (fun hHeld => ?_)
          · trivial
          clear hK K
          try simp only [List.getElem_toArray, List.getElem_cons_succ, List.getElem_cons_zero, Act.put, List.setIfInBounds_toArray, List.set_cons_zero, List.set_cons_succ]
          refine wpAnyH_ready (rs := [7]) (by kernel_rfl) (by simp) ?_
          refine AllReadyH.cons rfl (fun K hK => ?_) AllReadyH.nil
          go_simp
          (go_at_call 56; refine HN5.out.mono ?_; rintro _ w5 ⟨v, rfl, hv0, hv1, s5, k5⟩)
          have st5 := (HT.out.drewN 1).next HG.out s5 k5
          have hc5 : w5.cell? ⟨gd, k, none⟩ = some (.int .i64 y) := HCY.out w5 st5
          have f5 := st5.ow.free k
          have hv2 : v ≤ 4 := by omega
          have e1 : IntKind.i64.wrap (y + v) = y + v := IntWalk.i64_in _ (by omega)
          have e2 : IntKind.i64.wrap (y + v - 2) = y + (v - 2) := by rw [IntWalk.i64_in _ (by omega)]; omega
          have HF := Go.Lib.hid (st5.set (z := y + (v - 2)) HG.out HGD.out k)
          clear s5 k5 st5 hv1
          refine hK.out _ _ ?_ (fun hHeld => ?_)
          · trivial
          clear hK K
          try simp only [List.getElem_toArray, List.getElem_cons_succ, List.getElem_cons_zero, Act.put, List.setIfInBounds_toArray, List.set_cons_zero, List.set_cons_succ]
          refine wpAnyH_take (i := 8) (v := ?vd7) rfl (by kernel_rfl) (by kernel_rfl) (by kernel_rfl) (fun _ _ _ h => h) (Or.inl ⟨by rfl, ?hyd7⟩) (by assumption) ?restd7
          case hyd7 => (intro w hSw; (try dsimp only at hSw); go_simp; try with_reducible rfl)
          try simp only [List.getElem_toArray, List.getElem_cons_succ, List.getElem_cons_zero, Act.put, List.setIfInBounds_toArray, List.set_cons_zero, List.set_cons_succ]
          refine wpAnyH_take (i := 9) (v := ?vd8) rfl (by kernel_rfl) (by kernel_rfl) (by kernel_rfl) (fun _ _ _ h => h) (Or.inl ⟨by rfl, ?hyd8⟩) (by assumption) ?restd8
          case hyd8 => (intro w hSw; (try dsimp only at hSw); go_simp; try with_reducible rfl)
          try simp only [List.getElem_toArray, List.getElem_cons_succ, List.getElem_cons_zero, Act.put, List.setIfInBounds_toArray, List.set_cons_zero, List.set_cons_succ]
          refine wpAnyH_take (i := 10) (v := ?vd9) rfl (by kernel_rfl) (by kernel_rfl) (by kernel_rfl) (fun _ _ _ h => h) (Or.inl ⟨by rfl, ?hyd9⟩) (by assumption) ?restd9
          case hyd9 => (intro w hSw; (try dsimp only at hSw); go_simp; try with_reducible rfl)
          try simp only [List.getElem_toArray, List.getElem_cons_succ, List.getElem_cons_zero, Act.put, List.setIfInBounds_toArray, List.set_cons_zero, List.set_cons_succ]
          refine wpAnyH_ready (rs := [11]) (by kernel_rfl) (by simp) ?_
          refine AllReadyH.cons rfl (fun K hK => ?_) AllReadyH.nil
          go_simp
          refine hK.out _ _ ?_ (fun hHeld => ?_)
          · trivial
          clear hK K
          try simp only [List.getElem_toArray, List.getElem_cons_succ, List.getElem_cons_zero, Act.put, List.setIfInBounds_toArray, List.set_cons_zero, List.set_cons_succ]
          refine wpAnyH_done (by kernel_rfl) ?_ _
          go_wp2_with fail
          go_roundw
          case rel => exact ⟨k + 1, us.set k (y + (v - 2)), by omega, by go_num, by rw [List.length_set]; exact hul, HY.out (v - 2) (by omega) (by omega), HF.out⟩
          case measure => simp [intOf]; omega
        · go_simp
          (go_at_call 56; refine HN5.out.mono ?_; rintro _ w5 ⟨v, rfl, hv0, hv1, s5, k5⟩)
          have st5 := (HT.out.drewN 1).next HG.out s5 k5
          have hc5 : w5.cell? ⟨gd, k, none⟩ = some (.int .i64 y) := HCY.out w5 st5
          have f5 := st5.ow.free k
          have hv2 : v ≤ 4 := by omega
          have e1 : IntKind.i64.wrap (y + v) = y + v := IntWalk.i64_in _ (by omega)
          have e2 : IntKind.i64.wrap (y + v - 2) = y + (v - 2) := by rw [IntWalk.i64_in _ (by omega)]; omega
          have HF := Go.Lib.hid (st5.set (z := y + (v - 2)) HG.out HGD.out k)
          clear s5 k5 st5 hv1
          refine hK.out _ _ ?_ (fun hHeld => ?_)
          · trivial
          clear hK K
          try simp only [List.getElem_toArray, List.getElem_cons_succ, List.getElem_cons_zero, Act.put, List.setIfInBounds_toArray, List.set_cons_zero, List.set_cons_succ]
          refine wpAnyH_ready (rs := [5]) (by kernel_rfl) (by simp) ?_
          refine AllReadyH.cons rfl (fun K hK => ?_) AllReadyH.nil
          go_simp
          refine hK.out _ _ ?_ (fun hHeld => ?_)
          · trivial
          clear hK K
          try simp only [List.getElem_toArray, List.getElem_cons_succ, List.getElem_cons_zero, Act.put, List.setIfInBounds_toArray, List.set_cons_zero, List.set_cons_succ]
          refine wpAnyH_take (i := 8) (v := ?vd10) rfl (by kernel_rfl) (by kernel_rfl) (by kernel_rfl) (fun _ _ _ h => h) (Or.inl ⟨by rfl, ?hyd10⟩) (by assumption) ?restd10
          case hyd10 => (intro w hSw; (try dsimp only at hSw); go_simp; try with_reducible rfl)
          try simp only [List.getElem_toArray, List.getElem_cons_succ, List.getElem_cons_zero, Act.put, List.setIfInBounds_toArray, List.set_cons_zero, List.set_cons_succ]
          refine wpAnyH_take (i := 9) (v := ?vd11) rfl (by kernel_rfl) (by kernel_rfl) (by kernel_rfl) (fun _ _ _ h => h) (Or.inl ⟨by rfl, ?hyd11⟩) (by assumption) ?restd11
          case hyd11 => (intro w hSw; (try dsimp only at hSw); go_simp; try with_reducible rfl)
          try simp only [List.getElem_toArray, List.getElem_cons_succ, List.getElem_cons_zero, Act.put, List.setIfInBounds_toArray, List.set_cons_zero, List.set_cons_succ]
          refine wpAnyH_take (i := 10) (v := ?vd12) rfl (by kernel_rfl) (by kernel_rfl) (by kernel_rfl) (fun _ _ _ h => h) (Or.inl ⟨by rfl, ?hyd12⟩) (by assumption) ?restd12
          case hyd12 => (intro w hSw; (try dsimp only at hSw); go_simp; try with_reducible rfl)
          try simp only [List.getElem_toArray, List.getElem_cons_succ, List.getElem_cons_zero, Act.put, List.setIfInBounds_toArray, List.set_cons_zero, List.set_cons_succ]
          refine wpAnyH_ready (rs := [11]) (by kernel_rfl) (by simp) ?_
          refine AllReadyH.cons rfl (fun K hK => ?_) AllReadyH.nil
          go_simp
          refine hK.out _ _ ?_ (fun hHeld => ?_)
          · trivial
          clear hK K
          try simp only [List.getElem_toArray, List.getElem_cons_succ, List.getElem_cons_zero, Act.put, List.setIfInBounds_toArray, List.set_cons_zero, List.set_cons_succ]
          refine wpAnyH_done (by kernel_rfl) ?_ _
          go_wp2_with fail
          go_roundw
          case rel => exact ⟨k + 1, us.set k (y + (v - 2)), by omega, by go_num, by rw [List.length_set]; exact hul, HY.out (v - 2) (by omega) (by omega), HF.out⟩
          case measure => simp [intOf]; omega
      case neg =>
        obtain rfl : k = N := by omega
        have HM := Go.Lib.hid hul
        have ST5 := Go.Lib.hid hst
        clear hbu hul hst hk hkN
        go_wp2_with fail
        refine (HN.out _ _ ST5.out.src).mono ?_
        rintro _ w5 ⟨v, rfl, hv0, -, s5, k5⟩
        have st5 := ST5.out.next HG.out s5 k5
        clear s5 k5 ST5
        have ST5 := Go.Lib.hid st5
        by_cases h0 : v = 0
        case pos =>
          have HP := Go.Lib.hid (fun t cs (hc : cs = (ints [-501, -500, 500, 501]).toArray) => pickNew g A n cap bs w5 st5.src [-501, -500, 500, 501] 4 rfl (by omega) (by omega) (fun x => True) (fun _ _ => trivial) (t := t) hc)
          have hki : (0 : Int) < k := by omega
          subst h0
          clear st5 hle
          go_wp2_with fail
          refine (HP.out _ _ rfl).mono ?_
          rintro _ w6 ⟨x, rfl, -, s6, k6⟩
          have st6 := ST5.out.next HG.out s6 k6
          have hc0 : w6.cell? ⟨gd, 0, none⟩ = some (.int .i64 (us.getD 0 0)) := (st6.ow.cell (by rw [HM.out]; omega)).trans (ints_at us 0 (by rw [HM.out]; omega))
          have f0 := st6.ow.free 0
          have HE := Go.Lib.hid (st6.set (z := x) HG.out HGD.out 0)
          clear s6 k6 st6
          generalize us.getD 0 0 = y0 at *
          go_wp2_with fail
          go_ret
          exact ⟨_, _, d, by rw [List.length_set, HM.out]; rfl, by rw [List.length_set, HM.out]; omega, HE.out.r⟩
        case neg =>
        have hb0 : (v == 0) = false := by simpa using h0
        by_cases h1 : v = 1
        case pos =>
          have hd3 : (3 : Int) ≤ d := by omega
          have hmd : (k : Int) ≤ d := by omega
          have hl3 : (us.take 3).length = 3 := by rw [List.length_take, HM.out]; omega
          have HR := Go.Lib.hid (ST5.out.r.take (k := 3) (by rw [HM.out]; omega))
          have HL3 := Go.Lib.hid hl3
          subst h1
          clear st5 h0 hl3
          go_wp2_with fail
          go_ret
          exact ⟨us.take 3, _, d, by rw [HL3.out]; rfl, by rw [HL3.out]; omega, HR.out⟩
        case neg =>
        have hb1 : (v == 1) = false := by simpa using h1
        by_cases h2 : v = 2
        case pos =>
          subst h2
          have hown := st5.ow.1
          rw [HM.out] at hown
          have hbs := st5.kp.size
          clear st5 h0 h1 hle
          go_wp2_with (at_builtin; obtain ⟨g', c', w6, hrun, hown', hgrow, -, hlt⟩ := run_zeros_own w5 w.heap.size 24 3 24 2 i0 (.int .i64 0) (.int .i64 0) .i64 .i64 8 Try.underlying24 Try.underlying3 hi0 hz0 hz1 hz2 rfl rfl gd k d 5 (ints us) hown (by omega) (by unfold maxLen; omega) (by omega) hbs; have HE := Go.Lib.hid (ST5.out.zeros HG.out HGD.out HM.out hown' hgrow hlt); refine Go.Lib.wpList_append_run _ rfl _ _ _ _ rfl _ _ rfl rfl _ _ hrun ?_; clear hown' hgrow hlt hrun hown)
          go_ret
          exact ⟨_, _, c', by rw [List.length_append, List.length_replicate, HM.out]; rfl, by rw [List.length_append, List.length_replicate, HM.out]; omega, HE.out.r⟩
        case neg =>
          have hb2 : (v == 2) = false := by simpa using h2
          clear st5 h0 h1 h2
          go_wp2_with fail
          go_ret
          exact ⟨us, _, d, by rw [HM.out]; rfl, by rw [HM.out]; omega, ST5.out.r⟩
end Go.Proofs.Ytpcaakmcjdginaa
