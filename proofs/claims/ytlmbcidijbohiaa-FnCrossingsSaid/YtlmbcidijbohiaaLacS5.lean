/- SwapSpokes, in both. -/
import Derived.Test.YtlmbcidijbohiaaLacS4
import Derived.Deep.MidRow
namespace Go.Proofs.Ytlmbcidijbohiaa
open Go.RowKit
set_option linter.unusedSimpArgs false
set_option linter.unusedVariables false

def swapR (n : Int) (zs : List Int) (k l : Int) : List Int × Int := if Lac n zs then if placeB n k && placeB n l then (swapI zs k.toNat l.toNat, 0) else ([], 2) else ([], 1)
theorem news_of {w : World} {b o : Nat} {zs : List Int} (hc : ∀ j u, (ints zs)[j]? = some u → w.cell? ⟨b, o + j, none⟩ = some u) : ∀ j u, (ints zs)[j]? = some u → w.cell? ((⟨b, o, none⟩ : Addr).add j) = some u := fun j u hu => by
  rw [Addr.add_mid]
  exact hc j u hu
theorem ints_one (zs : List Int) : ∀ u ∈ ints zs, u.oneCell' = true := fun u hu => by
  obtain ⟨z, -, rfl⟩ := List.mem_map.1 hu
  rfl
theorem set_swap (zs : List Int) (k l : Nat) : swapI zs k l = (zs.set k (zs.getD l 0)).set l (zs.getD k 0) := rfl

set_option maxRecDepth 100000 in
set_option maxHeartbeats 4000000 in
theorem specOwn (A : Option Addr) (c : Nat) (zs : List Int) (w : World) (lo hi : Nat) (h0 : Rd w lo hi A zs.length (ints zs)) (hp : 0 < zs.length) (hn : zs.length ≤ 1048576) :
    Calls Try.prog 63 #[.slice A zs.length c] w fun e w' => ∃ g cap, e = .returned (.slice (some ⟨g, 0, none⟩) zs.length cap) ∧ Ow w' w.heap.size w'.heap.size 2 (some ⟨g, 0, none⟩) zs.length cap (ints zs) ∧ Below w.heap.size w w' := by
  obtain ⟨b, o, rfl, -, -, hc⟩ := h0.here.at_ hp
  have hlt : b < w.heap.size := World.block_lt_of_cell? w _ (hc 0 _ (ints_at zs 0 hp))
  have hnews := news_of (w := w.alloc (.cells #[] 2)) (b := b) (o := o) (zs := zs) (fun j u hu => (World.cell?_alloc_lt _ _ _ hlt).trans (hc j u hu))
  have hG := (Gat.start (Below.refl w.heap.size w))
  have hown := hG.row
  have HB := Go.Lib.hid hG.b
  obtain ⟨i0, hi, hz0, hz1, hz2⟩ := info_parts infoI64
  have hlen : (ints zs).length = zs.length * 1 := by rw [ints_len]; omega
  have HP := Go.Lib.hid hp
  clear hc h0 hG hp
  go_enter Try.func63, Try.ntmps63
  go_wp2_with (at_builtin; refine wpList_append_own_at _ rfl _ _ 24 rfl w.heap.size 2 i0 (.int .i64 0) 1 8 Try.underlying24 hi hz0 hz1 hz2 rfl (by decide) _ 0 [] rfl hown ⟨b, o, none⟩ zs.length c (ints zs) rfl hlen hnews (ints_one zs) (by unfold maxLen; omega) (by omega) (by simp) ?_; intro v' w3 hown' hgrow hnil hat; clear hnil hat)
  rw [Nat.zero_add, List.nil_append] at hown'
  obtain ⟨A', cap', rfl, ho⟩ := row_ow hown'
  obtain ⟨g, rfl, -⟩ := ho.form HP.out
  have HO := Go.Lib.hid ho
  have HB3 := Go.Lib.hid (HB.out.trans ((Below.refl _ _).grown hgrow (by simp) (fun j e => by cases e; exact Nat.le_refl _)))
  clear hown' ho hgrow hown hnews
  go_wp2_with fail
  go_ret
  exact ⟨g, cap', rfl, HO.out, HB3.out⟩

/-- Both numbers have been stored. -/
theorem swap_row {w : World} {lo hi g n cap k l : Nat} {zs : List Int} (h : Ow w lo hi 2 (some ⟨g, 0, none⟩) n cap (ints zs)) : Ow ((w.setCell ⟨g, k, none⟩ (.int .i64 (zs.getD l 0))).setCell ⟨g, l, none⟩ (.int .i64 (zs.getD k 0))) lo hi 2 (some ⟨g, 0, none⟩) n cap (ints (swapI zs k l)) := by
  have h1 := h.set_ (k := k) (.int .i64 (zs.getD l 0))
  have h2 := h1.set_ (k := l) (.int .i64 (zs.getD k 0))
  rw [ints_set, ints_set] at h2
  exact h2
theorem swap_gives {w w1 : World} {g cap k l : Nat} {zs : List Int} {p : List Int × Int} {hi : Nat} (hp : p = (swapI zs k l, 0)) (h : Ow w1 w.heap.size hi 2 (some ⟨g, 0, none⟩) zs.length cap (ints (swapI zs k l))) (hh : hi ≤ w1.heap.size) (hb : Below w.heap.size w w1) :
    GivesLN p w (.returned (.tuple #[.slice (some ⟨g, 0, none⟩) zs.length cap, .int .i64 0])) w1 := by
  subst hp
  have hl := swapI_len zs k l
  exact ⟨_, cap, by rw [hl], by rw [hl]; exact h.raise hh, hb⟩

set_option maxRecDepth 100000 in
set_option maxHeartbeats 4000000 in
theorem specSwap (n : Int) (A : Option Addr) (c : Nat) (zs : List Int) (k l : Int) (w : World) (lo hi : Nat) (h0 : Rd w lo hi A zs.length (ints zs)) (hc : zs.length ≤ c) :
    Calls Try.prog 37 #[.int .i64 n, .slice A zs.length c, .int .i64 k, .int .i64 l] w (GivesLN (swapR n zs k l) w) := by
  have HC := Go.Lib.hid (specLacCode n A c zs k w lo hi h0 hc)
  have h := Go.Lib.hid h0.here
  have HC2 := Go.Lib.hid (fun (w0 : World) (h1 : Rd w0 0 w.heap.size A zs.length (ints zs)) => specLacCode n A c zs l w0 _ _ h1 hc)
  clear h0 hc
  by_cases hL : Lac n zs
  case neg =>
    have HV := Go.Lib.hid (show swapR n zs k l = ([], 1) by simp [swapR, hL])
    rw [codeL_one hL] at HC
    clear hL
    go_enter Try.func37, Try.ntmps37
    go_wp2_with fail
    refine HC.out.mono ?_
    rintro _ w1 ⟨rfl, b1⟩
    have B1 := Go.Lib.hid b1
    clear b1
    go_wp2_with fail
    go_ret2
    exact GivesLN.nil HV.out B1.out
  case pos =>
  by_cases hk : placeB n k = true
  case neg =>
    have HV := Go.Lib.hid (show swapR n zs k l = ([], 2) by simp [swapR, hL, hk])
    rw [show codeL n zs k = 2 by simp [codeL, hL, hk]] at HC
    clear hL hk
    go_enter Try.func37, Try.ntmps37
    go_wp2_with fail
    refine HC.out.mono ?_
    rintro _ w1 ⟨rfl, b1⟩
    have B1 := Go.Lib.hid b1
    clear b1
    go_wp2_with fail
    go_ret2
    exact GivesLN.nil HV.out B1.out
  case pos =>
  rw [show codeL n zs k = 0 by simp [codeL, hL, hk]] at HC
  by_cases hl : placeB n l = true
  case neg =>
    have HV := Go.Lib.hid (show swapR n zs k l = ([], 2) by simp [swapR, hL, hl])
    rw [show codeL n zs l = 2 by simp [codeL, hL, hl]] at HC2
    clear hL hk hl
    go_enter Try.func37, Try.ntmps37
    go_wp2_with fail
    refine HC.out.mono ?_
    rintro _ w1 ⟨rfl, b1⟩
    have HC3 := Go.Lib.hid (HC2.out w1 (h.out.below b1 (Nat.le_refl _)))
    have B1 := Go.Lib.hid b1
    clear b1
    go_wp2_with fail
    refine HC3.out.mono ?_
    rintro _ w2 ⟨rfl, b2⟩
    have B2 := Go.Lib.hid (B1.out.trans (b2.mono B1.out.size))
    clear b2
    go_wp2_with fail
    go_ret2
    exact GivesLN.nil HV.out B2.out
  case pos =>
  rw [show codeL n zs l = 0 by simp [codeL, hL, hl]] at HC2
  have HV := Go.Lib.hid (show swapR n zs k l = (swapI zs k.toNat l.toNat, 0) by simp [swapR, hL, hk, hl])
  have hlen := hL.len
  obtain ⟨r0, r1, -⟩ := hL.rim
  have k1 := placeB_iff.1 hk
  have l1 := placeB_iff.1 hl
  obtain ⟨k, rfl⟩ := Int.eq_ofNat_of_zero_le k1.1
  obtain ⟨l, rfl⟩ := Int.eq_ofNat_of_zero_le l1.1
  rw [Int.toNat_natCast, Int.toNat_natCast] at HV
  clear hL hk hl
  subst hlen
  have hkz : k < zs.length := by omega
  have hlz : l < zs.length := by omega
  obtain ⟨-, hk2⟩ := k1
  obtain ⟨-, hl2⟩ := l1
  have hk0 : (0 : Int) ≤ k := by omega
  have hl0 : (0 : Int) ≤ l := by omega
  go_enter Try.func37, Try.ntmps37
  go_wp2_with fail
  refine HC.out.mono ?_
  rintro _ w1 ⟨rfl, b1⟩
  have HC3 := Go.Lib.hid (HC2.out w1 (h.out.below b1 (Nat.le_refl _)))
  have B1 := Go.Lib.hid b1
  clear b1 HC HC2
  go_wp2_with fail
  refine HC3.out.mono ?_
  rintro _ w2 ⟨rfl, b2⟩
  have b3 := B1.out.trans (b2.mono B1.out.size)
  have HO := Go.Lib.hid (specOwn A c zs w2 _ _ (h.out.below b3 (Nat.le_refl _)) (by omega) (by omega))
  have B2 := Go.Lib.hid b3
  clear b2 b3 HC3 B1
  go_wp2_with fail
  refine HO.out.mono ?_
  rintro _ w3 ⟨g, cap, rfl, ho, b3⟩
  have b4 := B2.out.trans (b3.mono B2.out.size)
  have hgl : w2.heap.size ≤ g := by obtain ⟨g', e, p, -, -⟩ := ho.form (by omega); cases e; exact p
  have hsz := B2.out.size
  have hrd := h.out.below b4 (Nat.le_refl _)
  obtain ⟨b, o, rfl, -, hbw, hc1⟩ := hrd.at_ hkz
  have hck : w3.cell? ⟨b, o + k, none⟩ = some (.int .i64 (zs.getD k 0)) := hc1 k _ (ints_at zs k hkz)
  have hcl : w3.cell? ⟨b, o + l, none⟩ = some (.int .i64 (zs.getD l 0)) := hc1 l _ (ints_at zs l hlz)
  have hgk : w3.cell? ⟨g, k, none⟩ = some (.int .i64 (zs.getD k 0)) := (ho.cell hkz).trans (ints_at zs k hkz)
  have hgl2 : w3.cell? ⟨g, l, none⟩ = some (.int .i64 (zs.getD l 0)) := (ho.cell hlz).trans (ints_at zs l hlz)
  have fk := ho.free k
  have fl := ho.free l
  have hbg : b ≠ g := by omega
  have hck2 : ∀ v, (w3.setCell ⟨g, k, none⟩ v).cell? ⟨b, o + k, none⟩ = some (.int .i64 (zs.getD k 0)) := fun v => (cell_far hbg).trans hck
  have hlset : ∀ v, ∃ u, (w3.setCell ⟨g, k, none⟩ v).cell? ⟨g, l, none⟩ = some u := fun v => by
    by_cases e : l = k
    · subst e; exact ⟨v, World.cell?_setCell_same _ _ _ hgk⟩
    · exact ⟨_, (World.cell?_setCell_other _ _ _ _ (by simp [e])).trans hgl2⟩
  obtain ⟨u, hu⟩ := hlset (.int .i64 (zs.getD l 0))
  have HF := Go.Lib.hid (swap_row (k := k) (l := l) ho)
  have HB := Go.Lib.hid (show Below w.heap.size w ((w3.setCell ⟨g, k, none⟩ (.int .i64 (zs.getD l 0))).setCell ⟨g, l, none⟩ (.int .i64 (zs.getD k 0))) from (b4.setCell (p := ⟨g, k, none⟩) (by show _ ≤ g; omega) _).setCell (p := ⟨g, l, none⟩) (by show _ ≤ g; omega) _)
  have HK2 := hck2 (.int .i64 (zs.getD l 0))
  have HG := Go.Lib.hid (swap_gives (w := w) HV.out (HF.out.lower hsz) (by simp [World.setCell]) HB.out)
  clear ho b3 b4 hrd hc1 hck2 hlset HF HB
  generalize zs.getD k 0 = x at *
  generalize zs.getD l 0 = y at *
  go_wp2_with fail
  go_ret2
  exact HG.out

set_option maxRecDepth 100000 in
set_option maxHeartbeats 4000000 in
theorem implSwap (n : Int) (A : Option Addr) (c : Nat) (zs : List Int) (k l : Int) (w : World) (lo hi : Nat) (h0 : Rd w lo hi A zs.length (ints zs)) :
    Calls Try.prog 36 #[.int .i64 n, .slice A zs.length c, .int .i64 k, .int .i64 l] w (GivesLN (swapR n zs k l) w) := by
  have h := Go.Lib.hid h0.here
  have HI := Go.Lib.hid (implIsLacing n A c zs w _ _ h0)
  clear h0
  by_cases hL : Lac n zs
  case neg =>
    have HV := Go.Lib.hid (show swapR n zs k l = ([], 1) by simp [swapR, hL])
    rw [decide_eq_false hL] at HI
    clear hL
    go_enter Try.func36, Try.ntmps36
    go_wp2_with fail
    refine HI.out.mono ?_
    rintro _ w1 ⟨rfl, b1⟩
    have B1 := Go.Lib.hid b1
    clear b1
    go_wp2_with fail
    go_ret2
    exact GivesLN.nil HV.out B1.out
  case pos =>
  rw [decide_eq_true hL] at HI
  obtain ⟨r0, r1, -⟩ := hL.rim
  have HP := Go.Lib.hid (fun w0 => implPlace n k w0 (by omega) (by omega))
  have HQ := Go.Lib.hid (fun w0 => implPlace n l w0 (by omega) (by omega))
  by_cases hk : placeB n k = true
  case neg =>
    have HV := Go.Lib.hid (show swapR n zs k l = ([], 2) by simp [swapR, hL, hk])
    rw [Bool.not_eq_true] at hk
    rw [hk] at HP
    clear hL hk
    go_enter Try.func36, Try.ntmps36
    go_wp2_with fail
    refine HI.out.mono ?_
    rintro _ w1 ⟨rfl, b1⟩
    have B1 := Go.Lib.hid b1
    clear b1
    go_wp2_with fail
    refine (HP.out _).mono ?_
    rintro _ _ ⟨rfl, rfl⟩
    go_wp2_with fail
    go_ret2
    exact GivesLN.nil HV.out B1.out
  case pos =>
  by_cases hl : placeB n l = true
  case neg =>
    have HV := Go.Lib.hid (show swapR n zs k l = ([], 2) by simp [swapR, hL, hl])
    rw [hk] at HP
    rw [Bool.not_eq_true] at hl
    rw [hl] at HQ
    clear hL hk hl
    go_enter Try.func36, Try.ntmps36
    go_wp2_with fail
    refine HI.out.mono ?_
    rintro _ w1 ⟨rfl, b1⟩
    have B1 := Go.Lib.hid b1
    clear b1
    go_wp2_with fail
    refine (HP.out _).mono ?_
    rintro _ _ ⟨rfl, rfl⟩
    go_wp2_with fail
    refine (HQ.out _).mono ?_
    rintro _ _ ⟨rfl, rfl⟩
    go_wp2_with fail
    go_ret2
    exact GivesLN.nil HV.out B1.out
  case pos =>
  have HV := Go.Lib.hid (show swapR n zs k l = (swapI zs k.toNat l.toNat, 0) by simp [swapR, hL, hk, hl])
  rw [hk] at HP
  rw [hl] at HQ
  have hlen := hL.len
  have k1 := placeB_iff.1 hk
  have l1 := placeB_iff.1 hl
  obtain ⟨k, rfl⟩ := Int.eq_ofNat_of_zero_le k1.1
  obtain ⟨l, rfl⟩ := Int.eq_ofNat_of_zero_le l1.1
  rw [Int.toNat_natCast, Int.toNat_natCast] at HV
  obtain ⟨i0, hi, hz0, hz1, hz2⟩ := info_parts infoI64
  clear hL hk hl
  subst hlen
  have hkz : k < zs.length := by omega
  have hlz : l < zs.length := by omega
  obtain ⟨-, hk2⟩ := k1
  obtain ⟨-, hl2⟩ := l1
  have hk0 : (0 : Int) ≤ k := by omega
  have hl0 : (0 : Int) ≤ l := by omega
  go_enter Try.func36, Try.ntmps36
  go_wp2_with fail
  refine HI.out.mono ?_
  rintro _ w1 ⟨rfl, b1⟩
  have hrd := h.out.below b1 (Nat.le_refl _)
  have hsz := b1.size
  have B1 := Go.Lib.hid b1
  obtain ⟨b, o, rfl, -, -, hc⟩ := hrd.at_ hkz
  have hnews := news_of (w := w1) (b := b) (o := o) (zs := zs) hc
  have hln : (ints zs).length = zs.length * 1 := by rw [ints_len]; omega
  clear b1 HI hrd hc
  go_wp2_with fail
  refine (HP.out _).mono ?_
  rintro _ _ ⟨rfl, rfl⟩
  go_wp2_with fail
  refine (HQ.out _).mono ?_
  rintro _ _ ⟨rfl, rfl⟩
  go_upto_region 6 with (at_builtin; refine wpList_append_own_at _ rfl _ _ 24 rfl w1.heap.size 2 i0 (.int .i64 0) 1 8 Try.underlying24 hi hz0 hz1 hz2 rfl (by decide) _ 0 [] rfl (World.ownsRow_nil _ _ _ _) ⟨b, o, none⟩ zs.length c (ints zs) rfl hln hnews (ints_one zs) (by unfold maxLen; omega) (by omega) (Nat.le_refl _) ?_; intro v' w3 hown' hgrow hnil hat; clear hnil hat; rw [Nat.zero_add, List.nil_append] at hown'; obtain ⟨A', cap', rfl, ho⟩ := row_ow hown'; obtain ⟨g, rfl, hg1, -⟩ := ho.form (by omega))
  have b4 : Below w.heap.size w w3 := B1.out.trans (((Below.refl w1.heap.size w1).grown (show w1.grownBy w3 none from hgrow) (Nat.le_refl _) (by simp)).mono hsz)
  have hgk : w3.cell? ⟨g, k, none⟩ = some (.int .i64 (zs.getD k 0)) := (ho.cell hkz).trans (ints_at zs k hkz)
  have hgl2 : w3.cell? ⟨g, l, none⟩ = some (.int .i64 (zs.getD l 0)) := (ho.cell hlz).trans (ints_at zs l hlz)
  have fk := ho.free k
  have fl := ho.free l
  have hlset : ∀ v, ∃ u, (w3.setCell ⟨g, k, none⟩ v).cell? ⟨g, l, none⟩ = some u := fun v => by
    by_cases e : l = k
    · subst e; exact ⟨v, World.cell?_setCell_same _ _ _ hgk⟩
    · exact ⟨_, (World.cell?_setCell_other _ _ _ _ (by simp [e])).trans hgl2⟩
  obtain ⟨u, hu⟩ := hlset (.int .i64 (zs.getD l 0))
  have HF := Go.Lib.hid (swap_row (k := k) (l := l) ho)
  have HB := Go.Lib.hid (show Below w.heap.size w ((w3.setCell ⟨g, k, none⟩ (.int .i64 (zs.getD l 0))).setCell ⟨g, l, none⟩ (.int .i64 (zs.getD k 0))) from (b4.setCell (p := ⟨g, k, none⟩) (by show _ ≤ g; omega) _).setCell (p := ⟨g, l, none⟩) (by show _ ≤ g; omega) _)
  have HG := Go.Lib.hid (fun m => swap_gives (w1 := ((w3.setCell ⟨g, k, none⟩ (.int .i64 (zs.getD l 0))).setCell ⟨g, l, none⟩ (.int .i64 (zs.getD k 0))).drewN m) (w := w) HV.out ((HF.out.lower hsz).drewN m) (by simp [World.setCell, World.drewN]) (below_drewN HB.out m))
  clear ho b4 hlset HF HB hown' hgrow hnews
  generalize zs.getD k 0 = x at *
  generalize zs.getD l 0 = y at *
  refine wp_region_held_drew (S := fun _ => True) (by kernel_rfl) trivial (fun hHeld => ?_)
  refine wpAnyH_take (i := 0) (v := ?vb1) rfl (by kernel_rfl) (by kernel_rfl) (by kernel_rfl) (fun _ _ _ h => h) (Or.inl ⟨by rfl, ?hyb1⟩) (by assumption) ?restb1
  case hyb1 => (intro w hSw; (try dsimp only at hSw); go_simp; try with_reducible rfl)
  try simp only [List.getElem_toArray, List.getElem_cons_succ, List.getElem_cons_zero, Act.put, List.setIfInBounds_toArray, List.set_cons_zero, List.set_cons_succ]
  refine wpAnyH_take (i := 1) (v := ?vb2) rfl (by kernel_rfl) (by kernel_rfl) (by kernel_rfl) (fun _ _ _ h => h) (Or.inl ⟨by rfl, ?hyb2⟩) (by assumption) ?restb2
  case hyb2 => (intro w hSw; (try dsimp only at hSw); go_simp; try with_reducible rfl)
  try simp only [List.getElem_toArray, List.getElem_cons_succ, List.getElem_cons_zero, Act.put, List.setIfInBounds_toArray, List.set_cons_zero, List.set_cons_succ]
  refine wpAnyH_take (i := 2) (v := ?vb3) rfl (by kernel_rfl) (by kernel_rfl) (by kernel_rfl) (fun _ _ _ h => h) (Or.inl ⟨by rfl, ?hyb3⟩) (by assumption) ?restb3
  case hyb3 => (intro w hSw; (try dsimp only at hSw); go_simp; try with_reducible rfl)
  try simp only [List.getElem_toArray, List.getElem_cons_succ, List.getElem_cons_zero, Act.put, List.setIfInBounds_toArray, List.set_cons_zero, List.set_cons_succ]
  refine wpAnyH_take (i := 3) (v := ?vb4) rfl (by kernel_rfl) (by kernel_rfl) (by kernel_rfl) (fun _ _ _ h => h) (Or.inl ⟨by rfl, ?hyb4⟩) (by assumption) ?restb4
  case hyb4 => (intro w hSw; (try dsimp only at hSw); go_simp; try with_reducible rfl)
  try simp only [List.getElem_toArray, List.getElem_cons_succ, List.getElem_cons_zero, Act.put, List.setIfInBounds_toArray, List.set_cons_zero, List.set_cons_succ]
  refine wpAnyH_take (i := 4) (v := ?vb5) rfl (by kernel_rfl) (by kernel_rfl) (by kernel_rfl) (fun _ _ _ h => h) (Or.inl ⟨by rfl, ?hyb5⟩) (by assumption) ?restb5
  case hyb5 => (intro w hSw; (try dsimp only at hSw); go_simp; try with_reducible rfl)
  try simp only [List.getElem_toArray, List.getElem_cons_succ, List.getElem_cons_zero, Act.put, List.setIfInBounds_toArray, List.set_cons_zero, List.set_cons_succ]
  refine wpAnyH_take (i := 5) (v := ?vb6) rfl (by kernel_rfl) (by kernel_rfl) (by kernel_rfl) (fun _ _ _ h => h) (Or.inl ⟨by rfl, ?hyb6⟩) (by assumption) ?restb6
  case hyb6 => (intro w hSw; (try dsimp only at hSw); go_simp; try with_reducible rfl)
  try simp only [List.getElem_toArray, List.getElem_cons_succ, List.getElem_cons_zero, Act.put, List.setIfInBounds_toArray, List.set_cons_zero, List.set_cons_succ]
  refine wpAnyH_take (i := 6) (v := ?vb7) rfl (by kernel_rfl) (by kernel_rfl) (by kernel_rfl) (fun _ _ _ h => h) (Or.inl ⟨by rfl, ?hyb7⟩) (by assumption) ?restb7
  case hyb7 => (intro w hSw; (try dsimp only at hSw); go_simp; try with_reducible rfl)
  try simp only [List.getElem_toArray, List.getElem_cons_succ, List.getElem_cons_zero, Act.put, List.setIfInBounds_toArray, List.set_cons_zero, List.set_cons_succ]
  refine wpAnyH_take (i := 8) (v := ?vb8) rfl (by kernel_rfl) (by kernel_rfl) (by kernel_rfl) (fun _ _ _ h => h) (Or.inl ⟨by rfl, ?hyb8⟩) (by assumption) ?restb8
  case hyb8 => (intro w hSw; (try dsimp only at hSw); go_simp; try with_reducible rfl)
  try simp only [List.getElem_toArray, List.getElem_cons_succ, List.getElem_cons_zero, Act.put, List.setIfInBounds_toArray, List.set_cons_zero, List.set_cons_succ]
  refine wpAnyH_take (i := 9) (v := ?vb9) rfl (by kernel_rfl) (by kernel_rfl) (by kernel_rfl) (fun _ _ _ h => h) (Or.inl ⟨by rfl, ?hyb9⟩) (by assumption) ?restb9
  case hyb9 => (intro w hSw; (try dsimp only at hSw); go_simp; try with_reducible rfl)
  try simp only [List.getElem_toArray, List.getElem_cons_succ, List.getElem_cons_zero, Act.put, List.setIfInBounds_toArray, List.set_cons_zero, List.set_cons_succ]
  refine wpAnyH_take (i := 10) (v := ?vb10) rfl (by kernel_rfl) (by kernel_rfl) (by kernel_rfl) (fun _ _ _ h => h) (Or.inl ⟨by rfl, ?hyb10⟩) (by assumption) ?restb10
  case hyb10 => (intro w hSw; (try dsimp only at hSw); go_simp; try with_reducible rfl)
  try simp only [List.getElem_toArray, List.getElem_cons_succ, List.getElem_cons_zero, Act.put, List.setIfInBounds_toArray, List.set_cons_zero, List.set_cons_succ]
  refine wpAnyH_ready (rs := [7, 11]) (by kernel_rfl) (by simp) ?_
  refine AllReadyH.cons rfl (fun K hK => ?_) (AllReadyH.cons rfl (fun K hK => ?_) AllReadyH.nil)
  · go_simp
    refine hK.out _ _ trivial (fun hHeld => ?_)
    clear hK K
    try simp only [List.getElem_toArray, List.getElem_cons_succ, List.getElem_cons_zero, Act.put, List.setIfInBounds_toArray, List.set_cons_zero, List.set_cons_succ]
    refine wpAnyH_ready (rs := [11]) (by kernel_rfl) (by simp) ?_
    refine AllReadyH.cons rfl (fun K hK => ?_) AllReadyH.nil
    go_simp
    refine hK.out _ _ trivial (fun hHeld => ?_)
    clear hK K
    try simp only [List.getElem_toArray, List.getElem_cons_succ, List.getElem_cons_zero, Act.put, List.setIfInBounds_toArray, List.set_cons_zero, List.set_cons_succ]
    refine wpAnyH_take (i := 12) (v := ?vb11) rfl (by kernel_rfl) (by kernel_rfl) (by kernel_rfl) (fun _ _ _ h => h) (Or.inl ⟨by rfl, ?hyb11⟩) (by assumption) ?restb11
    case hyb11 => (intro w hSw; (try dsimp only at hSw); go_simp; try with_reducible rfl)
    try simp only [List.getElem_toArray, List.getElem_cons_succ, List.getElem_cons_zero, Act.put, List.setIfInBounds_toArray, List.set_cons_zero, List.set_cons_succ]
    refine wpAnyH_ready (rs := [13]) (by kernel_rfl) (by simp) ?_
    refine AllReadyH.cons rfl (fun K hK => ?_) AllReadyH.nil
    go_simp
    refine hK.out _ _ trivial (fun hHeld => ?_)
    clear hK K
    try simp only [List.getElem_toArray, List.getElem_cons_succ, List.getElem_cons_zero, Act.put, List.setIfInBounds_toArray, List.set_cons_zero, List.set_cons_succ]
    refine wpAnyH_take (i := 14) (v := ?vb12) rfl (by kernel_rfl) (by kernel_rfl) (by kernel_rfl) (fun _ _ _ h => h) (Or.inl ⟨by rfl, ?hyb12⟩) (by assumption) ?restb12
    case hyb12 => (intro w hSw; (try dsimp only at hSw); go_simp; try with_reducible rfl)
    try simp only [List.getElem_toArray, List.getElem_cons_succ, List.getElem_cons_zero, Act.put, List.setIfInBounds_toArray, List.set_cons_zero, List.set_cons_succ]
    refine wpAnyH_ready (rs := [15]) (by kernel_rfl) (by simp) ?_
    refine AllReadyH.cons rfl (fun K hK => ?_) AllReadyH.nil
    go_simp
    refine hK.out _ _ trivial (fun hHeld => ?_)
    clear hK K
    try simp only [List.getElem_toArray, List.getElem_cons_succ, List.getElem_cons_zero, Act.put, List.setIfInBounds_toArray, List.set_cons_zero, List.set_cons_succ]
    refine wpAnyH_done (by kernel_rfl) ?_ _
    go_wp2_with fail
    go_ret2
    exact HG.out 1
  · go_simp
    refine hK.out _ _ trivial (fun hHeld => ?_)
    clear hK K
    try simp only [List.getElem_toArray, List.getElem_cons_succ, List.getElem_cons_zero, Act.put, List.setIfInBounds_toArray, List.set_cons_zero, List.set_cons_succ]
    refine wpAnyH_ready (rs := [7]) (by kernel_rfl) (by simp) ?_
    refine AllReadyH.cons rfl (fun K hK => ?_) AllReadyH.nil
    go_simp
    refine hK.out _ _ trivial (fun hHeld => ?_)
    clear hK K
    try simp only [List.getElem_toArray, List.getElem_cons_succ, List.getElem_cons_zero, Act.put, List.setIfInBounds_toArray, List.set_cons_zero, List.set_cons_succ]
    refine wpAnyH_take (i := 12) (v := ?vb13) rfl (by kernel_rfl) (by kernel_rfl) (by kernel_rfl) (fun _ _ _ h => h) (Or.inl ⟨by rfl, ?hyb13⟩) (by assumption) ?restb13
    case hyb13 => (intro w hSw; (try dsimp only at hSw); go_simp; try with_reducible rfl)
    try simp only [List.getElem_toArray, List.getElem_cons_succ, List.getElem_cons_zero, Act.put, List.setIfInBounds_toArray, List.set_cons_zero, List.set_cons_succ]
    refine wpAnyH_ready (rs := [13]) (by kernel_rfl) (by simp) ?_
    refine AllReadyH.cons rfl (fun K hK => ?_) AllReadyH.nil
    go_simp
    refine hK.out _ _ trivial (fun hHeld => ?_)
    clear hK K
    try simp only [List.getElem_toArray, List.getElem_cons_succ, List.getElem_cons_zero, Act.put, List.setIfInBounds_toArray, List.set_cons_zero, List.set_cons_succ]
    refine wpAnyH_take (i := 14) (v := ?vb14) rfl (by kernel_rfl) (by kernel_rfl) (by kernel_rfl) (fun _ _ _ h => h) (Or.inl ⟨by rfl, ?hyb14⟩) (by assumption) ?restb14
    case hyb14 => (intro w hSw; (try dsimp only at hSw); go_simp; try with_reducible rfl)
    try simp only [List.getElem_toArray, List.getElem_cons_succ, List.getElem_cons_zero, Act.put, List.setIfInBounds_toArray, List.set_cons_zero, List.set_cons_succ]
    refine wpAnyH_ready (rs := [15]) (by kernel_rfl) (by simp) ?_
    refine AllReadyH.cons rfl (fun K hK => ?_) AllReadyH.nil
    go_simp
    refine hK.out _ _ trivial (fun hHeld => ?_)
    clear hK K
    try simp only [List.getElem_toArray, List.getElem_cons_succ, List.getElem_cons_zero, Act.put, List.setIfInBounds_toArray, List.set_cons_zero, List.set_cons_succ]
    refine wpAnyH_done (by kernel_rfl) ?_ _
    go_wp2_with fail
    go_ret2
    exact HG.out 1
end Go.Proofs.Ytlmbcidijbohiaa
