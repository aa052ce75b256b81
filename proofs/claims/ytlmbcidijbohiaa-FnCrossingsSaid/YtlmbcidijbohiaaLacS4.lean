/- The model: CrossingsOf, EvenCrossings, MirrorLacing, MovesBetween. -/
import Derived.Test.YtlmbcidijbohiaaLacS3
import Derived.Test.YtlmbcidijbohiaaLacIMoves
namespace Go.Proofs.Ytlmbcidijbohiaa
open Go.RowKit
set_option linter.unusedSimpArgs false
set_option linter.unusedVariables false

set_option maxRecDepth 100000 in
set_option maxHeartbeats 4000000 in
theorem specCrossings (n : Int) (A : Option Addr) (c : Nat) (zs : List Int) (p : Int) (w : World) (lo hi : Nat) (h0 : Rd w lo hi A zs.length (ints zs)) (hc : zs.length ≤ c) :
    Calls Try.prog 28 #[.int .i64 n, .slice A zs.length c, .int .i64 p] w (Gives2 (crossR n zs p) w) := by
  have HC := Go.Lib.hid (specLacCode n A c zs p w lo hi h0 hc)
  have h := Go.Lib.hid h0.here
  clear h0 hc
  by_cases hL : Lac n zs
  case neg =>
    have HV := Go.Lib.hid (show crossR n zs p = (0, 1) by simp [crossR, hL])
    rw [codeL_one hL] at HC
    clear hL
    go_enter Try.func28, Try.ntmps28
    go_wp2_with fail
    refine HC.out.mono ?_
    rintro _ w1 ⟨rfl, b1⟩
    have B1 := Go.Lib.hid b1
    clear b1
    go_wp2_with fail
    go_ret2
    exact Gives2.of HV.out B1.out
  case pos =>
  by_cases hp : placeB n p = true
  case neg =>
    have HV := Go.Lib.hid (show crossR n zs p = (0, 2) by simp [crossR, hL, hp])
    rw [show codeL n zs p = 2 by simp [codeL, hL, hp]] at HC
    clear hL hp
    go_enter Try.func28, Try.ntmps28
    go_wp2_with fail
    refine HC.out.mono ?_
    rintro _ w1 ⟨rfl, b1⟩
    have B1 := Go.Lib.hid b1
    clear b1
    go_wp2_with fail
    go_ret2
    exact Gives2.of HV.out B1.out
  case pos =>
  have HV := Go.Lib.hid (show crossR n zs p = (((countAt n zs p.toNat : Nat) : Int), 0) by simp [crossR, hL, hp])
  rw [show codeL n zs p = 0 by simp [codeL, hL, hp]] at HC
  have hp2 := placeB_iff.1 hp
  have hlen := hL.len
  obtain ⟨k, rfl⟩ := Int.eq_ofNat_of_zero_le hp2.1
  rw [Int.toNat_natCast] at HV
  have HK := Go.Lib.hid (fun (w0 : World) (h1 : Rd w0 0 w.heap.size A zs.length (ints zs)) => specCount n A c zs k w0 _ _ h1 hL (by omega))
  clear hL hp hp2 hlen
  go_enter Try.func28, Try.ntmps28
  go_wp2_with fail
  refine HC.out.mono ?_
  rintro _ w1 ⟨rfl, b1⟩
  have HK1 := Go.Lib.hid (HK.out w1 (h.out.below b1 (Nat.le_refl _)))
  have B1 := Go.Lib.hid b1
  clear b1
  go_wp2_with fail
  refine HK1.out.mono ?_
  rintro _ w2 ⟨rfl, b2⟩
  have B2 := Go.Lib.hid (B1.out.trans (b2.mono B1.out.size))
  clear b2
  go_wp2_with fail
  go_ret2
  exact Gives2.of HV.out B2.out

set_option maxRecDepth 100000 in
set_option maxHeartbeats 4000000 in
theorem specEven (n : Int) (A : Option Addr) (c : Nat) (zs : List Int) (w : World) (lo hi : Nat) (h0 : Rd w lo hi A zs.length (ints zs)) (hc : zs.length ≤ c) :
    Calls Try.prog 31 #[.int .i64 n, .slice A zs.length c] w (Gives2 (evenR n zs) w) := by
  have HC := Go.Lib.hid (specLacCode n A c zs 0 w lo hi h0 hc)
  have h := Go.Lib.hid h0.here
  clear h0 hc
  by_cases hL : Lac n zs
  case neg =>
    have HV := Go.Lib.hid (show evenR n zs = (0, 1) by simp [evenR, hL])
    rw [codeL_one hL] at HC
    clear hL
    go_enter Try.func31, Try.ntmps31
    go_wp2_with fail
    refine HC.out.mono ?_
    rintro _ w1 ⟨rfl, b1⟩
    have B1 := Go.Lib.hid b1
    clear b1
    go_wp2_with fail
    go_ret2
    exact Gives2.of HV.out B1.out
  case pos =>
  rw [codeL_zero hL] at HC
  have hlen := hL.len
  obtain ⟨r0, r1, -⟩ := hL.rim
  have HK := Go.Lib.hid (fun (k : Nat) (hk : k < zs.length) (w0 : World) (h1 : Rd w0 0 w.heap.size A zs.length (ints zs)) => specCount n A c zs k w0 _ _ h1 hL hk)
  have HE := Go.Lib.hid (show (List.range zs.length).all (sameB n zs) = true → evenR n zs = (((countAt n zs 0 : Nat) : Int), 0) from fun ha => by unfold evenR; rw [if_pos hL, if_pos ha])
  have HNE := Go.Lib.hid (show (k : Nat) → k < zs.length → sameB n zs k = false → evenR n zs = (0, 5) from fun k hk hs => by
    unfold evenR
    rw [if_pos hL, if_neg]
    intro ha
    have := (List.all_eq_true.1 ha) k (by simpa using hk)
    rw [hs] at this; cases this)
  clear hL
  subst hlen
  go_enter Try.func31, Try.ntmps31
  go_wp2_with fail
  refine HC.out.mono ?_
  rintro _ w1 ⟨rfl, b1⟩
  have B1 := Go.Lib.hid b1
  clear b1 HC
  go_wp2_with fail
  go_loopw [7] (fun i wr => ∃ k : Nat, 1 ≤ k ∧ k ≤ zs.length ∧ i = .int .i64 k ∧ (List.range k).all (sameB zs.length zs) = true ∧ Below w.heap.size w wr) (fun i _ => zs.length - (intOf i).toNat)
  case atStart => exact ⟨1, Nat.le_refl _, by omega, rfl, by simp [sameB], B1.out⟩
  case round =>
    obtain ⟨k, hk1, hk, rfl, hall, hb⟩ := hrel
    have HB := Go.Lib.hid hb
    have HA := Go.Lib.hid hall
    by_cases hlt : k < zs.length
    case neg =>
      obtain rfl : k = zs.length := by omega
      have HV := Go.Lib.hid (HE.out hall)
      have HK0 := Go.Lib.hid (HK.out 0 (by omega) wr (h.out.below hb (Nat.le_refl _)))
      clear hall hb
      go_wp2_with fail
      refine HK0.out.mono ?_
      rintro _ w2 ⟨rfl, b2⟩
      have B2 := Go.Lib.hid (HB.out.trans (b2.mono HB.out.size))
      clear b2
      go_wp2_with fail
      go_ret2
      exact Gives2.of HV.out B2.out
    case pos =>
      have HK1 := Go.Lib.hid (HK.out k hlt wr (h.out.below hb (Nat.le_refl _)))
      have hkl : (k : Int) < zs.length := by omega
      by_cases hv : countAt zs.length zs k = countAt zs.length zs 0
      case pos =>
        have hvb : (((countAt zs.length zs k : Nat) : Int) != ((countAt zs.length zs 0 : Nat) : Int)) = false := by simp [hv]
        have HS := Go.Lib.hid (show (List.range (k + 1)).all (sameB zs.length zs) = true by rw [List.range_succ, List.all_append, HA.out]; simp [sameB, hv])
        clear hall hb hv
        go_wp2_with fail
        refine HK1.out.mono ?_
        rintro _ w2 ⟨rfl, b2⟩
        have b3 := HB.out.trans (b2.mono HB.out.size)
        have HB3 := Go.Lib.hid b3
        have HK0 := Go.Lib.hid (HK.out 0 (by omega) w2 (h.out.below b3 (Nat.le_refl _)))
        clear b2 b3 HK1
        go_wp2_with fail
        refine HK0.out.mono ?_
        rintro _ w3 ⟨rfl, b4⟩
        have HB4 := Go.Lib.hid (HB3.out.trans (b4.mono HB3.out.size))
        clear b4 HK0
        go_wp2_with fail
        go_roundw
        case rel => exact ⟨k + 1, by omega, by omega, by go_num, HS.out, HB4.out⟩
        case measure => simp [intOf]; omega
      case neg =>
        have hvb : (((countAt zs.length zs k : Nat) : Int) != ((countAt zs.length zs 0 : Nat) : Int)) = true := by simp; omega
        have HV := Go.Lib.hid (HNE.out k hlt (by simp [sameB, hv]))
        clear hall hb hv
        go_wp2_with fail
        refine HK1.out.mono ?_
        rintro _ w2 ⟨rfl, b2⟩
        have b3 := HB.out.trans (b2.mono HB.out.size)
        have HB3 := Go.Lib.hid b3
        have HK0 := Go.Lib.hid (HK.out 0 (by omega) w2 (h.out.below b3 (Nat.le_refl _)))
        clear b2 b3 HK1
        go_wp2_with fail
        refine HK0.out.mono ?_
        rintro _ w3 ⟨rfl, b4⟩
        have HB4 := Go.Lib.hid (HB3.out.trans (b4.mono HB3.out.size))
        clear b4 HK0
        go_wp2_with fail
        go_ret2
        exact Gives2.of HV.out HB4.out

theorem Gat.drew {w wr : World} {zs : List Int} {v : Value} (h : Gat w zs v wr) : Gat w zs v wr.drew := ⟨h.row, below_drewN h.b 1⟩
set_option maxRecDepth 100000 in
set_option maxHeartbeats 4000000 in
theorem specMoves (n : Int) (A : Option Addr) (c : Nat) (B : Option Addr) (d : Nat) (xs ys : List Int) (w : World) (lo hi lo2 hi2 : Nat) (h0 : Rd w lo hi A xs.length (ints xs)) (k0 : Rd w lo2 hi2 B ys.length (ints ys)) (hc : xs.length ≤ c) (hd : ys.length ≤ d) :
    Calls Try.prog 34 #[.int .i64 n, .slice A xs.length c, .slice B ys.length d] w (GivesLN (movesR n xs ys) w) := by
  have h := Go.Lib.hid h0.here
  have h2 := Go.Lib.hid k0.here
  have HI := Go.Lib.hid (specIsLacing n A c xs w _ _ h0 hc)
  have HJ := Go.Lib.hid (fun (w0 : World) (h1 : Rd w0 0 w.heap.size B ys.length (ints ys)) => specIsLacing n B d ys w0 _ _ h1 hd)
  clear h0 k0 hc hd
  by_cases hL : Lac n xs
  case neg =>
    rw [decide_eq_false hL] at HI
    have HV := Go.Lib.hid (show movesR n xs ys = ([], 1) by simp [movesR, hL])
    clear hL
    go_enter Try.func34, Try.ntmps34
    go_wp2_with fail
    refine HI.out.mono ?_
    rintro _ w1 ⟨rfl, b1⟩
    have B1 := Go.Lib.hid b1
    clear b1
    go_wp2_with fail
    go_ret2
    exact GivesLN.nil HV.out B1.out
  case pos =>
  rw [decide_eq_true hL] at HI
  by_cases hK : Lac n ys
  case neg =>
    rw [decide_eq_false hK] at HJ
    have HV := Go.Lib.hid (show movesR n xs ys = ([], 1) by simp [movesR, hK])
    clear hL hK
    go_enter Try.func34, Try.ntmps34
    go_wp2_with fail
    refine HI.out.mono ?_
    rintro _ w1 ⟨rfl, b1⟩
    have HJ1 := Go.Lib.hid (HJ.out w1 (h2.out.below b1 (Nat.le_refl _)))
    have B1 := Go.Lib.hid b1
    clear b1
    go_wp2_with fail
    refine HJ1.out.mono ?_
    rintro _ w2 ⟨rfl, b2⟩
    have B2 := Go.Lib.hid (B1.out.trans (b2.mono B1.out.size))
    clear b2
    go_wp2_with fail
    go_ret2
    exact GivesLN.nil HV.out B2.out
  case pos =>
  rw [decide_eq_true hK] at HJ
  have HV := Go.Lib.hid (show movesR n xs ys = (movesI xs ys (List.range xs.length), 0) by simp [movesR, hL, hK])
  have hlen := hL.len
  have hlen2 : ys.length = xs.length := by have := hK.len; omega
  obtain ⟨r0, r1, -⟩ := hL.rim
  obtain ⟨i0, hi, hz0, hz1, hz2⟩ := info_parts infoI64
  have HL2 := Go.Lib.hid hlen2
  clear hL hK hlen2
  subst hlen
  go_enter Try.func34, Try.ntmps34
  go_wp2_with fail
  refine HI.out.mono ?_
  rintro _ w1 ⟨rfl, b1⟩
  have HJ1 := Go.Lib.hid (HJ.out w1 (h2.out.below b1 (Nat.le_refl _)))
  have B1 := Go.Lib.hid b1
  clear b1 HJ HI
  go_wp2_with fail
  refine HJ1.out.mono ?_
  rintro _ w2 ⟨rfl, b2⟩
  have HG := Go.Lib.hid (Gat.start (B1.out.trans (b2.mono B1.out.size)))
  clear b2 HJ1
  go_wp2_with fail
  go_loopw [8, 9] (fun o i wr => ∃ k : Nat, k ≤ xs.length ∧ i = .int .i64 k ∧ Gat w (movesI xs ys (List.range k)) o wr) (fun _ i _ => xs.length - (intOf i).toNat)
  case atStart => exact ⟨0, Nat.zero_le _, rfl, HG.out⟩
  case round =>
    obtain ⟨k, hk, rfl, hgat⟩ := hrel
    clear HG
    by_cases hlt : k < xs.length
    case neg =>
      obtain rfl : k = xs.length := by omega
      have HF := Go.Lib.hid (hgat.done (p := movesR xs.length xs ys) HV.out)
      clear hgat
      go_wp2_with fail
      go_ret2
      exact HF.out
    case pos =>
      have hkl : (k : Int) < xs.length := by omega
      have hkl2 : (k : Int) < ys.length := by rw [HL2.out]; omega
      have hk0 : (0 : Int) ≤ k := by omega
      have hrd := h.out.below hgat.b (Nat.le_refl _)
      have hrd2 := h2.out.below hgat.b (Nat.le_refl _)
      obtain ⟨b, o1, rfl, -, -, hc1⟩ := hrd.at_ hlt
      obtain ⟨b', o2, rfl, -, -, hc2⟩ := hrd2.at_ (show k < ys.length by rw [HL2.out]; exact hlt)
      have hcx : wr.cell? ⟨b, o1 + k, none⟩ = some (.int .i64 (xs.getD k 0)) := hc1 k _ (ints_at xs k hlt)
      have hcy : wr.cell? ⟨b', o2 + k, none⟩ = some (.int .i64 (ys.getD k 0)) := hc2 k _ (ints_at ys k (by rw [HL2.out]; exact hlt))
      have hml : (movesI xs ys (List.range k)).length ≤ k := by have := movesI_len xs ys (List.range k); simpa using this
      have HX := Go.Lib.hid (show movesI xs ys (List.range (k + 1)) = movesI xs ys (List.range k) ++ if xs.getD k 0 ≠ ys.getD k 0 then [(k : Int)] else [] by rw [List.range_succ]; exact movesI_snoc _ _ _ _)
      have hrow := hgat.row
      have hbs := hgat.b.size
      have HGT := Go.Lib.hid hgat
      clear hgat hrd hrd2 hc1 hc2
      generalize movesI xs ys (List.range k) = ms at *
      generalize xs.getD k 0 = X at *
      generalize ys.getD k 0 = Y at *
      go_upto_region 7 with fail
      go_region_held3 (fun w' => w'.cell? ⟨b, o1 + k, none⟩ = some (.int .i64 X) ∧ w'.cell? ⟨b', o2 + k, none⟩ = some (.int .i64 Y)) (first | exact ⟨hcx, hcy⟩ | assumption) (fail)
      have HGD := Go.Lib.hid HGT.out.drew
      have hrow1 := HGT.out.drew.row
      clear hrow hcx hcy
      by_cases hXY : X = Y
      case pos =>
        have hxb : (X != Y) = false := by simp [hXY]
        rw [if_neg (fun e => e hXY), List.append_nil] at HX
        clear hXY hrow1
        go_wp2_with fail
        go_roundw
        case rel => exact ⟨k + 1, by omega, by go_num, by rw [HX.out]; exact HGD.out⟩
        case measure => simp [intOf]; omega
      case neg =>
        have hxb : (X != Y) = true := by simpa using hXY
        rw [if_pos hXY] at HX
        clear hXY
        go_wp2_with (at_builtin; refine wpList_append_own_at _ rfl _ _ 24 rfl w.heap.size 2 i0 (.int .i64 0) 1 8 Try.underlying24 hi hz0 hz1 hz2 rfl (by decide) _ _ _ rfl (hrow1.alloc _) ⟨wr.drew.heap.size, 0, none⟩ 1 1 [.int .i64 k] rfl rfl (cell_one_new _ _ _) (by simp [Value.oneCell']) (by unfold maxLen; omega) (by omega) (by simp; omega) ?_; intro v' w3 hown' hgrow hnil hat; clear hnil hat)
        have HN := Go.Lib.hid (HGD.out.step hown' hgrow)
        clear hown' hgrow hrow1
        go_wp2_with fail
        go_roundw
        case rel => exact ⟨k + 1, by omega, by go_num, by rw [HX.out]; exact HN.out⟩
        case measure => simp [intOf]; omega

/-- A number that a remainder's operand may be. -/
def Sm (a : Int) : Prop := -4611686018427387904 ≤ a ∧ a ≤ 4611686018427387904
theorem mirrorAt_neg {n k : Nat} (hk : k < n) : (-(k : Int)) % (n : Int) = ((mirrorAt n k : Nat) : Int) := by
  unfold mirrorAt
  rw [Int.natCast_emod, show ((n - k : Nat) : Int) = -(k : Int) + n by omega, Int.add_emod_right]
/-- The row that a loop of the model fills. -/
structure Fill (w : World) (g n : Nat) (xs : List Int) (wr : World) : Prop where
  row : Ow wr g (g + 1) 2 (some ⟨g, 0, none⟩) n n (ints xs)
  b : Below w.heap.size w wr
  g0 : w.heap.size ≤ g
  g1 : g < wr.heap.size
theorem Fill.set {w wr : World} {g n k : Nat} {xs : List Int} (h : Fill w g n xs wr) (z : Int) : Fill w g n (xs.set k z) (wr.setCell ⟨g, k, none⟩ (.int .i64 z)) :=
  ⟨by have := h.row.set_ (k := k) (.int .i64 z); rwa [ints_set] at this, h.b.setCell (p := ⟨g, k, none⟩) h.g0 _, h.g0, by simpa [World.setCell] using h.g1⟩
theorem Fill.drew {w wr : World} {g n : Nat} {xs : List Int} (h : Fill w g n xs wr) : Fill w g n xs wr.drew := ⟨h.row.drewN 1, below_drewN h.b 1, h.g0, h.g1⟩
theorem Fill.cell {w wr : World} {g n k : Nat} {xs : List Int} (h : Fill w g n xs wr) (hk : k < n) : ∃ u, wr.cell? ⟨g, k, none⟩ = some u := by
  have hl := h.row.len
  rw [ints_len] at hl
  exact ⟨_, (h.row.cell hk).trans (ints_at xs k (by omega))⟩
theorem Fill.done {w wr : World} {g n : Nat} {xs : List Int} {p : List Int × Int} (h : Fill w g n xs wr) (hp : p = (xs, 0)) : GivesLN p w (.returned (.tuple #[.slice (some ⟨g, 0, none⟩) n n, .int .i64 0])) wr := by
  subst hp
  have hl := h.row.len
  rw [ints_len] at hl
  subst hl
  exact ⟨_, _, rfl, (h.row.lower h.g0).raise (by have := h.g1; omega), h.b⟩

set_option maxRecDepth 100000 in
set_option maxHeartbeats 4000000 in
theorem specMirror (n : Int) (A : Option Addr) (c : Nat) (zs : List Int) (w : World) (lo hi : Nat) (h0 : Rd w lo hi A zs.length (ints zs)) (hc : zs.length ≤ c) :
    Calls Try.prog 20 #[.int .i64 n, .slice A zs.length c] w (GivesLN (mirrorR n zs) w) := by
  have HC := Go.Lib.hid (specLacCode n A c zs 0 w lo hi h0 hc)
  have h := Go.Lib.hid h0.here
  clear h0 hc
  by_cases hL : Lac n zs
  case neg =>
    have HV := Go.Lib.hid (show mirrorR n zs = ([], 1) by simp [mirrorR, hL])
    rw [codeL_one hL] at HC
    clear hL
    go_enter Try.func20, Try.ntmps20
    go_wp2_with fail
    refine HC.out.mono ?_
    rintro _ w1 ⟨rfl, b1⟩
    have B1 := Go.Lib.hid b1
    clear b1
    go_wp2_with fail
    go_ret2
    exact GivesLN.nil HV.out B1.out
  case pos =>
  have HV := Go.Lib.hid (show mirrorR n zs = (mirrorI n zs, 0) by simp [mirrorR, hL])
  rw [codeL_zero hL] at HC
  have HL := Go.Lib.hid hL
  have hlen := hL.len
  obtain ⟨r0, r1, -⟩ := hL.rim
  obtain ⟨i0, hi, hz0, hz1, hz2⟩ := info_parts infoI64
  clear hL
  subst hlen
  go_enter Try.func20, Try.ntmps20
  go_wp2_with fail
  refine HC.out.mono ?_
  rintro _ w1 ⟨rfl, b1⟩
  obtain ⟨g, hg⟩ : ∃ g, w1.heap.size = g := ⟨_, rfl⟩
  have hsz := b1.size
  have B1 := Go.Lib.hid b1
  clear b1 HC
  go_upto_region 5 with (at_make; refine wpList_make_full _ rfl _ _ 24 rfl g 2 i0 (.int .i64 0) 1 Try.underlying24 hi hz0 hz1 .i64 .i64 _ _ zs.length rfl rfl rfl rfl (by rw [hz2]; omega) (by unfold maxLen; omega) (Nat.le_of_eq hg.symm) ?_; intro w2 hown hgr)
  have HG := Go.Lib.hid (show Fill w g zs.length (List.replicate zs.length 0) w2 by
    rw [hg, Nat.mul_one] at hown
    rw [show (madeCells (Value.int IntKind.i64 0).cells zs.length).toList = List.replicate zs.length (.int .i64 0) from toList_madeCells_one _ _] at hown
    have hlt := (hown.lt g rfl).2
    refine ⟨⟨by rw [← ints_zeros]; exact hown, fun g2 hg2 => ?_⟩, B1.out.trans (((Below.refl w1.heap.size w1).grown hgr (Nat.le_refl _) (by simp)).mono hsz), by omega, hlt⟩
    have : g = g2 := by simpa [Value.ownBlock] using hg2
    omega)
  clear hown hgr hi hz0 hz1 hz2
  go_wp2_with fail
  go_loopw [8] (fun i wr => ∃ k : Nat, k ≤ zs.length ∧ i = .int .i64 k ∧ Fill w g zs.length (setAll (mirrorAt zs.length) (fun k => (- zs.getD k 0) % (zs.length : Int)) (List.replicate zs.length 0) (List.range k)) wr) (fun i _ => zs.length - (intOf i).toNat)
  case atStart => exact ⟨0, Nat.zero_le _, rfl, HG.out⟩
  case round =>
    obtain ⟨k, hk, rfl, hf⟩ := hrel
    clear HG
    by_cases hlt : k < zs.length
    case neg =>
      obtain rfl : k = zs.length := by omega
      have HF := Go.Lib.hid (hf.done (p := mirrorR zs.length zs) (by rw [HV.out, setAll_mirror]; rfl))
      clear hf
      go_wp2_with fail
      go_ret2
      exact HF.out
    case pos =>
      have hkl : (k : Int) < zs.length := by omega
      have hk0 : (0 : Int) ≤ k := by omega
      have hrd := h.out.below hf.b (Nat.le_refl _)
      obtain ⟨b, o, rfl, -, hbw, hc1⟩ := hrd.at_ hlt
      have hcell : wr.cell? ⟨b, o + k, none⟩ = some (.int .i64 (zs.getD k 0)) := hc1 k _ (ints_at zs k hlt)
      obtain ⟨y0, y1⟩ := HL.out.in0 hlt
      have HX := Go.Lib.hid (show setAll (mirrorAt zs.length) (fun k => (- zs.getD k 0) % (zs.length : Int)) (List.replicate zs.length 0) (List.range (k + 1)) = (setAll (mirrorAt zs.length) (fun k => (- zs.getD k 0) % (zs.length : Int)) (List.replicate zs.length 0) (List.range k)).set (mirrorAt zs.length k) ((- zs.getD k 0) % (zs.length : Int)) by rw [List.range_succ]; exact setAll_snoc _ _ _ _ _)
      obtain ⟨u, hu⟩ := hf.cell (mirrorAt_lt (k := k) (show 0 < zs.length by omega))
      have fu := hf.row.free (mirrorAt zs.length k)
      have hmk := mirrorAt_neg hlt
      have hm1 : ((mirrorAt zs.length k : Nat) : Int) < zs.length := by have := mirrorAt_lt (n := zs.length) (k := k) (by omega); omega
      have hm0 : (0 : Int) ≤ ((mirrorAt zs.length k : Nat) : Int) := by omega
      have HM := Go.Lib.hid (fun (a : Int) (w0 : World) (ha : Sm a) => specMod a zs.length w0 (by omega) (by omega) ha.1 ha.2)
      have hs1 : Sm (-(k : Int)) := ⟨by omega, by omega⟩
      have hs2 : Sm (- zs.getD k 0) := ⟨by omega, by omega⟩
      have HFL := Go.Lib.hid hf
      have hgw := hf.g0
      have hbg : b ≠ g := by omega
      generalize mirrorAt zs.length k = mx at *
      generalize zs.getD k 0 = y at *
      have hw1 : IntKind.i64.wrap (-(k : Int)) = -(k : Int) := IntWalk.i64_in _ (by omega)
      have hw2 : IntKind.i64.wrap (-y) = -y := IntWalk.i64_in _ (by omega)
      clear hf hrd hc1
      go_upto_region 8 with fail
      go_region_held3 (fun w' => w'.cell? ⟨b, o + k, none⟩ = some (.int .i64 y)) (first | exact hcell | exact (cell_far hbg).trans hcell | assumption) ((go_at_call 53; refine (HM.out _ _ (by assumption)).mono ?_; rintro _ _ ⟨rfl, rfl⟩))
      all_goals
        go_wp2_with fail
        go_roundw
        case rel => exact ⟨k + 1, by omega, by go_num, by rw [HX.out]; exact (HFL.out.set _).drew⟩
        case measure => simp [intOf]; omega
end Go.Proofs.Ytlmbcidijbohiaa
