/- FnCrossings -/
import Derived.Test.YtlmbcidijbohiaaRows
import Derived.Test.YtlmbcidijbohiaaLacLaw
import Derived.Test.YtlmbcidijbohiaaBig
import Derived.Test.YtlmbcidijbohiaaOpenB
import Derived.Test.YtlmbcidijbohiaaLikesI
import Derived.Test.YtlmbcidijbohiaaInts
import Derived.Test.YtlmbcidijbohiaaHasInt2
import Derived.WalkKit
import Derived.ProofKit
import Derived.OpenShut
import Derived.ShutString
import Derived.SizedLaws
namespace Go.Proofs.Ytlmbcidijbohiaa.fnCrossings
open Go.ChangeShapes Go.WideShapes Go.ChangeAt Go.RowKit
open Go.ChangeMaps (open_string shut_string)
set_option linter.unusedVariables false

theorem eqw_below {w w' : World} (e : Eqw w w') : Below w.heap.size w w' := e.below (Below.refl _ _)
theorem movesR_few2 (n : Int) (xs ys : List Int) : (movesR n xs ys).1.length ≤ 1000 := by
  unfold movesR
  split
  · rename_i hh
    show (movesI xs ys _).length ≤ _
    have := movesI_len xs ys (List.range xs.length)
    have := hh.1.few
    simp at *
    omega
  · exact Nat.zero_le _
theorem swapR_few2 (n : Int) (zs : List Int) (k l : Int) : (swapR n zs k l).1.length ≤ 1000 := by
  unfold swapR
  split
  · rename_i hh
    split
    · show (swapI zs _ _).length ≤ _; rw [swapI_len]; have := hh.few; omega
    · exact Nat.zero_le _
  · exact Nat.zero_le _
theorem swap_ok {n : Int} {zs S : List Int} {k l : Int} (h : swapR n zs k l = (S, 0)) : Lac n zs ∧ placeB n k = true ∧ placeB n l = true ∧ S = swapI zs k.toNat l.toNat := by
  unfold swapR at h
  split at h
  · rename_i hL
    split at h
    · rename_i hp
      rw [Bool.and_eq_true] at hp
      exact ⟨hL, hp.1, hp.2, (congrArg Prod.fst h).symm⟩
    · exact absurd (congrArg Prod.snd h) (by simp)
  · exact absurd (congrArg Prod.snd h) (by simp)
theorem moves_ok {n : Int} {xs ys M : List Int} (h : movesR n xs ys = (M, 0)) : Lac n xs ∧ Lac n ys ∧ M = movesI xs ys (List.range xs.length) := by
  unfold movesR at h
  split at h
  · rename_i hL
    exact ⟨hL.1, hL.2, (congrArg Prod.fst h).symm⟩
  · exact absurd (congrArg Prod.snd h) (by simp)
theorem moves_mem {xs ys : List Int} {k : Nat} (hk : k < xs.length) : decide ((k : Int) ∈ movesI xs ys (List.range xs.length)) = decide (xs.getD k 0 ≠ ys.getD k 0) := by
  rw [decide_eq_decide]
  simp only [movesI, List.mem_map, List.mem_filter, List.mem_range, decide_eq_true_eq]
  constructor
  · rintro ⟨j, ⟨-, h⟩, e⟩
    obtain rfl : j = k := by omega
    exact h
  · exact fun h => ⟨k, ⟨hk, h⟩, rfl⟩
theorem cross_ok {n p c : Int} {zs : List Int} (h : crossR n zs p = (c, 0)) : Lac n zs ∧ placeB n p = true := by
  unfold crossR at h
  split at h
  · rename_i hL
    split at h
    · rename_i hp; exact ⟨hL, hp⟩
    · exact absurd (congrArg Prod.snd h) (by simp)
  · exact absurd (congrArg Prod.snd h) (by simp)
theorem cross_at {n : Int} {zs : List Int} (h : Lac n zs) {j : Nat} (hj : j < zs.length) : crossR n zs j = (((countAt n zs j : Nat) : Int), 0) := by
  have hp : placeB n (j : Int) = true := placeB_iff.2 ⟨by omega, by have := h.len; omega⟩
  simp [crossR, h, hp]
theorem even_code {n : Int} {zs : List Int} (h : Lac n zs) : ∃ z : Int, (∃ e : Int, evenR n zs = (e, z)) ∧ (z = 0 ↔ (List.range zs.length).all (sameB n zs) = true) := by
  unfold evenR
  rw [if_pos h]
  by_cases ha : (List.range zs.length).all (sameB n zs) = true
  · exact ⟨0, ⟨_, by rw [if_pos ha]⟩, by simp [ha]⟩
  · exact ⟨5, ⟨_, by rw [if_neg ha]⟩, by simp [ha]⟩
theorem sumTo_le {n : Int} {zs : List Int} : ∀ {k : Nat}, k < zs.length → sumTo n zs k ≤ k * zs.length
  | 0, _ => Nat.le_of_eq (by simp [sumTo])
  | k + 1, h => by
    rw [sumTo_succ, Nat.succ_mul]
    have := sumTo_le (n := n) (show k < zs.length by omega)
    have := countAt_le n zs k
    omega
theorem all_same (n : Int) (zs : List Int) (k : Nat) : (List.range (k + 1)).all (sameB n zs) = ((List.range k).all (sameB n zs) && (((countAt n zs k : Nat) : Int) == ((countAt n zs 0 : Nat) : Int))) := by
  rw [List.range_succ, List.all_append]
  congr 1
  simp only [List.all_cons, List.all_nil, Bool.and_true, sameB]
  rw [Bool.eq_iff_iff]
  simp
  omega
set_option linter.unusedSimpArgs false
set_option maxRecDepth 100000 in
set_option maxHeartbeats 16000000 in
theorem walk (A : Option Addr) (n cap : Nat) (bs : List Int) (w : World) (h : Rd w 0 w.heap.size A n (byts bs)) (hn : n * 1 ≤ 140737488351232) (hs : ∀ z ∈ bs, 0 ≤ z ∧ z ≤ 255) :
    Calls Try.prog 4 #[.slice A n cap] w fun e w' => e = .returned (.bool true) ∧ Below w.heap.size w w' := by
  have HB := Go.Lib.hid (big_ A n cap w)
  by_cases hbig : (4096 : Int) < n
  · go_enter Try.func4, Try.ntmps4
    go_wp2_with fail
    refine HB.out.mono ?_
    rintro e w' ⟨rfl, rfl⟩
    go_wp2_with fail
    go_ret
    exact ⟨rfl, Below.refl _ _⟩
  · have hb2 := big_ A n cap w
    rw [decide_eq_false hbig] at hb2
    have HB2 := Go.Lib.hid hb2
    have HRD := Go.Lib.hid (fun w1 (hb : Below w.heap.size w w1) => (h.below hb (Nat.le_refl _)).mono (Nat.le_refl _) hb.size)
    have HW := Go.Lib.hid (Below.refl w.heap.size w)
    clear hb2 HB hbig h
    have hnn : n ≤ 140737488355328 := by omega
    clear hn
    go_enter Try.func4, Try.ntmps4
    go_wp2_with fail
    refine HB2.out.mono ?_
    rintro e w' ⟨rfl, rfl⟩
    have HD := Go.Lib.hid (drawCrossings A n cap bs _ (HRD.out _ HW.out) hs hnn)
    go_wp2_with fail
    refine HD.out.mono ?_
    rintro _ w1 ⟨m, zs, Bz, cz, p, rfl, ⟨m0, m1⟩, lz, b1⟩
    have HW := Go.Lib.hid (HW.out.trans (b1.mono HW.out.size))
    have Lz := Go.Lib.hid lz.ls
    clear lz b1 HD
    obtain ⟨P1, P2, hP⟩ : ∃ a b, crossR m zs p = (a, b) := ⟨_, _, rfl⟩
    have HP1 := Go.Lib.hid (fun w0 h0 => implCrossings m Bz cz zs p w0 0 w0.heap.size h0)
    have HP2 := Go.Lib.hid (fun w0 h0 hc => specCrossings m Bz cz zs p w0 0 w0.heap.size h0 hc)
    rw [hP] at HP1 HP2
    have HP := Go.Lib.hid hP
    go_wp2_with fail
    refine (HP1.out _ Lz.out.rd).mono ?_
    rintro _ w2 ⟨rfl, b2⟩
    have Lz := Go.Lib.hid (Lz.out.below b2)
    have HW := Go.Lib.hid (HW.out.trans (b2.mono HW.out.size))
    clear b2
    go_wp2_with fail
    refine (HP2.out _ Lz.out.rd Lz.out.le).mono ?_
    rintro _ w3 ⟨rfl, b3⟩
    have Lz := Go.Lib.hid (Lz.out.below b3)
    have HW := Go.Lib.hid (HW.out.trans (b3.mono HW.out.size))
    clear b3
    clear HP1 HP2 hP
    have HD := Go.Lib.hid (drawEven A n cap bs _ (HRD.out _ HW.out) hs hnn)
    go_wp2_with fail
    refine HD.out.mono ?_
    rintro _ w4 ⟨mx, es, Be, ce, rfl, ⟨mx0, mx1⟩, le, b4⟩
    have Lz := Go.Lib.hid (Lz.out.below b4)
    have HW := Go.Lib.hid (HW.out.trans (b4.mono HW.out.size))
    have Le := Go.Lib.hid le.ls
    clear le b4 HD
    obtain ⟨E1, E2, hE⟩ : ∃ a b, evenR mx es = (a, b) := ⟨_, _, rfl⟩
    have HP1 := Go.Lib.hid (fun w0 h0 => implEven mx Be ce es w0 0 w0.heap.size h0)
    have HP2 := Go.Lib.hid (fun w0 h0 hc => specEven mx Be ce es w0 0 w0.heap.size h0 hc)
    rw [hE] at HP1 HP2
    have HE := Go.Lib.hid hE
    go_wp2_with fail
    refine (HP1.out _ Le.out.rd).mono ?_
    rintro _ w5 ⟨rfl, b5⟩
    have Lz := Go.Lib.hid (Lz.out.below b5)
    have Le := Go.Lib.hid (Le.out.below b5)
    have HW := Go.Lib.hid (HW.out.trans (b5.mono HW.out.size))
    clear b5
    go_wp2_with fail
    refine (HP2.out _ Le.out.rd Le.out.le).mono ?_
    rintro _ w6 ⟨rfl, b6⟩
    have Lz := Go.Lib.hid (Lz.out.below b6)
    have Le := Go.Lib.hid (Le.out.below b6)
    have HW := Go.Lib.hid (HW.out.trans (b6.mono HW.out.size))
    clear b6
    clear HP1 HP2 hE HE
    have HD := Go.Lib.hid (drawMoves A n cap bs _ (HRD.out _ HW.out) hs hnn)
    go_wp2_with fail
    refine HD.out.mono ?_
    rintro _ w7 ⟨my, xs, Ba, ca, ys, Bb, cb, rfl, ⟨my0, my1⟩, la, lb, b7⟩
    have Lz := Go.Lib.hid (Lz.out.below b7)
    have Le := Go.Lib.hid (Le.out.below b7)
    have HW := Go.Lib.hid (HW.out.trans (b7.mono HW.out.size))
    have La := Go.Lib.hid la.ls
    have Lb := Go.Lib.hid lb.ls
    clear la lb b7 HD
    have hMf := movesR_few2 my xs ys
    obtain ⟨M1, M2, hM⟩ : ∃ a b, movesR my xs ys = (a, b) := ⟨_, _, rfl⟩
    have HP1 := Go.Lib.hid (fun w0 h0 h1 => implMoves my Ba ca Bb cb xs ys w0 0 w0.heap.size 0 w0.heap.size h0 h1)
    have HP2 := Go.Lib.hid (fun w0 h0 h1 hc hd => specMoves my Ba ca Bb cb xs ys w0 0 w0.heap.size 0 w0.heap.size h0 h1 hc hd)
    rw [hM] at HP1 HP2
    have HM := Go.Lib.hid hM
    rw [hM] at hMf
    dsimp only at hMf
    clear hM
    go_wp2_with fail
    refine (HP1.out _ La.out.rd Lb.out.rd).mono ?_
    rintro _ w8 ⟨Au1, cu1, rfl, o8, b8⟩
    try dsimp only at o8
    have Lz := Go.Lib.hid (Lz.out.below b8)
    have Le := Go.Lib.hid (Le.out.below b8)
    have La := Go.Lib.hid (La.out.below b8)
    have Lb := Go.Lib.hid (Lb.out.below b8)
    have HW := Go.Lib.hid (HW.out.trans (b8.mono HW.out.size))
    have Lu1 := Go.Lib.hid (lst0 o8 (by omega))
    clear o8 b8
    go_wp2_with fail
    refine (HP2.out _ La.out.rd Lb.out.rd La.out.le Lb.out.le).mono ?_
    rintro _ w9 ⟨Au2, cu2, rfl, o9, b9⟩
    try dsimp only at o9
    have Lz := Go.Lib.hid (Lz.out.below b9)
    have Le := Go.Lib.hid (Le.out.below b9)
    have La := Go.Lib.hid (La.out.below b9)
    have Lb := Go.Lib.hid (Lb.out.below b9)
    have Lu1 := Go.Lib.hid (Lu1.out.below b9)
    have HW := Go.Lib.hid (HW.out.trans (b9.mono HW.out.size))
    have Lu2 := Go.Lib.hid (lst0 o9 (by omega))
    clear o9 b9
    clear HP1 HP2
    have HD := Go.Lib.hid (drawSwap A n cap bs _ (HRD.out _ HW.out) hs hnn)
    go_wp2_with fail
    refine HD.out.mono ?_
    rintro _ w10 ⟨mq, qs, Bq, cq, k1, l1, rfl, ⟨mq0, mq1⟩, lq, b10⟩
    have Lz := Go.Lib.hid (Lz.out.below b10)
    have Le := Go.Lib.hid (Le.out.below b10)
    have La := Go.Lib.hid (La.out.below b10)
    have Lb := Go.Lib.hid (Lb.out.below b10)
    have Lu1 := Go.Lib.hid (Lu1.out.below b10)
    have Lu2 := Go.Lib.hid (Lu2.out.below b10)
    have HW := Go.Lib.hid (HW.out.trans (b10.mono HW.out.size))
    have Lq := Go.Lib.hid lq.ls
    clear lq b10 HD
    have hSf := swapR_few2 mq qs k1 l1
    obtain ⟨S1, S2, hS⟩ : ∃ a b, swapR mq qs k1 l1 = (a, b) := ⟨_, _, rfl⟩
    have HP1 := Go.Lib.hid (fun w0 h0 => implSwap mq Bq cq qs k1 l1 w0 0 w0.heap.size h0)
    have HP2 := Go.Lib.hid (fun w0 h0 hc => specSwap mq Bq cq qs k1 l1 w0 0 w0.heap.size h0 hc)
    rw [hS] at HP1 HP2
    have HS := Go.Lib.hid hS
    rw [hS] at hSf
    dsimp only at hSf
    clear hS
    go_wp2_with fail
    refine (HP1.out _ Lq.out.rd).mono ?_
    rintro _ w11 ⟨Av1, cv1, rfl, o11, b11⟩
    try dsimp only at o11
    have Lz := Go.Lib.hid (Lz.out.below b11)
    have Le := Go.Lib.hid (Le.out.below b11)
    have La := Go.Lib.hid (La.out.below b11)
    have Lb := Go.Lib.hid (Lb.out.below b11)
    have Lu1 := Go.Lib.hid (Lu1.out.below b11)
    have Lu2 := Go.Lib.hid (Lu2.out.below b11)
    have Lq := Go.Lib.hid (Lq.out.below b11)
    have HW := Go.Lib.hid (HW.out.trans (b11.mono HW.out.size))
    have Lv1 := Go.Lib.hid (lst0 o11 (by omega))
    clear o11 b11
    go_wp2_with fail
    refine (HP2.out _ Lq.out.rd Lq.out.le).mono ?_
    rintro _ w12 ⟨Av2, cv2, rfl, o12, b12⟩
    try dsimp only at o12
    have Lz := Go.Lib.hid (Lz.out.below b12)
    have Le := Go.Lib.hid (Le.out.below b12)
    have La := Go.Lib.hid (La.out.below b12)
    have Lb := Go.Lib.hid (Lb.out.below b12)
    have Lu1 := Go.Lib.hid (Lu1.out.below b12)
    have Lu2 := Go.Lib.hid (Lu2.out.below b12)
    have Lq := Go.Lib.hid (Lq.out.below b12)
    have Lv1 := Go.Lib.hid (Lv1.out.below b12)
    have HW := Go.Lib.hid (HW.out.trans (b12.mono HW.out.size))
    have Lv2 := Go.Lib.hid (lst0 o12 (by omega))
    clear o12 b12
    clear HP1 HP2
    have HE := Go.Lib.hid (likeInts_same _ _ _ cu1 cu2 _ _ _ _ _ _ Lu1.out.rd Lu2.out.rd (by first | omega | simp))
    go_wp2_with fail
    refine HE.out.mono ?_
    rintro _ w13 ⟨rfl, x13, e13⟩
    have b13 := below_of_drewN e13
    have Lz := Go.Lib.hid (Lz.out.below b13)
    have Le := Go.Lib.hid (Le.out.below b13)
    have La := Go.Lib.hid (La.out.below b13)
    have Lb := Go.Lib.hid (Lb.out.below b13)
    have Lu1 := Go.Lib.hid (Lu1.out.below b13)
    have Lu2 := Go.Lib.hid (Lu2.out.below b13)
    have Lq := Go.Lib.hid (Lq.out.below b13)
    have Lv1 := Go.Lib.hid (Lv1.out.below b13)
    have Lv2 := Go.Lib.hid (Lv2.out.below b13)
    have HW := Go.Lib.hid (HW.out.trans (b13.mono HW.out.size))
    clear b13 e13 HE
    have HE := Go.Lib.hid (likeInts_same _ _ _ cv1 cv2 _ _ _ _ _ _ Lv1.out.rd Lv2.out.rd (by first | omega | simp))
    go_upto_if 168 with (go_at_call 24; refine HE.out.mono ?_; rintro _ w14 ⟨rfl, x14, e14⟩; have b14 := below_of_drewN e14; clear e14)
    have Lz := Go.Lib.hid (Lz.out.below b14)
    have Le := Go.Lib.hid (Le.out.below b14)
    have La := Go.Lib.hid (La.out.below b14)
    have Lb := Go.Lib.hid (Lb.out.below b14)
    have Lu1 := Go.Lib.hid (Lu1.out.below b14)
    have Lu2 := Go.Lib.hid (Lu2.out.below b14)
    have Lq := Go.Lib.hid (Lq.out.below b14)
    have Lv1 := Go.Lib.hid (Lv1.out.below b14)
    have Lv2 := Go.Lib.hid (Lv2.out.below b14)
    have HW := Go.Lib.hid (HW.out.trans (b14.mono HW.out.size))
    clear b14 HE
    go_cut [] (fun wx => Ls zs Bz cz wx ∧ Ls xs Ba ca wx ∧ Ls ys Bb cb wx ∧ Ls M1 Au1 cu1 wx ∧ Below w.heap.size w wx)
    case first =>
      by_cases hS : S2 = 0
      case neg =>
        have hSb : (S2 == 0) = false := by simpa using hS
        clear hS
        go_wp2_with fail
        go_meet
        exact ⟨Lz.out, La.out, Lb.out, Lu1.out, HW.out⟩
      case pos =>
        subst hS
        obtain ⟨hL, hk, hl, rfl⟩ := swap_ok HS.out
        have hlen := hL.len
        obtain ⟨k0, kn⟩ := placeB_iff.1 hk
        obtain ⟨l0, ln⟩ := placeB_iff.1 hl
        have hL2 := swap_lac hL (show k1.toNat < qs.length by omega) (show l1.toNat < qs.length by omega)
        have hR : swapR mq (swapI qs k1.toNat l1.toNat) k1 l1 = (qs, 0) := by simp only [swapR, if_pos hL2, hk, hl, Bool.and_self, if_true, swap_swap (show k1.toNat < qs.length by omega) (show l1.toNat < qs.length by omega)]
        have HB1 := Go.Lib.hid (fun w0 h0 => implSwap mq Av1 cv1 (swapI qs k1.toNat l1.toNat) k1 l1 w0 0 w0.heap.size h0)
        have HB2 := Go.Lib.hid (fun w0 h0 => implIsLacing mq Av1 cv1 (swapI qs k1.toNat l1.toNat) w0 0 w0.heap.size h0)
        rw [hR] at HB1
        rw [decide_eq_true hL2] at HB2
        have hqf := hL.few
        clear hR hL2 hL hk hl hlen
        generalize swapI qs k1.toNat l1.toNat = ss at *
        go_wp2_with fail
        refine (HB1.out _ Lv1.out.rd).mono ?_
        rintro _ w15 ⟨Abk, cbk, rfl, o15, b15⟩
        try dsimp only at o15
        have Lz := Go.Lib.hid (Lz.out.below b15)
        have Le := Go.Lib.hid (Le.out.below b15)
        have La := Go.Lib.hid (La.out.below b15)
        have Lb := Go.Lib.hid (Lb.out.below b15)
        have Lu1 := Go.Lib.hid (Lu1.out.below b15)
        have Lu2 := Go.Lib.hid (Lu2.out.below b15)
        have Lq := Go.Lib.hid (Lq.out.below b15)
        have Lv1 := Go.Lib.hid (Lv1.out.below b15)
        have Lv2 := Go.Lib.hid (Lv2.out.below b15)
        have HW := Go.Lib.hid (HW.out.trans (b15.mono HW.out.size))
        have Lbk := Go.Lib.hid (lst0 o15 (by omega))
        clear o15 b15
        have HE := Go.Lib.hid (likeInts_same _ _ _ cbk cq _ _ _ _ _ _ Lbk.out.rd Lq.out.rd (by first | omega | simp))
        go_wp2_with fail
        refine HE.out.mono ?_
        rintro _ w16 ⟨rfl, x16, e16⟩
        have b16 := below_of_drewN e16
        have Lz := Go.Lib.hid (Lz.out.below b16)
        have Le := Go.Lib.hid (Le.out.below b16)
        have La := Go.Lib.hid (La.out.below b16)
        have Lb := Go.Lib.hid (Lb.out.below b16)
        have Lu1 := Go.Lib.hid (Lu1.out.below b16)
        have Lu2 := Go.Lib.hid (Lu2.out.below b16)
        have Lq := Go.Lib.hid (Lq.out.below b16)
        have Lv1 := Go.Lib.hid (Lv1.out.below b16)
        have Lv2 := Go.Lib.hid (Lv2.out.below b16)
        have Lbk := Go.Lib.hid (Lbk.out.below b16)
        have HW := Go.Lib.hid (HW.out.trans (b16.mono HW.out.size))
        clear b16 e16 HE
        go_wp2_with fail
        refine (HB2.out _ Lv1.out.rd).mono ?_
        rintro _ w17 ⟨rfl, b17⟩
        have Lz := Go.Lib.hid (Lz.out.below b17)
        have Le := Go.Lib.hid (Le.out.below b17)
        have La := Go.Lib.hid (La.out.below b17)
        have Lb := Go.Lib.hid (Lb.out.below b17)
        have Lu1 := Go.Lib.hid (Lu1.out.below b17)
        have Lu2 := Go.Lib.hid (Lu2.out.below b17)
        have Lq := Go.Lib.hid (Lq.out.below b17)
        have Lv1 := Go.Lib.hid (Lv1.out.below b17)
        have Lv2 := Go.Lib.hid (Lv2.out.below b17)
        have Lbk := Go.Lib.hid (Lbk.out.below b17)
        have HW := Go.Lib.hid (HW.out.trans (b17.mono HW.out.size))
        clear b17
        go_wp2_with fail
        go_meet
        exact ⟨Lz.out, La.out, Lb.out, Lu1.out, HW.out⟩
    case rest =>
      obtain ⟨Lz_, La_, Lb_, Lu1_, hW_⟩ := hcut
      have Lz := Go.Lib.hid Lz_
      have La := Go.Lib.hid La_
      have Lb := Go.Lib.hid Lb_
      have Lu1 := Go.Lib.hid Lu1_
      have HW := Go.Lib.hid hW_
      clear hW_ Lz_ La_ Lb_ Lu1_
      go_upto_block 0 with fail
      go_cut [] (fun wx => Ls zs Bz cz wx ∧ Below w.heap.size w wx)
      case first =>
        obtain ⟨wi, hwi⟩ : ∃ wi, wi = wc := ⟨_, rfl⟩
        by_cases hM : M2 = 0
        case neg =>
          have hMb : (M2 == 0) = false := by simpa using hM
          clear hM hwi
          go_wp2_with fail
          go_loopw [33] (fun i wr => i = .int .i64 0 ∧ wr = wc) (fun _ _ => 0)
          case atStart => exact ⟨rfl, rfl⟩
          case round =>
            obtain ⟨rfl, rfl⟩ := hrel
            go_wp2_with fail
            go_meet
            exact ⟨Lz.out, HW.out⟩
        case pos =>
          subst hM
          obtain ⟨hL, hK, rfl⟩ := moves_ok HM.out
          have hlen := hL.len
          have HLEN := Go.Lib.hid hlen
          have HL2 := Go.Lib.hid hK.len
          have hf1 := hL.few
          have hge : my ≤ (xs.length : Int) := by omega
          clear hL hK hlen hwi
          have HMEM := Go.Lib.hid (fun k (hk : k < xs.length) => moves_mem (xs := xs) (ys := ys) hk)
          go_wp2_with fail
          go_loopw [33] (fun i wr => ∃ k : Nat, k ≤ xs.length ∧ i = .int .i64 k ∧ Eqw wc wr) (fun i _ => xs.length - (intOf i).toNat)
          case atStart => exact ⟨0, Nat.zero_le _, rfl, Eqw.refl _⟩
          case round =>
            obtain ⟨k, hk, rfl, hwr⟩ := hrel
            have bq := eqw_below hwr
            have HWR := Go.Lib.hid hwr
            have Lz := Go.Lib.hid (Lz.out.below bq)
            have La := Go.Lib.hid (La.out.below bq)
            have Lb := Go.Lib.hid (Lb.out.below bq)
            have Lu1 := Go.Lib.hid (Lu1.out.below bq)
            have HW := Go.Lib.hid (HW.out.trans (bq.mono HW.out.size))
            clear bq hwr
            by_cases hlt : k < xs.length
            case neg =>
              obtain rfl : k = xs.length := by omega
              go_wp2_with fail
              go_meet
              exact ⟨Lz.out, HW.out⟩
            case pos =>
              obtain ⟨b1, o1, hA1, -, -, hc1⟩ := La.out.rd.at_ (k := k) hlt
              obtain ⟨b2, o2, hA2, -, -, hc2⟩ := Lb.out.rd.at_ (k := k) (by have := HL2.out; have := HLEN.out; omega)
              subst hA1
              subst hA2
              have d1 := hc1 k _ (ints_at xs k hlt)
              have d2 := hc2 k _ (ints_at ys k (by have := HL2.out; have := HLEN.out; omega))
              have HH := Go.Lib.hid (hasInt_ Au1 _ cu1 _ _ _ (k : Int) wr.drew (Lu1.out.rd.drewN 1) (by omega))
              have hkx : (k : Int) < xs.length := by omega
              have hky : (k : Int) < ys.length := by have := HL2.out; have := HLEN.out; omega
              have hkm : (k : Int) < my := by have := HLEN.out; omega
              have hk0 : (0 : Int) ≤ k := by omega
              rw [HMEM.out k hlt] at HH
              generalize xs.getD k 0 = X at *
              generalize ys.getD k 0 = Y at *
              clear hc1 hc2
              by_cases hXY : X = Y
              case pos =>
                have hdec : decide (X ≠ Y) = false := by simp [hXY]
                rw [hdec] at HH
                have hxb : (X != Y) = false := by simp [hXY]
                clear hXY hdec
                go_upto_region 24 with fail
                go_region_held3 (fun w' => w'.cell? ⟨b1, o1 + k, none⟩ = some (.int .i64 X) ∧ w'.cell? ⟨b2, o2 + k, none⟩ = some (.int .i64 Y)) (first | exact ⟨d1, d2⟩ | assumption) ((go_at_call 38; refine HH.out.mono ?_; rintro _ _ ⟨rfl, rfl⟩))
                go_wp2_with fail
                go_roundw
                case rel => exact ⟨k + 1, by omega, by go_num, HWR.out.drew⟩
                case measure => simp [intOf]; omega
              case neg =>
                have hdec : decide (X ≠ Y) = true := by simp [hXY]
                rw [hdec] at HH
                have hxb : (X != Y) = true := by simp [hXY]
                clear hXY hdec
                go_upto_region 24 with fail
                go_region_held3 (fun w' => w'.cell? ⟨b1, o1 + k, none⟩ = some (.int .i64 X) ∧ w'.cell? ⟨b2, o2 + k, none⟩ = some (.int .i64 Y)) (first | exact ⟨d1, d2⟩ | assumption) ((go_at_call 38; refine HH.out.mono ?_; rintro _ _ ⟨rfl, rfl⟩))
                go_wp2_with fail
                go_roundw
                case rel => exact ⟨k + 1, by omega, by go_num, HWR.out.drew⟩
                case measure => simp [intOf]; omega
      case rest =>
        obtain ⟨Lz_, hW_⟩ := hcut
        have Lz := Go.Lib.hid Lz_
        have HW := Go.Lib.hid hW_
        clear hW_ Lz_
        by_cases hP : P2 = 0
        case neg =>
          have hPb : (P2 != 0) = true := by simpa using hP
          clear hP
          go_wp2_with fail
          go_ret
          exact ⟨rfl, HW.out⟩
        case pos =>
          subst hP
          obtain ⟨hL, -⟩ := cross_ok HP.out
          have hlen := hL.len
          have HLEN := Go.Lib.hid hlen
          obtain ⟨r0, r1, -⟩ := hL.rim
          have hf1 := hL.few
          have hge : m ≤ (zs.length : Int) := by omega
          have HLC := Go.Lib.hid hL
          have HCR := Go.Lib.hid (fun (j : Nat) (hj : j < zs.length) (w0 : World) h0 => (show Calls _ _ _ w0 (Gives2 (((countAt m zs j : Nat) : Int), 0) w0) from cross_at hL hj ▸ implCrossings m Bz cz zs j w0 0 w0.heap.size h0))
          have HEV := Go.Lib.hid (fun w0 h0 => implEven m Bz cz zs w0 0 w0.heap.size h0)
          have hp00 : placeB m 0 = true := placeB_iff.2 ⟨Int.le_refl 0, by omega⟩
          have hro : rotR m 0 zs = (zs, 0) := by unfold rotR; rw [if_pos hL, if_pos hp00, rot_zero hL]
          have HRO := Go.Lib.hid (fun w0 h0 => implRotateLacing m Bz cz zs 0 w0 0 w0.heap.size h0)
          rw [hro] at HRO
          have HSUM := Go.Lib.hid (sum_even (zs := zs) hlen)
          clear hro hL hlen hp00
          go_wp2_with fail
          refine (HCR.out 0 (by omega) _ Lz.out.rd).mono ?_
          rintro _ w18 ⟨rfl, b18⟩
          have Lz := Go.Lib.hid (Lz.out.below b18)
          have HW := Go.Lib.hid (HW.out.trans (b18.mono HW.out.size))
          clear b18
          go_wp2_with fail
          go_loopw [34, 35, 38] (fun tot sm i wr => ∃ k : Nat, k ≤ zs.length ∧ i = .int .i64 k ∧ tot = .int .i64 (sumTo m zs k : Nat) ∧ sm = .bool ((List.range k).all (sameB m zs)) ∧ Below w18.heap.size w18 wr) (fun _ _ i _ => zs.length - (intOf i).toNat)
          case atStart => exact ⟨0, Nat.zero_le _, rfl, rfl, rfl, Below.refl _ _⟩
          case round =>
            obtain ⟨k, hk, rfl, rfl, rfl, bq⟩ := hrel
            have HBQ := Go.Lib.hid bq
            have Lz := Go.Lib.hid (Lz.out.below bq)
            have HW := Go.Lib.hid (HW.out.trans (bq.mono HW.out.size))
            clear bq
            by_cases hlt : k < zs.length
            case neg =>
              obtain rfl : k = zs.length := by omega
              have hse := HSUM.out
              have hev : ((sumTo m zs zs.length : Nat) : Int).tmod 2 = 0 := by rw [Int.tmod_eq_emod_of_nonneg (by omega)]; omega
              have hev2 : ((sumTo m zs zs.length : Nat) : Int) % 2 = 0 := by omega
              clear hse
              generalize sumTo m zs zs.length = T at *
              obtain ⟨z2, ⟨e2, hz2⟩, hzz⟩ := even_code HLC.out
              rw [hz2] at HEV
              clear hz2
              generalize (List.range zs.length).all (sameB m zs) = sb at *
              go_wp2_with fail
              refine (HEV.out _ Lz.out.rd).mono ?_
              rintro _ w19 ⟨rfl, b19⟩
              have Lz := Go.Lib.hid (Lz.out.below b19)
              have HW := Go.Lib.hid (HW.out.trans (b19.mono HW.out.size))
              clear b19
              go_wp2_with fail
              refine (HRO.out _ Lz.out.rd).mono ?_
              rintro _ w20 ⟨Aro, cro, rfl, o20, b20⟩
              try dsimp only at o20
              have Lz := Go.Lib.hid (Lz.out.below b20)
              have HW := Go.Lib.hid (HW.out.trans (b20.mono HW.out.size))
              have Lro := Go.Lib.hid (lst0 o20 (by omega))
              clear o20 b20
              cases sb
              · have hz3 : (z2 == 0) = false := by simpa using hzz
                clear hzz
                have HE := Go.Lib.hid (likeInts_same _ _ _ cro cz _ _ _ _ _ _ Lro.out.rd Lz.out.rd (by first | omega | simp))
                go_wp2_with fail
                refine HE.out.mono ?_
                rintro _ w21 ⟨rfl, x21, e21⟩
                have b21 := below_of_drewN e21
                have Lz := Go.Lib.hid (Lz.out.below b21)
                have Lro := Go.Lib.hid (Lro.out.below b21)
                have HW := Go.Lib.hid (HW.out.trans (b21.mono HW.out.size))
                clear b21 e21 HE
                go_wp2_with fail
                go_ret
                exact ⟨rfl, HW.out⟩
              · have hz3 : (z2 == 0) = true := by simpa using hzz
                clear hzz
                have HE := Go.Lib.hid (likeInts_same _ _ _ cro cz _ _ _ _ _ _ Lro.out.rd Lz.out.rd (by first | omega | simp))
                go_wp2_with fail
                refine HE.out.mono ?_
                rintro _ w22 ⟨rfl, x22, e22⟩
                have b22 := below_of_drewN e22
                have Lz := Go.Lib.hid (Lz.out.below b22)
                have Lro := Go.Lib.hid (Lro.out.below b22)
                have HW := Go.Lib.hid (HW.out.trans (b22.mono HW.out.size))
                clear b22 e22 HE
                go_wp2_with fail
                go_ret
                exact ⟨rfl, HW.out⟩
            case pos =>
              have hkm : (k : Int) < m := by have := HLEN.out; omega
              have hcs := Nat.le_trans (sumTo_le (n := m) hlt) (Nat.mul_le_mul (show k ≤ 24 by omega) hf1)
              have hcl := countAt_le m zs k
              have HS1 := Go.Lib.hid (sumTo_succ m zs k)
              have HA1 := Go.Lib.hid (show (List.range (k + 1)).all (sameB m zs) = ((List.range k).all (sameB m zs) && (((countAt m zs k : Nat) : Int) == ((countAt m zs 0 : Nat) : Int))) from all_same m zs k)
              generalize sumTo m zs k = T at *
              generalize (List.range k).all (sameB m zs) = sb at *
              go_wp2_with fail
              refine (HCR.out k hlt _ Lz.out.rd).mono ?_
              rintro _ w23 ⟨rfl, b23⟩
              have HBQ2 := Go.Lib.hid (HBQ.out.trans (b23.mono HBQ.out.size))
              clear b23
              cases sb
              · go_wp2_with fail
                go_roundw
                case rel => exact ⟨k + 1, by omega, by go_num, by rw [HS1.out]; go_num, by rw [HA1.out]; rfl, HBQ2.out⟩
                case measure => simp [intOf]; omega
              · go_wp2_with fail
                go_roundw
                case rel => exact ⟨k + 1, by omega, by go_num, by rw [HS1.out]; go_num, by rw [HA1.out]; rfl, HBQ2.out⟩
                case measure => simp [intOf]; omega

set_option maxRecDepth 100000 in
theorem lifted (os : Os) (started : os.Started) (H : Type) (enc : TypeId × Value → H) :
    ReturnsInHanded {} Try.checked os 4 .any (Rows.fnCrossingsSpec.pre6 enc Try.prog Try.f4 Rows.fnCrossingsRow.domain false) (Rows.fnCrossingsSpec.post enc Try.prog Try.f4 false true false false) := by
  refine returnsInHanded_of_change_sized (C := Try.checked) own started (by kernel_rfl) Try.func4
    (ChangeSpec.witness6 (enc := enc) (C := Try.checked) false ⟨#[], #[.slice none 0 0], []⟩ 8 (by kernel_rfl) (by kernel_rfl) (by kernel_rfl) (by kernel_rfl)) ?_
  intro W base args ds gs before hval0 hW hcnd hsz0 _
  have hsz : (DataW.weightsEach Try.prog (Try.f4.params.toList ++ Rows.fnCrossingsSpec.plain.varTypes Try.prog) (ds ++ gs)).all (· ≤ reachBytes) = true := hsz0
  clear hsz0
  have hval : ∀ (j : Nat) t v, Try.f4.params[j]? = some t → args[j]? = some v → Value.okWide Try.prog W .any base t v := hval0
  clear hval0
  have hW' := hW
  obtain ⟨p, q, hA0, hV, rfl, hfz, hnd⟩ := hW
  have hA : DataW.TrodAll enc Try.prog W 0 (fun _ => true) true Try.f4.params.toList args.toList ds p := hA0
  rw [Try.params4] at hA hval hsz
  obtain ⟨v0, vs0, d0, ds0, p0, q0, hargs, rfl, rfl, h0, r0⟩ := trodAll_cons hA
  obtain ⟨rfl, rfl, rfl⟩ := trodAll_nil r0
  obtain rfl : args = #[v0] := by cases args; simp_all
  obtain ⟨rfl, rfl⟩ := trodVars_none hV
  obtain ⟨a0, len0, cap0, rfl⟩ := okWide_slice Try.underlying22 (hval 0 22 v0 rfl rfl)
  have k0 := h0
  have lt0 : ∀ x ∈ p0, x.block < W.heap.size := by obtain ⟨m, hm⟩ := k0; exact DataW.trod_lt m _ _ _ hm
  obtain ⟨⟨z0, rd0, sz0⟩, hlc0, hp0⟩ := open_list_bytes h0
  have reach0 : len0 * 1 ≤ 140737488351232 := by
    rcases hp0 with hp0 | ⟨E0, S0, rfl, hl0⟩
    · omega
    · have := sized_slice hsz (j := 0) (t := 22) (e := 5) rfl rfl Try.underlying22
      rw [show Try.prog.bytesOf 5 = 1 by kernel_rfl] at this
      simp only [reachBytes] at this
      omega
  clear hA0
  refine (walk a0 len0 cap0 z0 W rd0 reach0 sz0).mono fun e W' ⟨he, bel⟩ => ?_
  subst he
  exact ⟨_, rfl, _, _, _, [], _, [], hW', trodAll_mk1 (shut_bool Try.underlying4 _), (trodAll_cons_mk (Below.trod laidOut (by kernel_rfl) (of_decide_eq_true (by kernel_rfl)) k0 bel lt0) trodAll_mk0), rfl, bel.frame _, fun h => by cases h⟩

theorem over : Rows.fnCrossingsRow.holds Try.pinned (OpenSpec.ofChange Rows.fnCrossingsSpec) :=
  OpenClaim.holds_of_wide 4 Try.f4 rfl rfl rfl rfl rfl rfl rfl ⟨rfl, rfl, rfl, rfl, rfl⟩ rfl rfl rfl rfl rfl (by kernel_rfl) Try.func4 (by kernel_rfl)
    (of_decide_eq_true (by kernel_rfl)) (by unfold Func.isWrapper; first | (rw [if_pos (by decide +kernel)]; kernel_rfl) | (rw [if_neg (by decide +kernel)]; exact ⟨rfl, rfl⟩))
    (fun os started H enc _ => lifted os started H enc)

theorem proved : Rows.FnCrossingsSaid := over
end Go.Proofs.Ytlmbcidijbohiaa.fnCrossings
