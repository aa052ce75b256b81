/- The program's usable gears, and how many they are. -/
import Derived.Test.YthedanpldebjcaaShiftS6
import Derived.Test.YthedanpldebjcaaShP4
import Derived.Test.YthedanpldebjcaaShiftS4
import Derived.Test.YthedanpldebjcaaShP6
import Derived.Test.YthedanpldebjcaaShP3
import Derived.Test.YthedanpldebjcaaEqZ
namespace Go.Proofs.Ythedanpldebjcaa
open Go.RowKit
theorem usableR_few (x : Trn) (lm : Int) : (usableR x lm).1.length ≤ 1000000 := by
  unfold usableR
  split
  · have h1 := usable_few x lm
    have h2 := ordI_few (trainB_ok (code11_ok (by assumption)).1)
    show (rowsG _).length ≤ _
    rw [rowsG_len]
    omega
  · simp
end Go.Proofs.Ythedanpldebjcaa
namespace Go.Proofs.Ythedanpldebjcaa
open Go.RowKit
theorem shortR_few (x : Trn) (lm f r tf tr : Int) : (shortR x lm f r tf tr).1.length ≤ 1000000 := by
  unfold shortR
  split
  · split
    · split
      · simp
      · rename_i h1 h2 h3
        obtain ⟨ht, hg, -⟩ := code11_ok h1
        have hx := trainB_ok ht
        have ha : okG x lm (f, r) = true := okG_of hg (by simp only [Bool.or_eq_true, not_or, Bool.not_eq_true] at h3; exact h3.1)
        have hb := bfEnd_ok hx ha
        unfold wayOf
        split
        · have h36 := ordI_few hx
          have hj : (bfEnd x lm (f, r)).seen.findIdx (· == (tf, tr)) < (bfEnd x lm (f, r)).seen.length := List.findIdx_lt_length_of_exists ⟨_, by simpa using (by assumption : (bfEnd x lm (f, r)).seen.contains (tf, tr) = true), by simp⟩
          exact Nat.le_trans (way_few ha (ordI x).length _ hj) (by omega)
        · simp
    · simp
  · simp
end Go.Proofs.Ythedanpldebjcaa
namespace Go.Proofs.Ythedanpldebjcaa
open Go.RowKit
end Go.Proofs.Ythedanpldebjcaa
namespace Go.Proofs.Ythedanpldebjcaa
open Go.RowKit
set_option linter.unusedSimpArgs false
set_option linter.unusedVariables false

theorem GivesG.rd11 {p : List (List Int) × Int} {w w' : World} {e : Ending} (h : GivesG p w e w') : GivesR p w e w' := by
  obtain ⟨A, cap, a, c, G, g, he, hg, b⟩ := h
  exact ⟨A, cap, he, hg.rdZ, b⟩
def hasRB (zs : List (List Int)) (a b : Int) : Bool := zs.any fun z => decide (z.length = 2) && (decide (z.getD 0 0 = a) && decide (z.getD 1 0 = b))
theorem hasRB_rows (L : List Gr) (a b : Int) : hasRB (rowsG L) a b = hasG L a b := by
  unfold hasRB rowsG hasG
  rw [List.any_map, Bool.eq_iff_iff, List.any_eq_true]
  simp only [List.contains_eq_mem, decide_eq_true_eq, List.mem_map]
  constructor
  · rintro ⟨g, hg, h⟩
    refine ⟨g, hg, ?_⟩
    simp [rowG] at h
    unfold plG
    rw [h.1, h.2]
  · rintro ⟨g, hg, h⟩
    refine ⟨g, hg, ?_⟩
    unfold plG at h
    simp [rowG, (Prod.mk.inj h).1, (Prod.mk.inj h).2]
theorem code11_zero {x : Trn} {lm f r : Int} (h : code11 x lm f r = 0) : code11 x lm 0 0 = 0 := by
  obtain ⟨ht, -, hl⟩ := code11_ok h
  have hx := trainB_ok ht
  have h1 := hx.f.one
  have h2 := hx.r.one
  refine code11_of ht ?_ hl
  unfold gearB
  simp only [Bool.and_eq_true, decide_eq_true_eq]
  omega
theorem usable_all {x : Trn} {lm f r nr q sh v u p : Int} {us : List (List Int)} {cr : Bool} (hR : reachR x lm f r = (nr, q)) (hU : usableR x lm = (us, p)) (hS : ringR x lm = (sh, v)) (hC : crossR x lm f r = (cr, u)) :
    v = p ∧ us.length ≤ 36 ∧ (p = 0 → 0 ≤ sh ∧ sh ≤ 2 * (us.length : Int)) ∧ (q = 0 → u = 0 ∧ 1 ≤ nr ∧ nr ≤ (us.length : Int)) ∧ (u = 0 → p = 0 ∧ hasRB us f r = !cr) := by
  have hUs : code11 x lm 0 0 = 0 → us = rowsG (usableI x lm) ∧ p = 0 := fun h => by
    unfold usableR at hU
    rw [if_pos h] at hU
    exact ⟨(Prod.mk.inj hU).1.symm, (Prod.mk.inj hU).2.symm⟩
  have hUn : ¬ code11 x lm 0 0 = 0 → us = [] ∧ p = code11 x lm 0 0 := fun h => by
    unfold usableR at hU
    rw [if_neg h] at hU
    exact ⟨(Prod.mk.inj hU).1.symm, (Prod.mk.inj hU).2.symm⟩
  have hvp : v = p := by
    unfold ringR at hS
    by_cases h : code11 x lm 0 0 = 0
    · rw [if_pos h] at hS
      rw [(hUs h).2]; exact (Prod.mk.inj hS).2.symm
    · rw [if_neg h] at hS
      rw [(hUn h).2]; exact (Prod.mk.inj hS).2.symm
  have hu0 : u = 0 → code11 x lm f r = 0 := fun h => by
    unfold crossR at hC
    by_cases h1 : code11 x lm f r = 0
    · exact h1
    · rw [if_neg h1] at hC
      exact (Prod.mk.inj hC).2.trans h
  refine ⟨hvp, ?_, fun hp => ?_, fun hq => ?_, fun hu => ?_⟩
  · by_cases h : code11 x lm 0 0 = 0
    · rw [(hUs h).1, rowsG_len]
      exact Nat.le_trans (usable_few x lm) (ordI_few (trainB_ok (code11_ok h).1))
    · rw [(hUn h).1]; simp
  · have h : code11 x lm 0 0 = 0 := by
      rcases Decidable.em (code11 x lm 0 0 = 0) with h | h
      · exact h
      · exact ((hUn h).2).symm.trans hp
    rw [hvp, hp] at hS
    have := ring_law hS
    rw [(hUs h).1, rowsG_len]
    exact this
  · have hs : start11 x lm f r = 0 := by
      unfold reachR at hR
      by_cases h1 : start11 x lm f r = 0
      · exact h1
      · rw [if_neg h1] at hR
        exact (Prod.mk.inj hR).2.trans hq
    have hc : code11 x lm f r = 0 := by
      unfold start11 at hs
      by_cases h1 : code11 x lm f r = 0
      · exact h1
      · rw [if_neg h1] at hs; exact hs
    have h := code11_zero hc
    have hl := reach_law (x := x) (lm := lm) (f := f) (r := r) (n := nr) (by rw [hR, hq])
    rw [(hUs h).1, rowsG_len]
    refine ⟨?_, hl⟩
    unfold crossR at hC
    rw [if_pos hc] at hC
    exact (Prod.mk.inj hC).2.symm
  · have hc := hu0 hu
    have h := code11_zero hc
    have hl := cross_law (x := x) (lm := lm) (f := f) (r := r) (c := cr) (by rw [hC, hu])
    rw [(hUs h).1, hasRB_rows]
    exact ⟨(hUs h).2, hl⟩
set_option maxRecDepth 100000 in
set_option maxHeartbeats 4000000 in
theorem lawHasRow (B : Option Addr) (c : Nat) (zs : List (List Int)) (a b : Int) (w : World) (H : RdZ zs B w) :
    Calls Try.prog 32 #[.slice B zs.length c, .int .i64 a, .int .i64 b] w (Just (.bool (hasRB zs a b)) w) := by
  have HL := Go.Lib.hid H
  have hn := H.many
  clear H
  go_enter Try.func32, Try.ntmps32
  go_wp2_with fail
  go_loopw [7] (fun i wr => ∃ k : Nat, k ≤ zs.length ∧ i = .int .i64 k ∧ wr = w ∧ hasRB (zs.take k) a b = false) (fun i _ => zs.length - (intOf i).toNat)
  case atStart => exact ⟨0, Nat.zero_le _, rfl, rfl, by simp [hasRB]⟩
  case round =>
    obtain ⟨k, hk, rfl, rfl, he⟩ := hrel
    have HE := Go.Lib.hid he
    clear he
    by_cases hlt : k < zs.length
    case neg =>
      obtain rfl : k = zs.length := by omega
      have HV := Go.Lib.hid (show hasRB zs a b = false by have := HE.out; rwa [List.take_length] at this)
      go_wp2_with fail
      go_ret
      exact ⟨by rw [HV.out]; rfl, rfl⟩
    case pos =>
      obtain ⟨hb, ho, D, d, e, hh, hr⟩ := HL.out.at_ k hlt
      subst e
      have hkl : (k : Int) < zs.length := by omega
      have HSU := Go.Lib.hid (show hasRB (zs.take (k + 1)) a b = (decide ((rowAt zs k).length = 2) && (decide ((rowAt zs k).getD 0 0 = a) && decide ((rowAt zs k).getD 1 0 = b))) by
        have h1 := HE.out
        unfold hasRB at *
        have e : zs[k] = rowAt zs k := by simp [rowAt, List.getD, hlt]
        rw [List.take_add_one, List.getElem?_eq_getElem hlt, List.any_append, h1, e, Bool.false_or]
        show (_ || false) = _
        rw [Bool.or_false])
      have HTR := Go.Lib.hid (show (decide ((rowAt zs k).length = 2) && (decide ((rowAt zs k).getD 0 0 = a) && decide ((rowAt zs k).getD 1 0 = b))) = true → hasRB zs a b = true from fun h => by
        unfold hasRB
        refine List.any_eq_true.2 ⟨rowAt zs k, ?_, h⟩
        unfold rowAt
        rw [List.getD_eq_getElem?_getD, List.getElem?_eq_getElem hlt]
        exact List.getElem_mem hlt)
      generalize rowAt zs k = z at *
      by_cases h2 : z.length = 2
      case neg =>
        have HN := Go.Lib.hid (show hasRB (zs.take (k + 1)) a b = false by rw [HSU.out, decide_eq_false h2]; rfl)
        have h2b : ((z.length : Int) == 2) = false := by simp; omega
        clear hr h2
        go_wp2_with fail
        go_roundw
        case rel => exact ⟨k + 1, by omega, by go_num, by first | rfl | trivial, HN.out⟩
        case measure => simp [intOf]; omega
      case pos =>
        obtain ⟨zb, zo, e, -, -, hc⟩ := hr.at_ (k := 0) (by omega)
        subst e
        have hz0 : wr.cell? ⟨zb, zo, none⟩ = some (.int .i64 (z.getD 0 0)) := hc 0 _ (ints_at z 0 (by omega))
        have hz1 : wr.cell? ⟨zb, zo + 1, none⟩ = some (.int .i64 (z.getD 1 0)) := hc 1 _ (ints_at z 1 (by omega))
        rw [h2] at hh
        have HSU := Go.Lib.hid (show hasRB (zs.take (k + 1)) a b = (decide (z.getD 0 0 = a) && decide (z.getD 1 0 = b)) by rw [HSU.out, decide_eq_true h2]; rfl)
        have HTR := Go.Lib.hid (show (decide (z.getD 0 0 = a) && decide (z.getD 1 0 = b)) = true → hasRB zs a b = true from fun h => HTR.out (by rw [decide_eq_true h2, h]; rfl))
        clear hr hc h2
        generalize z.getD 0 0 = z0 at *
        generalize z.getD 1 0 = z1 at *
        by_cases ha : z0 = a
        case neg =>
          have HN := Go.Lib.hid (show hasRB (zs.take (k + 1)) a b = false by rw [HSU.out, decide_eq_false ha]; rfl)
          have hab : (z0 == a) = false := by simpa using ha
          clear ha
          go_wp2_with fail
          go_roundw
          case rel => exact ⟨k + 1, by omega, by go_num, by first | rfl | trivial, HN.out⟩
          case measure => simp [intOf]; omega
        case pos =>
          have hab : (z0 == a) = true := by simpa using ha
          by_cases hb2 : z1 = b
          case neg =>
            have HN := Go.Lib.hid (show hasRB (zs.take (k + 1)) a b = false by rw [HSU.out, decide_eq_false hb2, Bool.and_false])
            have hbb : (z1 == b) = false := by simpa using hb2
            clear ha hb2
            go_wp2_with fail
            go_roundw
            case rel => exact ⟨k + 1, by omega, by go_num, by first | rfl | trivial, HN.out⟩
            case measure => simp [intOf]; omega
          case pos =>
            have HV := Go.Lib.hid (HTR.out (by rw [decide_eq_true ha, decide_eq_true hb2]; rfl))
            have hbb : (z1 == b) = true := by simpa using hb2
            clear ha hb2
            go_wp2_with fail
            go_ret
            exact ⟨by rw [HV.out]; rfl, rfl⟩
end Go.Proofs.Ythedanpldebjcaa
