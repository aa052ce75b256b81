/- Lists of numbers, read back from their texts. No walk. -/
import Derived.Test.YtcknknicknolaabDoorReadList
namespace Go.Proofs.YtcknknicknolaabDoor
theorem comma_itoa (z : Int) : (44 : UInt8) ∉ Go.Lib.itoa z := by
  unfold Go.Lib.itoa
  split
  · intro h
    rcases List.mem_cons.1 h with e | e
    · cases e
    · exact decDigits_not (by decide) e
  · exact decDigits_not (by decide)
theorem joinTail_cons (y : List UInt8) (r : List (List UInt8)) : Go.Lib.joinTail [44] (y :: r) = 44 :: (y ++ Go.Lib.joinTail [44] r) := by simp [Go.Lib.joinTail]
theorem join_two (x y : List UInt8) (r : List (List UInt8)) : Go.Lib.join (x :: y :: r) [44] = x ++ 44 :: Go.Lib.join (y :: r) [44] := by
  rw [Go.Lib.join_cons, joinTail_cons, Go.Lib.join_cons]
theorem split_join : ∀ (L : List (List UInt8)), L ≠ [] → (∀ x ∈ L, 44 ∉ x) → splitC (Go.Lib.join L [44]) = L
  | [], h, _ => absurd rfl h
  | [x], _, h => by rw [Go.Lib.join_one]; exact splitC_none (h x (by simp))
  | x :: y :: r, _, h => by
    rw [join_two, splitC_cut _ (h x (by simp)), split_join (y :: r) (by simp) (fun z hz => h z (by simp [hz]))]
theorem join_split : ∀ (n : Nat) (l : List UInt8), l.length ≤ n → Go.Lib.join (splitC l) [44] = l := by
  intro n
  induction n with
  | zero =>
    intro l hl
    obtain rfl : l = [] := List.eq_nil_of_length_eq_zero (by omega)
    rfl
  | succ n ih =>
    intro l hl
    rcases comma_cases l with hn | ⟨a, b, rfl, hn⟩
    · rw [splitC_none hn, Go.Lib.join_one]
    · rw [splitC_cut b hn]
      have hb := ih b (by simp at hl; omega)
      cases hs : splitC b with
      | nil => exact absurd hs (splitC_ne b)
      | cons y r => rw [join_two, ← hs, hb]
theorem cut_lists {s : ByteArray} (f : List UInt8 → Option Int) : ((cut s).map fun x => f x.data.toList) = (splitC s.data.toList).map f := by
  unfold cut
  rw [List.map_map]
  apply List.map_congr_left
  intro x _
  simp
theorem itoas_of : ∀ (L : List (List UInt8)) (zs : List Int), L.map sgnB = zs.map some → L = itoas zs
  | [], [], _ => rfl
  | [], _ :: _, h => by simp at h
  | _ :: _, [], h => by simp at h
  | x :: L, z :: zs, h => by
    simp only [List.map_cons, List.cons.injEq] at h
    rw [itoas_of L zs h.2]
    simp [itoas, (sgnB_spec h.1).1]
theorem reads_text {s : ByteArray} {zs : List Int} (h : readsL s = some zs) : codeB zs = 0 ∧ s.data.toList = ltext zs := by
  unfold readsL at h
  split at h
  · rename_i hd
    injection h with h
    subst h
    have : s.toList = [45] := by simpa using hd
    rw [ByteArray.toList_eq] at this
    exact ⟨rfl, this⟩
  · obtain ⟨h1, h2⟩ := resL_iff.1 h
    rw [cut_lists] at h1
    have hi := itoas_of _ _ h1
    have hj := join_split _ s.data.toList (Nat.le_refl _)
    rw [hi] at hj
    have hne : ¬ zs.length = 0 := by
      intro h0
      have := splitC_ne s.data.toList
      rw [hi] at this
      exact this (List.eq_nil_of_length_eq_zero (by rw [itoas_len]; exact h0))
    exact ⟨h2, by rw [ltext_cons hne]; exact hj.symm⟩
theorem itoa_dash (z : Int) : ¬ Go.Lib.itoa z = [45] := by
  intro h
  unfold Go.Lib.itoa at h
  split at h
  · injection h with _ h
    have := decDigits_pos z.natAbs
    rw [h] at this
    simp at this
  · have := decDigits_dig z.toNat
    rw [h] at this
    revert this
    decide
theorem text_reads {t : ByteArray} {zs : List Int} (hc : codeB zs = 0) (ht : t.data.toList = ltext zs) : readsL t = some zs := by
  unfold readsL
  by_cases h0 : zs.length = 0
  · obtain rfl : zs = [] := List.eq_nil_of_length_eq_zero h0
    have : t.toList = [45] := by rw [ByteArray.toList_eq, ht]; rfl
    rw [this]
    rfl
  · rw [ltext_cons h0] at ht
    have hL : itoas zs ≠ [] := fun e => h0 (by rw [← itoas_len, e]; rfl)
    have hs : splitC t.data.toList = itoas zs := by
      rw [ht]
      refine split_join _ hL fun x hx => ?_
      obtain ⟨z, _, rfl⟩ := List.mem_map.1 hx
      exact comma_itoa z
    have hd : ¬ (t.toList == [45]) = true := by
      intro h
      have h45 : t.data.toList = [45] := by rw [← ByteArray.toList_eq]; simpa using h
      rw [h45] at hs
      have h1 : splitC [45] = [[45]] := rfl
      rw [h1] at hs
      cases zs with
      | nil => exact h0 rfl
      | cons z r =>
        simp only [itoas, List.map_cons, List.cons.injEq] at hs
        exact itoa_dash z hs.1.symm
    rw [if_neg hd]
    refine resL_iff.2 ⟨?_, hc⟩
    rw [cut_lists, hs]
    unfold itoas
    rw [List.map_map]
    apply List.map_congr_left
    intro z hz
    have hok := okVal_bd (List.all_eq_true.1 (codeB_zero hc).2 z hz)
    exact sgnB_itoa (by omega) (by omega)
end Go.Proofs.YtcknknicknolaabDoor
