/- Lists of words, read back from their texts. No walk. -/
import Derived.Test.YtbagolmojenohaaDoorReadWords
namespace Go.Proofs.YtbagolmojenohaaDoor
theorem joinTail_consW (y : List UInt8) (r : List (List UInt8)) : Go.Lib.joinTail [44] (y :: r) = 44 :: (y ++ Go.Lib.joinTail [44] r) := by simp [Go.Lib.joinTail]
theorem join_twoW (x y : List UInt8) (r : List (List UInt8)) : Go.Lib.join (x :: y :: r) [44] = x ++ 44 :: Go.Lib.join (y :: r) [44] := by
  rw [Go.Lib.join_cons, joinTail_consW, Go.Lib.join_cons]
theorem split_joinW : ∀ (L : List (List UInt8)), L ≠ [] → (∀ x ∈ L, 44 ∉ x) → splitC (Go.Lib.join L [44]) = L
  | [], h, _ => absurd rfl h
  | [x], _, h => by rw [Go.Lib.join_one]; exact splitC_none (h x (by simp))
  | x :: y :: r, _, h => by
    rw [join_twoW, splitC_cut _ (h x (by simp)), split_joinW (y :: r) (by simp) (fun z hz => h z (by simp [hz]))]
theorem join_splitW : ∀ (n : Nat) (l : List UInt8), l.length ≤ n → Go.Lib.join (splitC l) [44] = l := by
  intro n
  induction n with
  | zero =>
    intro l hl
    obtain rfl : l = [] := List.eq_nil_of_length_eq_zero (by omega)
    rfl
  | succ n ih =>
    intro l hl
    rcases comma_cases l with hn | ⟨a, b, rfl, hn⟩
    · rw [splitC_none hn, Go.Lib.join_one]
    · rw [splitC_cut b hn]
      have hb := ih b (by simp at hl; omega)
      cases hs : splitC b with
      | nil => exact absurd hs (splitC_ne b)
      | cons y r => rw [join_twoW, ← hs, hb]
theorem texts_cut (s : ByteArray) : texts (cut s) = splitC s.data.toList := by
  unfold texts cut
  rw [List.map_map]
  conv => rhs; rw [← List.map_id (splitC s.data.toList)]
  apply List.map_congr_left
  intro x _
  simp
theorem codeW_zero {zs : List ByteArray} (h : codeW zs = 0) : wordsB zs = true ∧ zs.length ≤ 60 := by
  cases hw : wordsB zs
  · rw [codeW_bad hw] at h; omega
  · refine ⟨rfl, ?_⟩
    by_cases hl : 60 < zs.length
    · rw [codeW_long hw hl] at h; omega
    · omega
theorem word_sizes {zs : List ByteArray} (h : wordsB zs = true) : ∀ z ∈ zs, z.size ≤ maxLen := fun z hz => by
  have := wordB_small (List.all_eq_true.1 h z hz)
  unfold maxLen; omega
theorem reads_words {s : ByteArray} {zs : List ByteArray} (h : readsW s = some zs) : codeW zs = 0 ∧ s.data.toList = wtext zs := by
  unfold readsW at h
  split at h
  · rename_i hd
    injection h with h
    subst h
    have : s.toList = [45] := by simpa using hd
    rw [ByteArray.toList_eq] at this
    exact ⟨rfl, this⟩
  · split at h
    · rename_i h2
      injection h with h
      subst h
      simp only [Bool.and_eq_true, decide_eq_true_eq] at h2
      have hne := cut_pos s
      refine ⟨codeW_ok h2.1 (by omega), ?_⟩
      unfold wtext
      rw [if_neg (by omega), texts_cut]
      exact (join_splitW _ s.data.toList (Nat.le_refl _)).symm
    · cases h
theorem words_read {t : ByteArray} {zs : List ByteArray} (hc : codeW zs = 0) (ht : t.data.toList = wtext zs) : readsW t = some zs := by
  obtain ⟨hw, hl⟩ := codeW_zero hc
  unfold readsW
  by_cases h0 : zs.length = 0
  · obtain rfl : zs = [] := List.eq_nil_of_length_eq_zero h0
    have : t.toList = [45] := by rw [ByteArray.toList_eq, ht]; rfl
    rw [this]
    rfl
  · unfold wtext at ht
    rw [if_neg h0] at ht
    have hL : texts zs ≠ [] := fun e => h0 (by rw [← texts_len, e]; rfl)
    have hcom : ∀ z ∈ zs, 44 ∉ z.data.toList := fun z hz h44 => by
      have h1 := List.all_eq_true.1 hw z hz
      rw [wordB_comma h44] at h1
      cases h1
    have hs : splitC t.data.toList = texts zs := by
      rw [ht]
      refine split_joinW _ hL fun x hx => ?_
      obtain ⟨z, hz, rfl⟩ := List.mem_map.1 hx
      exact hcom z hz
    have hcut : cut t = zs := by
      unfold cut
      rw [hs]
      exact map_eta zs
    have hd : ¬ (t.toList == [45]) = true := by
      intro h
      have h45 : t.data.toList = [45] := by rw [← ByteArray.toList_eq]; simpa using h
      rw [h45] at hs
      have h1 : splitC [45] = [[45]] := rfl
      rw [h1] at hs
      cases zs with
      | nil => exact h0 rfl
      | cons z r =>
        simp only [texts, List.map_cons, List.cons.injEq] at hs
        have h2 := List.all_eq_true.1 hw z (by simp)
        unfold wordB at h2
        rw [← hs.1] at h2
        simp [low] at h2
    rw [if_neg hd, hcut, hw, decide_eq_true hl]
    rfl
theorem wtext_len {zs : List ByteArray} (hs : ∀ z ∈ zs, z.size ≤ 17) (hl : zs.length ≤ 61) : (wtext zs).length ≤ 1100 := by
  unfold wtext
  split
  · simp
  · have := acc_len (L := texts zs) (sep := [44]) (m := 17) (by simp) (fun l hl => by
      obtain ⟨z, hz, rfl⟩ := List.mem_map.1 hl
      have := hs z hz
      simpa using this) (texts zs).length (Nat.le_refl _)
    rw [acc_all, texts_len] at this
    omega
theorem join_lenW {zs : List ByteArray} (hs : ∀ z ∈ zs, z.size ≤ 17) (hl : zs.length ≤ 61) : (Go.Lib.join (texts zs) [44]).length ≤ 1100 := by
  have := acc_len (L := texts zs) (sep := [44]) (m := 17) (by simp) (fun l hl => by
    obtain ⟨z, hz, rfl⟩ := List.mem_map.1 hl
    have := hs z hz
    simpa using this) (texts zs).length (Nat.le_refl _)
  rw [acc_all, texts_len] at this
  omega
end Go.Proofs.YtbagolmojenohaaDoor
