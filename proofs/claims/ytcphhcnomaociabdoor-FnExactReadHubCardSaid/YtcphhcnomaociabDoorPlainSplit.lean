/- Plain facts on cutting a text at its commas. No program. -/
import Derived.Lib.Split
import Derived.KernelRfl
namespace Go.Proofs.YtcphhcnomaociabDoor

/-- A text cut at every comma. -/
def splitC : List UInt8 → List (List UInt8)
  | [] => [[]]
  | c :: r => if c = 44 then [] :: splitC r else match splitC r with | h :: t => (c :: h) :: t | [] => [[c]]

theorem splitC_ne (l : List UInt8) : splitC l ≠ [] := by
  cases l with
  | nil => simp [splitC]
  | cons c r =>
    unfold splitC
    split
    · simp
    · split <;> simp
theorem splitC_none {a : List UInt8} (h : 44 ∉ a) : splitC a = [a] := by
  induction a with
  | nil => rfl
  | cons c r ih =>
    have hc : ¬ c = 44 := fun e => h (by simp [e])
    have hr : 44 ∉ r := fun e => h (by simp [e])
    unfold splitC
    rw [if_neg hc, ih hr]
theorem splitC_cut {a : List UInt8} (b : List UInt8) (h : 44 ∉ a) : splitC (a ++ 44 :: b) = a :: splitC b := by
  induction a with
  | nil => simp [splitC]
  | cons c r ih =>
    have hc : ¬ c = 44 := fun e => h (by simp [e])
    have hr : 44 ∉ r := fun e => h (by simp [e])
    rw [List.cons_append, splitC, if_neg hc, ih hr]
theorem splitC_len (l : List UInt8) : (splitC l).length ≤ l.length + 1 := by
  induction l with
  | nil => simp [splitC]
  | cons c r ih =>
    unfold splitC
    split
    · simp only [List.length_cons]; omega
    · split
      · rename_i h t e
        rw [e] at ih
        simp only [List.length_cons] at ih ⊢
        omega
      · simp
theorem comma_cases (l : List UInt8) : 44 ∉ l ∨ ∃ a b, l = a ++ 44 :: b ∧ 44 ∉ a := by
  induction l with
  | nil => exact .inl (by simp)
  | cons c r ih =>
    by_cases hc : c = 44
    · exact .inr ⟨[], r, by simp [hc], by simp⟩
    · rcases ih with h | ⟨a, b, rfl, h⟩
      · exact .inl (by simp; exact ⟨fun e => hc e.symm, h⟩)
      · exact .inr ⟨c :: a, b, by simp, by simp; exact ⟨fun e => hc e.symm, h⟩⟩
theorem index_no {l : List UInt8} (h : 44 ∉ l) : Go.Lib.index l [44] = -1 := by
  induction l with
  | nil => rfl
  | cons c r ih =>
    have hc : ¬ (44 : UInt8) = c := fun e => h (by simp [← e])
    have hr : 44 ∉ r := fun e => h (by simp [e])
    unfold Go.Lib.index
    have : ([44].isPrefixOf (c :: r)) = false := by simp [List.isPrefixOf, hc]
    rw [this, ih hr]
    rfl
theorem index_at {a b : List UInt8} (h : 44 ∉ a) : Go.Lib.index (a ++ 44 :: b) [44] = a.length := by
  induction a with
  | nil => simp [Go.Lib.index, List.isPrefixOf]
  | cons c r ih =>
    have hc : ¬ (44 : UInt8) = c := fun e => h (by simp [← e])
    have hr : 44 ∉ r := fun e => h (by simp [e])
    rw [List.cons_append]
    unfold Go.Lib.index
    have : ([44].isPrefixOf (c :: (r ++ 44 :: b))) = false := by simp [List.isPrefixOf, hc]
    rw [this, ih hr]
    have hne : ¬ ((r.length : Int) == -1) = true := by simp
    simp only [Bool.false_eq_true, if_false]
    rw [if_neg hne]
    simp
theorem splitK_all : ∀ (K : Nat) (l : List UInt8), (splitC l).length ≤ K + 1 → Go.Lib.splitK [44] 0 K l = splitC l := by
  intro K
  induction K with
  | zero =>
    intro l h
    rcases comma_cases l with hn | ⟨a, b, rfl, hn⟩
    · rw [splitC_none hn]; rfl
    · rw [splitC_cut b hn] at h
      have := List.length_pos_iff.2 (splitC_ne b)
      simp only [List.length_cons] at h
      omega
  | succ K ih =>
    intro l h
    unfold Go.Lib.splitK
    rcases comma_cases l with hn | ⟨a, b, rfl, hn⟩
    · rw [index_no hn, splitC_none hn]; rfl
    · rw [index_at hn, splitC_cut b hn]
      have hne : ¬ ((a.length : Int) == -1) = true := by simp
      rw [if_neg hne]
      rw [splitC_cut b hn] at h
      simp only [List.length_cons] at h
      simp only [Int.toNat_natCast, Nat.add_zero, List.length_cons, List.length_nil]
      rw [List.take_left, show (a ++ 44 :: b).drop (a.length + (0 + 1)) = b by rw [show a ++ 44 :: b = (a ++ [44]) ++ b by simp]; exact List.drop_left' (by simp), ih b (by omega)]
theorem splitK_more : ∀ (K : Nat) (l : List UInt8), K + 1 < (splitC l).length → ∃ x, x ∈ Go.Lib.splitK [44] 0 K l ∧ 44 ∈ x := by
  intro K
  induction K with
  | zero =>
    intro l h
    rcases comma_cases l with hn | ⟨a, b, rfl, hn⟩
    · rw [splitC_none hn] at h; simp at h
    · exact ⟨a ++ 44 :: b, by simp [Go.Lib.splitK], by simp⟩
  | succ K ih =>
    intro l h
    rcases comma_cases l with hn | ⟨a, b, rfl, hn⟩
    · rw [splitC_none hn] at h; simp at h
    · rw [splitC_cut b hn] at h
      simp only [List.length_cons] at h
      obtain ⟨x, hx, h44⟩ := ih b (by omega)
      refine ⟨x, ?_, h44⟩
      unfold Go.Lib.splitK
      rw [index_at hn]
      have hne : ¬ ((a.length : Int) == -1) = true := by simp
      rw [if_neg hne]
      simp only [Int.toNat_natCast, Nat.add_zero, List.length_cons, List.length_nil]
      rw [show (a ++ 44 :: b).drop (a.length + (0 + 1)) = b by rw [show a ++ 44 :: b = (a ++ [44]) ++ b by simp]; exact List.drop_left' (by simp)]
      exact List.mem_cons_of_mem _ hx

/-- The pieces as strings. -/
def cut (s : ByteArray) : List ByteArray := (splitC s.data.toList).map fun x => ⟨x.toArray⟩
theorem ba_eta (s : ByteArray) : (⟨s.data.toList.toArray⟩ : ByteArray) = s := by simp
theorem map_eta (L : List ByteArray) : (L.map (·.data.toList)).map (fun x => (⟨x.toArray⟩ : ByteArray)) = L := by
  rw [List.map_map]
  conv => rhs; rw [← List.map_id L]
  apply List.map_congr_left
  intro x _
  exact ba_eta x
theorem cut_len (s : ByteArray) : (cut s).length ≤ s.size + 1 := by
  have := splitC_len s.data.toList
  simpa [cut] using this
theorem cut_pos (s : ByteArray) : 0 < (cut s).length := by
  have := List.length_pos_iff.2 (splitC_ne s.data.toList)
  simpa [cut] using this
theorem splitB_all (s : ByteArray) (K : Nat) (h : (cut s).length ≤ K + 1) : Go.Lib.splitB ⟨#[44]⟩ 0 K s = cut s := by
  have hd := Go.Lib.splitB_data ⟨#[44]⟩ 0 K s
  have e : (⟨#[44]⟩ : ByteArray).data.toList = [44] := rfl
  rw [e, splitK_all K s.data.toList (by simpa [cut] using h)] at hd
  unfold cut
  rw [← hd, map_eta]
theorem splitB_more (s : ByteArray) (K : Nat) (h : K + 1 < (cut s).length) : ∃ x, x ∈ Go.Lib.splitB ⟨#[44]⟩ 0 K s ∧ 44 ∈ x.data.toList := by
  have hd := Go.Lib.splitB_data ⟨#[44]⟩ 0 K s
  have e : (⟨#[44]⟩ : ByteArray).data.toList = [44] := rfl
  rw [e] at hd
  obtain ⟨x, hx, h44⟩ := splitK_more K s.data.toList (by simpa [cut] using h)
  rw [← hd] at hx
  obtain ⟨y, hy, rfl⟩ := List.mem_map.1 hx
  exact ⟨y, hy, h44⟩

/-- What the loop of the plain splitter has gathered behind k bytes: the pieces laid, and where the next one begins. -/
def st (s : ByteArray) : Nat → List ByteArray × Nat
  | 0 => ([], 0)
  | k + 1 => if s.data.toList.getD k 0 = 44 then ((st s k).1 ++ [s.extract (st s k).2 k], k + 1) else st s k
theorem st_le (s : ByteArray) : ∀ k, (st s k).2 ≤ k ∧ (st s k).1.length ≤ k := by
  intro k
  induction k with
  | zero => simp [st]
  | succ k ih =>
    unfold st
    split
    · simp; omega
    · omega
theorem st_hit (s : ByteArray) (k : Nat) (h : s.data.toList.getD k 0 = 44) : st s (k + 1) = ((st s k).1 ++ [s.extract (st s k).2 k], k + 1) := by
  rw [st, if_pos h]
theorem st_miss (s : ByteArray) (k : Nat) (h : ¬ s.data.toList.getD k 0 = 44) : st s (k + 1) = st s k := by
  rw [st, if_neg h]
theorem extract_list (s : ByteArray) (a b : Nat) : (s.extract a b).data.toList = (s.data.toList.drop a).take (b - a) := by
  rw [Go.Lib.extract_data]
theorem getD_of {l : List UInt8} {k : Nat} (h : k < l.length) : l.getD k 0 = l[k] := by simp [h]
theorem st_inv (s : ByteArray) : ∀ k, k ≤ s.size → splitC s.data.toList = (st s k).1.map (·.data.toList) ++ splitC (s.data.toList.drop (st s k).2) ∧ 44 ∉ (s.data.toList.drop (st s k).2).take (k - (st s k).2) := by
  intro k
  induction k with
  | zero => intro _; simp [st]
  | succ k ih =>
    intro hk
    obtain ⟨h1, h2⟩ := ih (by omega)
    have hle := (st_le s k).1
    have hsz : s.data.toList.length = s.size := by simp
    have hkl : k < s.data.toList.length := by omega
    have hsplit : s.data.toList.drop (st s k).2 = (s.data.toList.drop (st s k).2).take (k - (st s k).2) ++ s.data.toList.drop k := by
      have := (List.take_append_drop (k - (st s k).2) (s.data.toList.drop (st s k).2)).symm
      rw [List.drop_drop, show (st s k).2 + (k - (st s k).2) = k by omega] at this
      exact this
    have hk1 : s.data.toList.drop k = s.data.toList.getD k 0 :: s.data.toList.drop (k + 1) := by
      rw [List.drop_eq_getElem_cons hkl, getD_of hkl]
    by_cases hc : s.data.toList.getD k 0 = 44
    · rw [st_hit s k hc]
      refine ⟨?_, by simp⟩
      rw [h1, hsplit, hk1, hc, splitC_cut _ h2, List.map_append, List.append_assoc]
      simp only [List.map_cons, List.map_nil, List.singleton_append, extract_list]
    · rw [st_miss s k hc]
      refine ⟨h1, ?_⟩
      rw [show k + 1 - (st s k).2 = (k - (st s k).2) + 1 by omega, List.take_add_one]
      intro hm
      rcases List.mem_append.1 hm with hm | hm
      · exact h2 hm
      · rw [List.getElem?_drop, show (st s k).2 + (k - (st s k).2) = k by omega, List.getElem?_eq_getElem hkl] at hm
        rw [getD_of hkl] at hc
        have hm2 : (44 : UInt8) = s.data.toList[k] := by simpa only [Option.toList_some, List.mem_singleton] using hm
        exact hc hm2.symm
theorem st_cut (s : ByteArray) : cut s = (st s s.size).1 ++ [s.extract (st s s.size).2 s.size] := by
  obtain ⟨h1, h2⟩ := st_inv s s.size (Nat.le_refl _)
  have hsz : s.data.toList.length = s.size := by simp
  have htake : (s.data.toList.drop (st s s.size).2).take (s.size - (st s s.size).2) = s.data.toList.drop (st s s.size).2 := List.take_of_length_le (by rw [List.length_drop]; omega)
  rw [htake] at h2
  unfold cut
  rw [h1, splitC_none h2, List.map_append, map_eta]
  congr 1
  simp only [List.map_cons, List.map_nil]
  congr 1
  apply ByteArray.ext
  apply Array.ext'
  rw [extract_list, htake]
end Go.Proofs.YtcphhcnomaociabDoor
