/- What the program's ReadHub reads, in plain facts. -/
import Derived.Test.YtcphhcnomaociabDoorReadHub2
import Derived.Test.YtcphhcnomaociabDoorNumB
namespace Go.Proofs.YtcphhcnomaociabDoor
open Go.RowKit

def pieces5 (s : ByteArray) : List ByteArray := Go.Lib.splitB ⟨#[47]⟩ 0 (min 5 (s.size + 1) - 1) s
theorem pieces5_len (s : ByteArray) : (pieces5 s).length ≤ min 5 (s.size + 1) := by
  have := Go.Lib.splitB_length_le ⟨#[47]⟩ 0 (min 5 (s.size + 1) - 1) s
  unfold pieces5
  omega
theorem pieces5_all {s : ByteArray} (h : (Slash.cut s).length ≤ 5) : pieces5 s = Slash.cut s := by
  have := Slash.cut_len s
  exact Slash.splitB_all s _ (by omega)
theorem pieces5_more {s : ByteArray} (h : ¬ (Slash.cut s).length ≤ 5) : ∃ x, x ∈ pieces5 s ∧ 47 ∈ x.data.toList := by
  have := Slash.cut_len s
  exact Slash.splitB_more s _ (by omega)
theorem pieces5_sizes (s : ByteArray) : ∀ x ∈ pieces5 s, x.size ≤ s.size := splitB_sizesH _ _
theorem itoa_slash (z : Int) : (47 : UInt8) ∉ Go.Lib.itoa z := by
  unfold Go.Lib.itoa
  split
  · intro h
    rcases List.mem_cons.1 h with h | h
    · exact absurd h (by decide)
    · exact decDigits_not (by decide) h
  · exact decDigits_not (by decide)
theorem num_of_val {l : List UInt8} (h : valOk l = true) : numB l = some (nv 0 l : Int) := by
  obtain ⟨h1, h2⟩ := valOk_spec h
  have h3 : Go.Lib.itoa (nv 0 l : Int) = l := by rw [itoa_pos _ (by omega), Int.toNat_natCast]; exact h1
  have h4 := numB_itoa (z := (nv 0 l : Int)) (by omega) (by omega)
  rwa [h3] at h4
theorem val_of_num {l : List UInt8} {n : Int} (h : numB l = some n) (h0 : 0 ≤ n) (h1 : n ≤ 1000) : valOk l = true ∧ (nv 0 l : Int) = n := by
  have h2 := numB_spec h
  rw [itoa_pos n h0] at h2
  rw [← h2]
  exact ⟨valOk_dec (by omega), by rw [nv_decDigits]; omega⟩
/-- Whoever has a number first and measures behind it has no slash too many. -/
theorem pieces5_cut {s : ByteArray} {n : Int} (h5 : (pieces5 s).length = 5) (hn : numB ((pieces5 s).getD 0 ByteArray.empty).data.toList = some n)
    (hm : ∀ t, t < 4 → mOk (pieces5 s) t = true) : Slash.cut s = pieces5 s := by
  by_cases h : (Slash.cut s).length ≤ 5
  · exact (pieces5_all h).symm
  · obtain ⟨x, hx, hs⟩ := pieces5_more h
    exfalso
    obtain ⟨i, hi, e⟩ := List.getElem_of_mem hx
    rcases Nat.eq_zero_or_pos i with rfl | hp
    · have e2 : (pieces5 s).getD 0 ByteArray.empty = x := by simp [List.getD, hi, e]
      rw [e2] at hn
      rw [← numB_spec hn] at hs
      exact itoa_slash _ hs
    · obtain ⟨t, rfl⟩ : ∃ t, i = t + 1 := ⟨i - 1, by omega⟩
      have e2 : (pieces5 s).getD (t + 1) ByteArray.empty = x := by simp [List.getD, hi, e]
      have h3 := hm t (by omega)
      unfold mOk at h3
      rw [e2] at h3
      cases hr : readsM x.data.toList with
      | none => rw [hr] at h3; cases h3
      | some v =>
        rw [← (readsM_spec hr).2] at hs
        exact measL_slash _ hs
theorem read5_short {s : ByteArray} (h : ¬ (pieces5 s).length = 5) : readA s.data.toList = (zeroH, 6) :=
  readA_short fun e => h (by rw [pieces5_all (by omega)]; exact e)
theorem okTo_iff (X : List ByteArray) : okTo X 4 = true ↔ valOk (X.getD 0 ByteArray.empty).data.toList = true ∧ ∀ t, t < 4 → mOk X t = true := by
  unfold okTo
  rw [Bool.and_eq_true, List.all_eq_true]
  exact ⟨fun h => ⟨h.1, fun t ht => h.2 t (List.mem_range.2 ht)⟩, fun h => ⟨h.1, fun t ht => h.2 t (List.mem_range.1 ht)⟩⟩
theorem read5_noNum {s : ByteArray} (h5 : (pieces5 s).length = 5) (hn : numB ((pieces5 s).getD 0 ByteArray.empty).data.toList = none) : readA s.data.toList = (zeroH, 6) := by
  by_cases h : (Slash.cut s).length = 5
  · have hX := pieces5_all (s := s) (by omega)
    refine (readA_five hX.symm h5).1 ?_
    cases ho : okTo (pieces5 s) 4
    · rfl
    · have := num_of_val ((okTo_iff _).1 ho).1
      rw [hn] at this
      cases this
  · exact readA_short h
theorem read5_noMeas {s : ByteArray} {j : Nat} (h5 : (pieces5 s).length = 5) (hj : j < 4) (hn : mOk (pieces5 s) j = false) : readA s.data.toList = (zeroH, 6) := by
  by_cases h : (Slash.cut s).length = 5
  · have hX := pieces5_all (s := s) (by omega)
    refine (readA_five hX.symm h5).1 ?_
    cases ho : okTo (pieces5 s) 4
    · rfl
    · have := ((okTo_iff _).1 ho).2 j hj
      rw [hn] at this
      cases this
  · exact readA_short h
theorem read5_no {s : ByteArray} {n : Int} (h5 : (pieces5 s).length = 5) (hn : numB ((pieces5 s).getD 0 ByteArray.empty).data.toList = some n) (hm : ∀ t, t < 4 → mOk (pieces5 s) t = true)
    (hb : hubB ⟨n, mAt (pieces5 s) 0, mAt (pieces5 s) 1, mAt (pieces5 s) 2, mAt (pieces5 s) 3⟩ = false) : readA s.data.toList = (zeroH, 6) := by
  have hX := pieces5_cut h5 hn hm
  have hf := readA_five hX h5
  cases ho : okTo (pieces5 s) 4
  · exact hf.1 ho
  · have h2 := num_of_val ((okTo_iff _).1 ho).1
    rw [hn] at h2
    injection h2 with h2
    exact hf.2.1 ho (by rw [← h2]; exact hb)
theorem read5_yes {s : ByteArray} {n : Int} (h5 : (pieces5 s).length = 5) (hn : numB ((pieces5 s).getD 0 ByteArray.empty).data.toList = some n) (hm : ∀ t, t < 4 → mOk (pieces5 s) t = true)
    (hb : hubB ⟨n, mAt (pieces5 s) 0, mAt (pieces5 s) 1, mAt (pieces5 s) 2, mAt (pieces5 s) 3⟩ = true) :
    readA s.data.toList = (⟨n, mAt (pieces5 s) 0, mAt (pieces5 s) 1, mAt (pieces5 s) 2, mAt (pieces5 s) 3⟩, 0) := by
  have hX := pieces5_cut h5 hn hm
  have hf := readA_five hX h5
  have hd := holes_bd (hubB_of hb).1
  obtain ⟨h1, h2⟩ := val_of_num hn (by have := hd.1; simp at this; omega) (by have := hd.2.1; simp at this; omega)
  have ho : okTo (pieces5 s) 4 = true := (okTo_iff _).2 ⟨h1, hm⟩
  have h3 := hf.2.2 ho (by rw [h2]; exact hb)
  rw [h2] at h3
  exact h3
end Go.Proofs.YtcphhcnomaociabDoor
