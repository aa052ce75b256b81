/- Plain facts on words: what a word is, on byte arrays. No program. -/
import Derived.KernelRfl
namespace Go.Proofs.YtcphhcnomaociabDoor

def low (c : UInt8) : Bool := decide (97 ≤ (c.toNat : Int)) && decide ((c.toNat : Int) ≤ 122)
def wordB (s : ByteArray) : Bool := decide (1 ≤ s.size) && decide (s.size ≤ 16) && s.data.toList.all low
def UpTo (s : ByteArray) (k : Nat) : Prop := ∀ j, j < k → (h2 : j < s.size) → 97 ≤ (s[j].toNat : Int) ∧ (s[j].toNat : Int) ≤ 122

theorem UpTo.zero (s : ByteArray) : UpTo s 0 := fun j h => absurd h (by omega)
theorem UpTo.succ {s : ByteArray} {k : Nat} (h : UpTo s k) (hk : k < s.size) (a : 97 ≤ (s[k].toNat : Int)) (b : (s[k].toNat : Int) ≤ 122) : UpTo s (k + 1) := by
  intro j hj h2
  by_cases e : j = k
  · subst e; exact ⟨a, b⟩
  · exact h j (by omega) h2
theorem allLow_iff (s : ByteArray) : s.data.toList.all low = true ↔ UpTo s s.size := by
  simp only [List.all_eq_true, low, Bool.and_eq_true, decide_eq_true_eq]
  constructor
  · intro h j _ h2
    have h3 : j < s.data.toList.length := by simpa using h2
    exact h _ (List.getElem_mem h3)
  · intro h x hx
    obtain ⟨j, hj, rfl⟩ := List.mem_iff_getElem.1 hx
    have h3 : j < s.size := by simpa using hj
    exact h j h3 h3
theorem wordB_true {s : ByteArray} (h1 : 1 ≤ s.size) (h2 : s.size ≤ 16) (h : UpTo s s.size) : wordB s = true := by
  simp [wordB, h1, h2, (allLow_iff s).2 h]
theorem wordB_size {s : ByteArray} (h : ¬ (1 ≤ s.size ∧ s.size ≤ 16)) : wordB s = false := by
  unfold wordB
  by_cases a : 1 ≤ s.size <;> by_cases b : s.size ≤ 16 <;> simp [a, b]
  exact absurd ⟨a, b⟩ h
theorem wordB_at {s : ByteArray} {k : Nat} (hk : k < s.size) (h : (s[k].toNat : Int) < 97 ∨ 122 < (s[k].toNat : Int)) : wordB s = false := by
  have : ¬ (s.data.toList.all low = true) := fun e => by
    have := (allLow_iff s).1 e k hk hk
    omega
  unfold wordB
  simp at this ⊢
  intro _ _
  exact this
theorem wordB_eq {s : ByteArray} (h : UpTo s s.size) : wordB s = (decide ((1 : Int) ≤ s.size) && decide ((s.size : Int) ≤ 16)) := by
  by_cases a : 1 ≤ s.size
  · by_cases b : s.size ≤ 16
    · rw [wordB_true a b h]; simp; omega
    · rw [wordB_size (by omega)]; symm; simp; intro; omega
  · rw [wordB_size (by omega)]; symm; simp; intro; omega
theorem wordB_small {s : ByteArray} (h : wordB s = true) : s.size ≤ 16 := by
  unfold wordB at h; simp at h; exact h.1.2
theorem wordB_pos {s : ByteArray} (h : wordB s = true) : 1 ≤ s.size := by
  unfold wordB at h; simp at h; exact h.1.1
theorem wordB_upto {s : ByteArray} (h : wordB s = true) : UpTo s s.size := by
  unfold wordB at h; rw [Bool.and_eq_true] at h; exact (allLow_iff s).1 h.2
end Go.Proofs.YtcphhcnomaociabDoor
