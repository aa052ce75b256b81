/- The search in breadth, move by move, over the numbers of places. No program. -/
import Derived.Test.YthedanpldebjcaaPlainShift4
namespace Go.Proofs.Ythedanpldebjcaa
set_option linter.unusedSimpArgs false
set_option linter.unusedVariables false

def bfMs (x : Trn) (lm : Int) (b : Bf) (i : Nat) : Nat → Bf
  | 0 => b
  | j + 1 => bfM x lm (bfMs x lm b i j) i (j : Nat)
theorem bfI_is (x : Trn) (lm : Int) (b : Bf) (i : Nat) : bfI x lm b i = bfMs x lm b i 4 := rfl
def nums (b : Bf) : List Int := b.seen.map numG
theorem nums_len (b : Bf) : (nums b).length = b.seen.length := by simp [nums]
theorem nums_at {b : Bf} {i : Nat} (h : i < b.seen.length) : (nums b).getD i 0 = numG (b.s i) := by
  unfold nums Bf.s
  simp [List.getD_eq_getElem?_getD, h]
theorem has_num {x : Trn} (hx : Train x) {lm : Int} {b : Bf} (hb : ∀ p ∈ b.seen, okG x lm p = true) {q : Pl} (hq : okG x lm q = true) : (nums b).contains (numG q) = b.seen.contains q := by
  rw [Bool.eq_iff_iff]
  simp only [List.contains_eq_mem, decide_eq_true_eq]
  constructor
  · intro h
    obtain ⟨p, h1, h2⟩ := List.mem_map.1 h
    rw [← num_inj hx (hb p h1) hq h2]
    exact h1
  · intro h
    exact List.mem_map.2 ⟨q, h, rfl⟩
theorem bfMs_ok {x : Trn} {lm : Int} {a : Pl} {b : Bf} {i : Nat} (h : BfOk x lm a b i) (hi : i < b.seen.length) : ∀ j : Nat, j ≤ 4 → BfOk x lm a (bfMs x lm b i j) i ∧ b.seen.length ≤ (bfMs x lm b i j).seen.length ∧ (bfMs x lm b i j).s i = b.s i ∧ (bfMs x lm b i j).w i = b.w i
  | 0, _ => ⟨h, Nat.le_refl _, rfl, rfl⟩
  | j + 1, hj => by
    obtain ⟨h1, h2, h3, h4⟩ := bfMs_ok h hi j (by omega)
    obtain ⟨g1, g2, -⟩ := h1.move (by omega) (m := (j : Nat)) (by omega)
    have hl := bfM_len x lm (bfMs x lm b i j) i (j : Nat)
    refine ⟨g1, by show _ ≤ (bfM x lm (bfMs x lm b i j) i (j : Nat)).seen.length; omega, ?_, ?_⟩
    · exact (g2 i (by omega)).1.trans h3
    · exact (g2 i (by omega)).2.trans h4
/-- What one move does. -/
theorem bfM_new {x : Trn} {lm : Int} {b : Bf} {i : Nat} {m : Int} (h1 : okG x lm (mvG (b.s i) m) = true) (h2 : b.seen.contains (mvG (b.s i) m) = false) : bfM x lm b i m = ⟨b.seen ++ [mvG (b.s i) m], b.ways ++ [b.w i ++ [m]]⟩ := by
  unfold bfM
  rw [if_pos (by rw [h1, h2]; rfl)]
theorem bfM_old {x : Trn} {lm : Int} {b : Bf} {i : Nat} {m : Int} (h : okG x lm (mvG (b.s i) m) = true → b.seen.contains (mvG (b.s i) m) = true) : bfM x lm b i m = b := by
  unfold bfM
  rw [if_neg]
  intro hc
  rw [Bool.and_eq_true] at hc
  rw [h hc.1] at hc
  exact absurd hc.2 (by decide)
theorem nums_new (b : Bf) (p : Pl) (w : List Int) : nums ⟨b.seen ++ [p], b.ways ++ [w]⟩ = nums b ++ [numG p] := by simp [nums]
theorem bfTo_next {x : Trn} {lm : Int} {a : Pl} {k : Nat} (h : k < (bfTo x lm a k).seen.length) : bfTo x lm a (k + 1) = bfMs x lm (bfTo x lm a k) k 4 := by
  show (if k < (bfTo x lm a k).seen.length then bfI x lm (bfTo x lm a k) k else bfTo x lm a k) = _
  rw [if_pos h]
  rfl
/-- A way has no more moves than rounds have been gone. -/
theorem way_few {x : Trn} {lm : Int} {a : Pl} (ha : okG x lm a = true) : ∀ k, ∀ j, j < (bfTo x lm a k).seen.length → ((bfTo x lm a k).w j).length ≤ k
  | 0, j, hj => by
    obtain rfl : j = 0 := by simpa [bfTo] using hj
    exact Nat.le_refl _
  | k + 1, j, hj => by
    by_cases hk : k < (bfTo x lm a k).seen.length
    · rw [bfTo_next hk] at hj ⊢
      obtain ⟨h1, h2, h3, h4⟩ := bfMs_ok (bfTo_ok ha k) hk 4 (Nat.le_refl _)
      have h5 := h1.cap (by omega) j hj
      rw [h4] at h5
      have := way_few ha k k hk
      omega
    · have e : bfTo x lm a (k + 1) = bfTo x lm a k := by
        show (if k < (bfTo x lm a k).seen.length then bfI x lm (bfTo x lm a k) k else bfTo x lm a k) = _
        rw [if_neg hk]
      rw [e] at hj ⊢
      have := way_few ha k j hj
      omega
end Go.Proofs.Ythedanpldebjcaa
