/- The order of gears in numbers: what rises stays rising; equal gears, steps. No program. -/
import Derived.Test.YtbjoekbgejfebaaPlainGear
namespace Go.Proofs.Ytbjoekbgejfebaa
set_option linter.unusedSimpArgs false
set_option linter.unusedVariables false

theorem rowsG_at {gs : List Gr} {i : Nat} (hi : i < gs.length) : (rowsG gs).getD i [] = rowG (gs.getD i (0, 0)) := by simp [rowsG, List.getD, hi]
theorem rowsG_ins {x : Trn} {gs : List Gr} {g : Gr} {j : Nat} (hj : j ≤ gs.length) (h1 : ∀ i, i < j → leG x (gs.getD i (0, 0)) g) (h2 : j < gs.length → ¬ leG x (gs.getD j (0, 0)) g) : rowsG (ins x g gs) = (rowsG gs).take j ++ [rowG g] ++ (rowsG gs).drop j := by
  rw [ins_at hj h1 h2]
  simp [rowsG, List.map_take, List.map_drop]
theorem equalTo_succ (x : Trn) (gs : List Gr) (k : Nat) : equalTo x gs (k + 1) = if sameG x (gs.getD k (0, 0)) (gs.getD (k + 1) (0, 0)) = true then equalTo x gs k ++ [gs.getD (k + 1) (0, 0)] else equalTo x gs k := by
  unfold equalTo
  rw [List.range_succ, List.filter_append, List.map_append]
  by_cases h : sameG x (gs.getD k (0, 0)) (gs.getD (k + 1) (0, 0)) = true
  · rw [if_pos h, List.filter_cons, if_pos h, List.filter_nil]; rfl
  · rw [if_neg h, List.filter_cons, if_neg h, List.filter_nil]; simp
theorem equalTo_len (x : Trn) (gs : List Gr) (k : Nat) : (equalTo x gs k).length ≤ k := by
  unfold equalTo
  rw [List.length_map]
  exact Nat.le_trans (List.length_filter_le _ _) (by simp)
def UpG (x : Trn) : List Gr → Prop
  | [] => True
  | [_] => True
  | a :: b :: t => leG x a b ∧ UpG x (b :: t)
theorem leG_total {x : Trn} {a b : Gr} (h : ¬ leG x a b) : leG x b a := by
  unfold leG at *
  omega
theorem ins_up {x : Trn} {g : Gr} : ∀ {gs : List Gr}, UpG x gs → UpG x (ins x g gs)
  | [], _ => trivial
  | [a], _ => by
    unfold ins
    split
    · exact ⟨by assumption, trivial⟩
    · exact ⟨leG_total (by assumption), trivial⟩
  | a :: b :: t, ⟨hab, h⟩ => by
    have ih := ins_up (g := g) h
    unfold ins
    split
    · rename_i hag
      unfold ins at ih ⊢
      split at ih
      · rename_i hbg
        rw [if_pos hbg]
        exact ⟨hab, ih⟩
      · rename_i hbg
        rw [if_neg hbg]
        exact ⟨hag, ih⟩
    · exact ⟨leG_total (by assumption), hab, h⟩
theorem ordTo_up (x : Trn) : ∀ k, UpG x (ordTo x k)
  | 0 => trivial
  | k + 1 => ins_up (ordTo_up x k)
theorem UpG.at_ {x : Trn} : ∀ {gs : List Gr} {i : Nat}, UpG x gs → i + 1 < gs.length → leG x (gs.getD i (0, 0)) (gs.getD (i + 1) (0, 0))
  | [], _, _, h => absurd h (by simp)
  | [_], _, _, h => absurd h (by simp)
  | a :: b :: t, 0, ⟨h, _⟩, _ => by simpa using h
  | a :: b :: t, i + 1, ⟨_, h⟩, hi => by
    have := h.at_ (i := i) (by simpa using hi)
    simpa using this
theorem stepsTo_succ (x : Trn) (gs : List Gr) (k : Nat) : stepsTo x gs (k + 1) = stepsTo x gs k ++ [stepG x (gs.getD k (0, 0)) (gs.getD (k + 1) (0, 0))] := by
  unfold stepsTo
  rw [List.range_succ, List.map_append]
  rfl
theorem stepsTo_len (x : Trn) (gs : List Gr) (k : Nat) : (stepsTo x gs k).length = k := by simp [stepsTo]
end Go.Proofs.Ytbjoekbgejfebaa
