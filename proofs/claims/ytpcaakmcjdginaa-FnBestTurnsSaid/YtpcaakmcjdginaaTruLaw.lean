/- What chapter 8's drawn laws hold. -/
import Derived.Test.YtpcaakmcjdginaaDrawTru2
import Derived.Test.YtpcaakmcjdginaaDrawTru3
import Derived.Test.YtpcaakmcjdginaaTruX
import Derived.Test.YtpcaakmcjdginaaLikesI
import Derived.Test.YtpcaakmcjdginaaDice8
import Derived.Test.YtpcaakmcjdginaaOne
namespace Go.Proofs.Ytpcaakmcjdginaa
open Go.RowKit
set_option linter.unusedSimpArgs false
set_option linter.unusedVariables false

theorem effI_append : ∀ xs ys : List Int, effI (xs ++ ys) = effI xs + effI ys
  | [], ys => by simp [effI]
  | x :: xs, ys => by
    rw [List.cons_append, effI, effI, effI_append xs ys]
    omega
theorem effI_take_succ {ts : List Int} {k : Nat} (hk : k < ts.length) : effI (ts.take (k + 1)) = effI (ts.take k) + max (ts.getD k 0) (-(ts.getD k 0)) := by
  rw [take_succ hk, effI_append]
  simp [effI]
theorem effI_take_le (ts : List Int) (k : Nat) : effI (ts.take k) ≤ effI ts := by
  have h := effI_append (ts.take k) (ts.drop k)
  rw [List.take_append_drop] at h
  have := effI_nonneg (ts.drop k)
  omega
theorem effI_take_nil (ts : List Int) : effI (ts.take 0) = 0 := by simp [effI]
theorem least_pair (zs s : List Int) (t : Int) : ∃ p c, leastR zs s t = (p, c) ∧ p.length ≤ 1048576 := ⟨_, _, rfl, leastR_len zs s t⟩
theorem after_pair (zs s ts : List Int) : ∃ p c, afterR zs s ts = (p, c) ∧ p.length ≤ 1048576 := ⟨_, _, rfl, afterR_len zs s ts⟩
theorem undo_pair (ts : List Int) : ∃ p c, undoR ts = (p, c) ∧ p.length ≤ 1048576 := ⟨_, _, rfl, undoR_len ts⟩
theorem by_pair (zs s : List Int) (m : Int) : ∃ p c, byR zs s m = (p, c) ∧ p.length ≤ 1048576 := ⟨_, _, rfl, byR_len zs s m⟩
theorem best_triple (zs s : List Int) : ∃ k q c, bestR zs s = (k, q, c) := ⟨_, _, _, rfl⟩
theorem worst_pair (zs : List Int) : ∃ m c, worstR zs = (m, c) ∧ (c == 0) = devB zs := by
  unfold worstR
  by_cases h : devB zs = true
  · rw [if_pos h, h]; exact ⟨_, _, rfl, rfl⟩
  · rw [if_neg h]; rw [Bool.not_eq_true] at h; rw [h]; exact ⟨_, _, rfl, rfl⟩
theorem dish_pair (zs : List Int) : ∃ m c, dishR zs = (m, c) := ⟨_, _, rfl⟩
theorem turned_ls {wM : World} {lo hi g n j : Nat} {q : Int} (hO : Ow wM lo hi 2 (some ⟨g, 0, none⟩) n n (ints (List.replicate n 0))) (hn : n ≤ 1048576) : Ls (oneT n j q) (some ⟨g, 0, none⟩) n (wM.setCell ⟨g, j, none⟩ (.int .i64 q)) := by
  have h1 := hO.set_ (k := j) (.int .i64 q)
  rw [ints_set] at h1
  have hl := oneT_len n j q
  exact ⟨by rw [hl]; exact h1.rd.here, by rw [hl]; exact Nat.le_refl _, by rw [hl]; exact hn⟩
theorem after_of {zs s ts : List Int} (hd : Dev zs) (hs : Eff s) (hl : ts.length = zs.length) (hr : rngB (-100) 100 ts = true) : afterR zs s ts = if devB (afterI zs s ts) then (afterI zs s ts, 0) else ([], 3) := by
  unfold afterR
  rw [devB_iff.2 hd, effB_iff.2 hs, hr]
  simp [hl]
theorem sq_zero (zs : List Int) : sqTo zs 0 = 0 := rfl
theorem sq_succ (zs : List Int) (k : Nat) : sqTo zs (k + 1) = sqTo zs k + zs.getD k 0 * zs.getD k 0 := rfl
theorem sq_all (zs : List Int) : sqTo zs zs.length = sqS zs := rfl
theorem sq_small {zs : List Int} (h : Dev zs) (k : Nat) (hk : k ≤ zs.length) : 0 ≤ sqTo zs k ∧ sqTo zs k ≤ 2500000 := by
  have h1 := sqTo_bd h.bd k
  have := h.hi
  omega
theorem sq_one {zs : List Int} (h : Dev zs) (k : Nat) : 0 ≤ zs.getD k 0 * zs.getD k 0 ∧ zs.getD k 0 * zs.getD k 0 ≤ 250000 := sq_bd (h.bd k).1 (h.bd k).2
end Go.Proofs.Ytpcaakmcjdginaa
