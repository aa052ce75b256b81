/- The laws' helper hasInt, whole. -/
import Derived.Test.YtpcaakmcjdginabLikesI
import Derived.Deep.DeepCutAuto
import Derived.Deep.CutBlock
namespace Go.Proofs.Ytpcaakmcjdginab
open Go.RowKit

theorem hasInt_not (A : Option Addr) (n cap : Nat) (zs : List Int) (lo hi : Nat) (x : Int) (w : World) (h : Rd w lo hi A n (ints zs)) (hx : x ∉ zs) (hn : n * 8 ≤ 140737488355328) :
    Calls Try.prog 35 #[.slice A n cap, .int .i64 x] w fun e w' => e = .returned (.bool false) ∧ w = w' := by
  have hl : zs.length = n := by have := h.len; rwa [ints_len] at this
  go_enter Try.func35, Try.ntmps35
  go_wp2_with fail
  go_loopw [5] (fun i wr => ∃ k : Nat, k ≤ n ∧ i = .int .i64 k ∧ wr = w) (fun i _ => n - (intOf i).toNat)
  case atStart => exact ⟨0, Nat.zero_le _, rfl, rfl⟩
  case round =>
    obtain ⟨k, hk, rfl, rfl⟩ := hrel
    by_cases hlt : k < n
    · obtain ⟨b1, o1, rfl, p1, q1, c1⟩ := h.at_ hlt
      have hcell1 : wr.cell? ⟨b1, o1 + k, none⟩ = some (.int .i64 (zs.getD k 0)) := c1 k _ (ints_at zs k (by omega))
      have hyx : zs.getD k 0 ≠ x := fun e => hx (by
        have : zs.getD k 0 = zs[k]'(by omega) := by simp [show k < zs.length by omega]
        rw [← e, this]; exact List.getElem_mem _)
      have HL := Go.Lib.hid hl
      generalize zs.getD k 0 = y at *
      have hyb : (y == x) = false := by simpa using hyx
      clear c1 h hyx hx hl
      go_wp2_with fail
      go_roundw
      case rel => exact ⟨k + 1, by omega, by go_num, trivial⟩
      case measure => simp [intOf]; omega
    · obtain rfl : k = n := by omega
      clear h hl
      go_wp2_with fail
      go_ret
      exact ⟨rfl, rfl⟩
theorem hasInt_ (A : Option Addr) (n cap : Nat) (zs : List Int) (lo hi : Nat) (x : Int) (w : World) (h : Rd w lo hi A n (ints zs)) (hn : n * 8 ≤ 140737488355328) :
    Calls Try.prog 35 #[.slice A n cap, .int .i64 x] w fun e w' => e = .returned (.bool (decide (x ∈ zs))) ∧ w = w' := by
  by_cases hx : x ∈ zs
  · rw [decide_eq_true hx]; exact hasInt_mem A n cap zs lo hi x w h hx hn
  · rw [decide_eq_false hx]; exact hasInt_not A n cap zs lo hi x w h hx hn
end Go.Proofs.Ytpcaakmcjdginab
