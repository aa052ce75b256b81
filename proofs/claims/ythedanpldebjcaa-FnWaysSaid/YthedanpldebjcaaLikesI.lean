/- Contracts of the laws' helpers likeInts and hasInt. -/
import Derived.Test.YthedanpldebjcaaInts
namespace Go.Proofs.Ythedanpldebjcaa
open Go.RowKit
theorem likeInts_same (A B : Option Addr) (n c d : Nat) (zs : List Int) (la ha lb hb : Nat) (w : World) (h1 : Rd w la ha A n (ints zs)) (h2 : Rd w lb hb B n (ints zs)) (hn : n * 8 ≤ 140737488355328) :
    Calls Try.prog 21 #[.slice A n c, .slice B n d] w (Only (.bool true) w) := by
  have hl : zs.length = n := by have := h1.len; rwa [ints_len] at this
  have hq : ((n : Int) != (n : Int)) = false := by simp
  go_enter Try.func21, Try.ntmps21
  go_wp2_with fail
  go_loopw [5] (fun i wr => ∃ k m : Nat, k ≤ n ∧ i = .int .i64 k ∧ wr = w.drewN m) (fun i _ => n - (intOf i).toNat)
  case atStart => exact ⟨0, 0, Nat.zero_le _, rfl, rfl⟩
  case round =>
    obtain ⟨k, m, hk, rfl, rfl⟩ := hrel
    by_cases hlt : k < n
    · obtain ⟨b1, o1, rfl, p1, q1, c1⟩ := h1.at_ hlt
      obtain ⟨b2, o2, rfl, p2, q2, c2⟩ := h2.at_ hlt
      have hcell1 : w.cell? ⟨b1, o1 + k, none⟩ = some (.int .i64 (zs.getD k 0)) := c1 k _ (ints_at zs k (by omega))
      have hcell2 : w.cell? ⟨b2, o2 + k, none⟩ = some (.int .i64 (zs.getD k 0)) := c2 k _ (ints_at zs k (by omega))
      generalize zs.getD k 0 = x at hcell1 hcell2
      have hxx : (x != x) = false := by simp
      clear c1 c2 h1 h2
      go_wp2_with fail
      go_quiet (fail)
      go_wp2_with fail
      go_roundw
      case rel => exact ⟨k + 1, _, by omega, by go_num, rfl⟩
      case measure => simp [intOf]; omega
    · obtain rfl : k = n := by omega
      go_wp2_with fail
      go_ret
      exact ⟨rfl, m, rfl⟩


end Go.Proofs.Ythedanpldebjcaa
