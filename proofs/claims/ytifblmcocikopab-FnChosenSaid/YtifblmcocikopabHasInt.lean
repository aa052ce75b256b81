/- The laws' helper hasInt finds a number that is there. -/
import Derived.Test.YtifblmcocikopabInts
import Derived.Deep.DeepCutAuto
namespace Go.Proofs.Ytifblmcocikopab
open Go.RowKit

theorem hasInt_mem (A : Option Addr) (n cap : Nat) (zs : List Int) (lo hi : Nat) (x : Int) (w : World) (h : Rd w lo hi A n (ints zs)) (hx : x ∈ zs) (hn : n * 8 ≤ 140737488355328) :
    Calls Try.prog 18 #[.slice A n cap, .int .i64 x] w fun e w' => e = .returned (.bool true) ∧ w = w' := by
  have hl : zs.length = n := by have := h.len; rwa [ints_len] at this
  go_enter Try.func18, Try.ntmps18
  go_wp2_with fail
  go_loopw [5] (fun i wr => ∃ k : Nat, k ≤ n ∧ i = .int .i64 k ∧ wr = w ∧ ∀ j, j < k → ¬ zs.getD j 0 = x) (fun i _ => n - (intOf i).toNat)
  case atStart => exact ⟨0, Nat.zero_le _, rfl, rfl, fun j hj => absurd hj (by omega)⟩
  case round =>
    obtain ⟨k, hk, rfl, rfl, hno⟩ := hrel
    have HNO := Go.Lib.hid hno
    clear hno
    by_cases hlt : k < n
    · obtain ⟨b1, o1, rfl, p1, q1, c1⟩ := h.at_ hlt
      have hcell1 : wr.cell? ⟨b1, o1 + k, none⟩ = some (.int .i64 (zs.getD k 0)) := c1 k _ (ints_at zs k (by omega))
      obtain ⟨y, hy⟩ : ∃ y, y = zs.getD k 0 := ⟨_, rfl⟩
      rw [← hy] at hcell1
      have HY := Go.Lib.hid hy
      clear c1 h hy
      by_cases hyx : y = x
      · have hyb : (y == x) = true := by simpa using hyx
        have HYX := Go.Lib.hid hyx
        clear hyx
        go_wp2_with fail
        go_ret
        exact ⟨rfl, rfl⟩
      · have hyb : (y == x) = false := by simpa using hyx
        have HYX := Go.Lib.hid hyx
        clear hyx
        go_wp2_with fail
        go_roundw
        case rel => exact ⟨k + 1, by omega, by go_num, trivial, fun j hj => by
          rcases Nat.lt_or_ge j k with h1 | h1
          · exact HNO.out j h1
          · obtain rfl : j = k := by omega
            rw [← HY.out]; exact HYX.out⟩
        case measure => simp [intOf]; omega
    · exfalso
      obtain ⟨i, hi, rfl⟩ := List.getElem_of_mem hx
      refine HNO.out i (by omega) ?_
      simp [List.getD, hi]
end Go.Proofs.Ytifblmcocikopab
