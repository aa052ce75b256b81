/- Contract of the laws' helper eqStringS, which compares lists of strings. -/
import Derived.Test.YtgdibahflhlakaaDoorBas
import Derived.WalkKit
import Derived.WalkLawsBesides
import Derived.WalkSpells
import Derived.Deep.QuietTactic
import Derived.BigQuiet
import Derived.Deep.LoopGhost
namespace Go.Proofs.YtgdibahflhlakaaDoor
open Go.RowKit

theorem eqStrs_ne (A B : Option Addr) (n m c d : Nat) (w : World) (hne : n ≠ m) :
    Calls Tryd.prog 32 #[.slice A n c, .slice B m d] w fun e w' => e = .returned (.bool false) ∧ w = w' := by
  have hq : ((n : Int) == (m : Int)) = false := by simp; omega
  go_enter Tryd.func32, Tryd.ntmps32
  go_wp2
  go_ret
  exact ⟨rfl, rfl⟩

/-- An answer, and at most draws. -/
def OnlyS (v : Value) (w : World) (e : Ending) (w' : World) : Prop := e = .returned v ∧ ∃ m, w' = w.drewN m

/-- eqStringS of two lists that are the same. -/
theorem eqStrs_same (A B : Option Addr) (n c d : Nat) (zs : List ByteArray) (la ha lb hb : Nat) (w : World) (h1 : Rd w la ha A n (bas zs)) (h2 : Rd w lb hb B n (bas zs)) (hn : n * 16 ≤ 140737488355328) :
    Calls Tryd.prog 32 #[.slice A n c, .slice B n d] w (OnlyS (.bool true) w) := by
  have hz1 : zs.length = n := by have := h1.len; rwa [bas_len] at this
  have hn' : n ≤ 140737488355328 := by omega
  have H1 := Go.Lib.hid hz1
  clear hz1
  go_enter Tryd.func32, Tryd.ntmps32
  go_wp2
  go_loopw [5] (fun i wr => ∃ k m : Nat, k ≤ n ∧ i = .int .i64 k ∧ wr = w.drewN m) (fun i _ => n - (intOf i).toNat)
  case atStart => exact ⟨0, 0, Nat.zero_le _, rfl, rfl⟩
  case round =>
    obtain ⟨k, m, hk, rfl, rfl⟩ := hrel
    by_cases hlt : k < n
    · obtain ⟨b1, o1, rfl, p1, q1, c1⟩ := h1.at_ hlt
      obtain ⟨b2, o2, rfl, p2, q2, c2⟩ := h2.at_ hlt
      have hcell1 : w.cell? ⟨b1, o1 + k, none⟩ = some (.string (zs.getD k ByteArray.empty)) := c1 k _ (bas_at zs k (by have := H1.out; omega))
      have hcell2 : w.cell? ⟨b2, o2 + k, none⟩ = some (.string (zs.getD k ByteArray.empty)) := c2 k _ (bas_at zs k (by have := H1.out; omega))
      clear c1 c2 h1 h2
      go_wp2
      go_quiet (fail)
      go_wp2
      go_roundw
      case rel => exact ⟨k + 1, _, by omega, by go_num, rfl⟩
      case measure => simp [intOf]; omega
    · obtain rfl : k = n := by omega
      go_wp2
      go_ret
      exact ⟨rfl, m, rfl⟩
end Go.Proofs.YtgdibahflhlakaaDoor
