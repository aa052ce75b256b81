/- The laws' size test. -/
import Derived.Test.YtcphhcnomaociabDoorDraw
namespace Go.Proofs.YtcphhcnomaociabDoor
open Go.RowKit
theorem big_ (A : Option Addr) (n cap : Nat) (w : World) : Calls Tryd.prog 6 #[.slice A n cap] w fun e w' => e = .returned (.bool (decide ((4096 : Int) < n))) ∧ w = w' := by
  go_enter Tryd.func6, Tryd.ntmps6
  go_wp2_with fail
  go_ret
  exact ⟨rfl, rfl⟩
end Go.Proofs.YtcphhcnomaociabDoor
