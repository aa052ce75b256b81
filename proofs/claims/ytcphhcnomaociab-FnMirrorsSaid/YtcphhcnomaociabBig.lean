/- The laws' size test. -/
import Derived.Test.YtcphhcnomaociabDraw
namespace Go.Proofs.Ytcphhcnomaociab
open Go.RowKit
theorem big_ (A : Option Addr) (n cap : Nat) (w : World) : Calls Try.prog 11 #[.slice A n cap] w fun e w' => e = .returned (.bool (decide ((4096 : Int) < n))) ∧ w = w' := by
  go_enter Try.func11, Try.ntmps11
  go_wp2_with fail
  go_ret
  exact ⟨rfl, rfl⟩
end Go.Proofs.Ytcphhcnomaociab
