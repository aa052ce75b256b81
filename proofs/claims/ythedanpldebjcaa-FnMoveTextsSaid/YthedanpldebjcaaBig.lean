/- The laws' size test. -/
import Derived.Test.YthedanpldebjcaaDraw
namespace Go.Proofs.Ythedanpldebjcaa
open Go.RowKit
theorem big_ (A : Option Addr) (n cap : Nat) (w : World) : Calls Try.prog 14 #[.slice A n cap] w fun e w' => e = .returned (.bool (decide ((4096 : Int) < n))) ∧ w = w' := by
  go_enter Try.func14, Try.ntmps14
  go_wp2_with fail
  go_ret
  exact ⟨rfl, rfl⟩
end Go.Proofs.Ythedanpldebjcaa
