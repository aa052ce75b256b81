/- The laws' size test. -/
import Derived.Test.YtgdibahflhlakaaDraw
namespace Go.Proofs.Ytgdibahflhlakaa
open Go.RowKit
theorem big_ (A : Option Addr) (n cap : Nat) (w : World) : Calls Try.prog 7 #[.slice A n cap] w fun e w' => e = .returned (.bool (decide ((4096 : Int) < n))) ∧ w = w' := by
  go_enter Try.func7, Try.ntmps7
  go_wp2_with fail
  go_ret
  exact ⟨rfl, rfl⟩
end Go.Proofs.Ytgdibahflhlakaa
