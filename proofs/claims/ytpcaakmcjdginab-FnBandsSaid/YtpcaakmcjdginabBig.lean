/- The laws' size test. -/
import Derived.Test.YtpcaakmcjdginabDraw
namespace Go.Proofs.Ytpcaakmcjdginab
open Go.RowKit
theorem big_ (A : Option Addr) (n cap : Nat) (w : World) : Calls Try.prog 10 #[.slice A n cap] w fun e w' => e = .returned (.bool (decide ((4096 : Int) < n))) ∧ w = w' := by
  go_enter Try.func10, Try.ntmps10
  go_wp2_with fail
  go_ret
  exact ⟨rfl, rfl⟩
end Go.Proofs.Ytpcaakmcjdginab
