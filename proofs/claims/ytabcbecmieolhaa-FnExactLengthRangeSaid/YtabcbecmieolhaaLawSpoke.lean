/- The laws' helpers of chapter 5. -/
import Derived.Test.YtabcbecmieolhaaSpoke4
namespace Go.Proofs.Ytabcbecmieolhaa
open Go.RowKit
theorem law_eqIvP (p : Int × Int) (w : World) : Calls Try.prog 45 #[ivP p, ivP p] w (IsB w true) := by
  go_enter Try.func45, Try.ntmps45
  go_wp2_with fail
  go_ret
  exact ⟨rfl, by go_grown⟩
end Go.Proofs.Ytabcbecmieolhaa
