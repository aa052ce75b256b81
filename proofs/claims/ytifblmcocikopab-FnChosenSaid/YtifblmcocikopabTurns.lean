/- Contracts of TurnsOf in both programs. -/
import Derived.Test.YtifblmcocikopabNum
import Derived.Test.YtifblmcocikopabPlainCos
namespace Go.Proofs.Ytifblmcocikopab
open Go.RowKit

theorem implRest (n : Int) (w : World) (h0 : -1000000 ≤ n) (h1 : n ≤ 1000000) :
    Calls Try.prog 72 #[.int .i64 n] w (Just (.int .i64 (n % 720)) w) := by
  have HD := Go.Lib.hid (implDown n 720 w (by omega) (by omega) (by omega) (by omega))
  have q0 : -4000 ≤ n / 720 := by omega
  have q1 : n / 720 ≤ 4000 := by omega
  have e : n - 720 * (n / 720) = n % 720 := by omega
  go_enter Try.func72, Try.ntmps72
  go_wp2_with fail
  refine HD.out.mono ?_
  rintro _ _ ⟨rfl, rfl⟩
  go_wp2_with fail
  go_ret
  exact ⟨rfl, rfl⟩


/-- What TurnsOf hands back in both programs. -/
def turnsV (n : Int) : Value := if stepsB n then .tuple #[.int .i64 (n / 720), .int .i64 (n % 720), .int .i64 0] else .tuple #[.int .i64 0, .int .i64 0, .int .i64 2]
end Go.Proofs.Ytifblmcocikopab
