/- The draw of a value. -/
import Derived.Test.YtcknknicknolaabDoorDraw3
namespace Go.Proofs.YtcknknicknolaabDoor
open Go.RowKit

theorem drawValue (g : Nat) (A : Option Addr) (n cap : Nat) (bs : List Int) (w : World) (h : Src w g A n cap bs) :
    Calls Tryd.prog 42 #[.pointer (some ⟨g, 0, none⟩)] w (NumEnd w g A n cap bs (fun x => -1000000000001 ≤ x ∧ x ≤ 1000000000001)) := by
  have HN := Go.Lib.hid (fun m w' h' => next g A n cap bs m w' h')
  go_enter Tryd.func42, Tryd.ntmps42
  go_wp2_with fail
  refine (HN.out 10 w h).mono ?_
  rintro e w1 ⟨r, rfl, hr0, hr1, hS1, hK1⟩
  by_cases hr : r = 0
  · subst hr
    go_wp2_with fail
    refine (pickNew g A n cap bs w1 hS1 [0, 1000000000000, 1000000000001, -1000000000000, -1000000000001, 1] 6 rfl (by omega) (by omega) (fun x => -1000000000001 ≤ x ∧ x ≤ 1000000000001) (fun x hx => by
      simp only [List.mem_cons, List.not_mem_nil, or_false] at hx
      omega) rfl).mono ?_
    rintro e w2 ⟨x, rfl, hx, hS2, hK2⟩
    go_wp2_with fail
    go_ret
    exact ⟨x, rfl, hx, hS2, hK1.trans hK2⟩
  · have hrb : (r == 0) = false := by simpa using hr
    go_wp2_with fail
    refine (HN.out 41 w1 hS1).mono ?_
    rintro e w2 ⟨r2, rfl, hr20, hr21, hS2, hK2⟩
    go_wp2_with fail
    refine (HN.out 2001 w2 hS2).mono ?_
    rintro e w3 ⟨r3, rfl, hr30, hr31, hS3, hK3⟩
    go_wp2_with fail
    refine (HN.out 2000000001 w3 hS3).mono ?_
    rintro e w4 ⟨r4, rfl, hr40, hr41, hS4, hK4⟩
    go_wp2_with fail
    refine (pickNew g A n cap bs w4 hS4 [r2 - 20, r3 - 1000, r4 - 1000000000] 3 rfl (by omega) (by omega) (fun x => -1000000000001 ≤ x ∧ x ≤ 1000000000001) (fun x hx => by
      simp only [List.mem_cons, List.not_mem_nil, or_false] at hx
      omega) rfl).mono ?_
    rintro e w5 ⟨x, rfl, hx, hS5, hK5⟩
    go_wp2_with fail
    go_ret
    exact ⟨x, rfl, hx, hS5, (((hK1.trans hK2).trans hK3).trans hK4).trans hK5⟩
end Go.Proofs.YtcknknicknolaabDoor
