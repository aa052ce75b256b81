/- The whole draw of a measure (door seat). -/
import Derived.Test.YtcknknicknolaabDoorDraw4
namespace Go.Proofs.YtcknknicknolaabDoor
open Go.RowKit
theorem drawMeasureText (A : Option Addr) (n cap : Nat) (bs : List Int) (w : World) (h : Rd w 0 w.heap.size A n (byts bs)) (hs : ∀ z ∈ bs, 0 ≤ z ∧ z ≤ 255) (hn : n ≤ 140737488355328) :
    Calls Tryd.prog 10 #[.slice A n cap] w fun e w' => ∃ x : Int, e = .returned (.int .i64 x) ∧ Fair x ∧ Below w.heap.size w w' := by
  go_enter Tryd.func10, Tryd.ntmps10
  go_wp2_with fail
  refine (from_ A n cap bs w h hs hn).mono ?_
  rintro e w1 ⟨g, rfl, hg, hS1, hb1⟩
  go_wp2_with fail
  refine (next g A n cap bs 10000 w1 hS1).mono ?_
  rintro e w2 ⟨r, rfl, hr0, hr1, hS2, hK2⟩
  go_wp2_with fail
  refine (drawValue g A n cap bs w2 hS2).mono ?_
  rintro e w3 ⟨v, rfl, hv, hS3, hK3⟩
  go_wp2_with fail
  refine (pickNew g A n cap bs w3 hS3 [r - 500, v] 2 rfl (by omega) (by omega) Fair (fun x hx => by
    simp only [List.mem_cons, List.not_mem_nil, or_false] at hx
    unfold Fair
    omega) rfl).mono ?_
  rintro e w4 ⟨x, rfl, hx, hS4, hK4⟩
  go_wp2_with fail
  go_ret
  exact ⟨x, rfl, hx, hb1.trans (((hK2.trans hK3).trans hK4).below hg hb1.size)⟩
end Go.Proofs.YtcknknicknolaabDoor
