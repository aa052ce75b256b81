/- The draw of a text of a measure. -/
import Derived.Test.YtcphhcnomaociabDoorDamage
import Derived.Test.YtcphhcnomaociabDoorMeas
namespace Go.Proofs.YtcphhcnomaociabDoor
open Go.RowKit

theorem measPosW (z : Int) (w : World) (h0 : 0 ≤ z) (h1 : z ≤ 1000000000000000) :
    Calls Tryd.prog 45 #[.int .i64 z] w (NewStr w (measL z)) := by
  have l1 := dec_len (z / 10).toNat (by omega)
  have l2 := dec_len (z % 10).toNat (by omega)
  have k1 := add_str (Go.Lib.decDigits (z / 10).toNat) [46] (by simp; omega)
  have k2 := add_str (Go.Lib.decDigits (z / 10).toNat ++ [46]) (Go.Lib.decDigits (z % 10).toNat) (by simp; omega)
  go_enter Tryd.func45, Tryd.ntmps45
  go_wp2_with fail
  refine (dec (z / 10) _ (by omega) (by omega)).mono ?_
  rintro e w1 ⟨rfl, hb1⟩
  go_wp2_with fail
  refine (dec (z % 10) _ (by omega) (by omega)).mono ?_
  rintro e w2 ⟨rfl, hb2⟩
  go_wp2_with fail
  go_ret
  exact ⟨by rw [measL_pos (by omega), measP_split z h0]; simp, hb1.trans (hb2.mono hb1.size)⟩
theorem specMeasureW (z : Int) (w : World) (h0 : -1000000000000000 ≤ z) (h1 : z ≤ 1000000000000000) :
    Calls Tryd.prog 45 #[.int .i64 z] w (NewStr w (measL z)) := by
  by_cases hn : z < 0
  · have l1 := measP_len (-z).toNat (by omega)
    have k1 := add_str [45] (measL (-z)) (by rw [measL_pos (by omega)]; simp; omega)
    go_enter Tryd.func45, Tryd.ntmps45
    go_wp2_with fail
    refine (measPosW (-z) _ (by omega) (by omega)).mono ?_
    rintro e w1 ⟨rfl, hb1⟩
    go_wp2_with fail
    go_ret
    exact ⟨by rw [measL_neg hn, measL_pos (by omega)]; rfl, hb1⟩
  · exact measPosW z w (by omega) h1
theorem measL_lenW (z : Int) (h : -1000000000000000 ≤ z) (h2 : z ≤ 1000000000000000) : (measL z).length ≤ 42 := by
  unfold measL
  split
  · have := measP_len (-z).toNat (by omega)
    simp only [List.length_cons]; omega
  · have := measP_len z.toNat (by omega)
    omega
theorem idx6 {r : Int} (h0 : 0 ≤ r) (h1 : r < 6 ∨ r = 0) : ∃ k : Nat, r = k ∧ k < 6 ∧ (0 : Int) ≤ (k : Int) ∧ (k : Int) < 6 := ⟨r.toNat, by omega, by omega, by omega, by omega⟩
/-- What the whole draw of a text hands back. -/
def StrEnd (w : World) (m : Nat) (e : Ending) (w' : World) : Prop := ∃ x : ByteArray, e = .returned (.string x) ∧ x.size ≤ m ∧ Below w.heap.size w w'
end Go.Proofs.YtcphhcnomaociabDoor
