/- The greatest and the least of a list: the library's. -/
import Derived.Test.YtilepehlmjohbaaTenB
import Derived.Test.YtilepehlmjohbaaPlainTen2
import Derived.Lib.MinMax
namespace Go.Proofs.Ytilepehlmjohbaa
open Go.RowKit
set_option linter.unusedSimpArgs false
set_option linter.unusedVariables false

set_option maxRecDepth 100000 in
set_option maxHeartbeats 4000000 in
theorem slMax (A : Option Addr) (c : Nat) (zs : List Int) (w : World) (L : Ls zs A c w) (h0 : 0 < zs.length) :
    Calls Try.prog 70 #[.slice A zs.length c] w (Just (.int .i64 (maxTo zs zs.length)) w) := by
  have HL := Go.Lib.hid L
  have hn := L.few
  clear L
  obtain ⟨b, o, rfl, -, hcs⟩ := HL.out.at_ h0
  have HCS := Go.Lib.hid hcs
  have hcell : w.cell? ⟨b, o, none⟩ = some (.int .i64 (zs.getD 0 0)) := hcs 0 h0
  have hl0 : (0 : Int) < zs.length := by omega
  have hl1 : (1 : Int) ≤ zs.length := by omega
  have hne : ¬ zs = [] := by rintro rfl; simp at h0
  have H1 := Go.Lib.hid (maxTo_one h0)
  clear hcs
  generalize hx : zs.getD 0 0 = x at *
  go_enter Try.func70, Try.ntmps70
  go_wp2_with fail
  go_loopw [3, 4] (fun m i wr => ∃ k : Nat, 1 ≤ k ∧ k ≤ zs.length ∧ i = .int .i64 k ∧ wr = w ∧ m = .int .i64 (maxTo zs k)) (fun _ i _ => zs.length - (intOf i).toNat)
  case atStart => exact ⟨1, Nat.le_refl _, h0, rfl, rfl, by rw [H1.out]⟩
  case round =>
    obtain ⟨k, hk1, hk, rfl, rfl, rfl⟩ := hrel
    by_cases hlt : k < zs.length
    case pos =>
      have hcell2 := HCS.out k hlt
      have HS := Go.Lib.hid (maxTo_succ hlt)
      generalize zs.getD k 0 = y at *
      generalize maxTo zs k = m at *
      go_wp2_with fail
      go_roundw
      case rel => exact ⟨k + 1, by omega, by omega, by go_num, by first | rfl | trivial, by rw [HS.out]⟩
      case measure => simp [intOf]; omega
    case neg =>
      obtain rfl : k = zs.length := by omega
      go_wp2_with fail
      go_ret
      exact ⟨rfl, rfl⟩
set_option maxRecDepth 100000 in
set_option maxHeartbeats 4000000 in
theorem slMin (A : Option Addr) (c : Nat) (zs : List Int) (w : World) (L : Ls zs A c w) (h0 : 0 < zs.length) :
    Calls Try.prog 71 #[.slice A zs.length c] w (Just (.int .i64 (minTo zs zs.length)) w) := by
  have HL := Go.Lib.hid L
  have hn := L.few
  clear L
  obtain ⟨b, o, rfl, -, hcs⟩ := HL.out.at_ h0
  have HCS := Go.Lib.hid hcs
  have hcell : w.cell? ⟨b, o, none⟩ = some (.int .i64 (zs.getD 0 0)) := hcs 0 h0
  have hl0 : (0 : Int) < zs.length := by omega
  have hl1 : (1 : Int) ≤ zs.length := by omega
  have hne : ¬ zs = [] := by rintro rfl; simp at h0
  have H1 := Go.Lib.hid (minTo_one h0)
  clear hcs
  generalize hx : zs.getD 0 0 = x at *
  go_enter Try.func71, Try.ntmps71
  go_wp2_with fail
  go_loopw [3, 4] (fun m i wr => ∃ k : Nat, 1 ≤ k ∧ k ≤ zs.length ∧ i = .int .i64 k ∧ wr = w ∧ m = .int .i64 (minTo zs k)) (fun _ i _ => zs.length - (intOf i).toNat)
  case atStart => exact ⟨1, Nat.le_refl _, h0, rfl, rfl, by rw [H1.out]⟩
  case round =>
    obtain ⟨k, hk1, hk, rfl, rfl, rfl⟩ := hrel
    by_cases hlt : k < zs.length
    case pos =>
      have hcell2 := HCS.out k hlt
      have HS := Go.Lib.hid (minTo_succ hlt)
      generalize zs.getD k 0 = y at *
      generalize minTo zs k = m at *
      go_wp2_with fail
      go_roundw
      case rel => exact ⟨k + 1, by omega, by omega, by go_num, by first | rfl | trivial, by rw [HS.out]⟩
      case measure => simp [intOf]; omega
    case neg =>
      obtain rfl : k = zs.length := by omega
      go_wp2_with fail
      go_ret
      exact ⟨rfl, rfl⟩
end Go.Proofs.Ytilepehlmjohbaa
