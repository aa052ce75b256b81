/- The laws' helpers on rows: eqInt64SS compares, markInt64SS writes, heldInt64SS looks, likeRows compares. -/
import Derived.Test.YtilepehlmjohbaaGrid
import Derived.Test.YtilepehlmjohbaaLikesI
namespace Go.Proofs.Ytilepehlmjohbaa
open Go.RowKit

theorem likeRows_same (A B : Option Addr) (n cA cB : Nat) (zss : List (List Int)) (l1 h1 l2 h2 : Nat) (a1 a2 : Nat → Option Addr) (c1 G1 c2 G2 : Nat → Nat) (g1 g2 : Nat) (w : World) (H1 : GridAt w l1 h1 A n zss a1 c1 G1 g1) (H2 : GridAt w l2 h2 B n zss a2 c2 G2 g2) :
    Calls Try.prog 38 #[.slice A n cA, .slice B n cB] w (Only (.bool true) w) := by
  have hq : ((n : Int) != (n : Int)) = false := by simp
  have hmany := H1.many
  go_enter Try.func38, Try.ntmps38
  go_wp2_with fail
  go_loopw [5] (fun i wr => ∃ k m : Nat, k ≤ n ∧ i = .int .i64 k ∧ wr = w.drewN m) (fun i _ => n - (intOf i).toNat)
  case atStart => exact ⟨0, 0, Nat.zero_le _, rfl, rfl⟩
  case round =>
    obtain ⟨k, m, hk, rfl, rfl⟩ := hrel
    by_cases hlt : k < n
    · obtain ⟨rfl, -, -⟩ := H1.out (by omega)
      obtain ⟨rfl, -, -⟩ := H2.out (by omega)
      have x1 := H1.cell hlt
      have x2 := H2.cell hlt
      have hs := H1.small k hlt
      have HE := Go.Lib.hid (fun x => likeInts_same (a1 k) (a2 k) (rowAt zss k).length (c1 k) (c2 k) (rowAt zss k) _ _ _ _ (w.drewN x) ((H1.rd hlt).drewN x) ((H2.rd hlt).drewN x) (by omega))
      clear H1 H2
      generalize (rowAt zss k).length = z at *
      generalize a1 k = p1 at *
      generalize a2 k = p2 at *
      generalize c1 k = q1 at *
      generalize c2 k = q2 at *
      go_wp2_with fail
      go_region_held3 (fun w' => w'.cell? ⟨g1, k, none⟩ = some (.slice p1 z q1) ∧ w'.cell? ⟨g2, k, none⟩ = some (.slice p2 z q2)) (first | exact ⟨x1, x2⟩) (first | ((go_at_call 35; refine (HE.out _).mono ?_; rintro _ w1 ⟨rfl, d, rfl⟩)))
      go_wp2_with fail
      go_roundw
      case rel => exact ⟨k + 1, _, by omega, by go_num, rfl⟩
      case measure => simp [intOf]; omega
    · obtain rfl : k = n := by omega
      go_wp2_with fail
      go_ret
      exact ⟨rfl, m, rfl⟩
end Go.Proofs.Ytilepehlmjohbaa
