/- The laws' helpers on rows: eqInt64SS compares, markInt64SS writes, heldInt64SS looks, likeRows compares. -/
import Derived.Test.YthedanpldebjcaaGrid
import Derived.Test.YthedanpldebjcaaLikesI
namespace Go.Proofs.Ythedanpldebjcaa
open Go.RowKit

theorem eqRows_same (A B : Option Addr) (n cA cB : Nat) (zss : List (List Int)) (l1 h1 l2 h2 : Nat) (a1 a2 : Nat → Option Addr) (c1 G1 c2 G2 : Nat → Nat) (g1 g2 : Nat) (w : World) (H1 : GridAt w l1 h1 A n zss a1 c1 G1 g1) (H2 : GridAt w l2 h2 B n zss a2 c2 G2 g2) :
    Calls Try.prog 42 #[.slice A n cA, .slice B n cB] w (Only (.bool true) w) := by
  have hq : ((n : Int) != (n : Int)) = false := by simp
  have hmany := H1.many
  go_enter Try.func42, Try.ntmps42
  go_wp2_with fail
  go_loopw [5] (fun i wr => ∃ k m : Nat, k ≤ n ∧ i = .int .i64 k ∧ wr = w.drewN m) (fun i _ => n - (intOf i).toNat)
  case atStart => exact ⟨0, 0, Nat.zero_le _, rfl, rfl⟩
  case round =>
    obtain ⟨k, m, hk, rfl, rfl⟩ := hrel
    by_cases hlt : k < n
    · obtain ⟨rfl, -, -⟩ := H1.out (by omega)
      obtain ⟨rfl, -, -⟩ := H2.out (by omega)
      have x1 := H1.cell hlt
      have x2 := H2.cell hlt
      have hs := H1.small k hlt
      have HE := Go.Lib.hid (fun x => eqInts_same (a1 k) (a2 k) (rowAt zss k).length (c1 k) (c2 k) (rowAt zss k) _ _ _ _ (w.drewN x) ((H1.rd hlt).drewN x) ((H2.rd hlt).drewN x) (by omega))
      clear H1 H2
      generalize (rowAt zss k).length = z at *
      generalize a1 k = p1 at *
      generalize a2 k = p2 at *
      generalize c1 k = q1 at *
      generalize c2 k = q2 at *
      go_wp2_with fail
      go_region_held3 (fun w' => w'.cell? ⟨g1, k, none⟩ = some (.slice p1 z q1) ∧ w'.cell? ⟨g2, k, none⟩ = some (.slice p2 z q2)) (first | exact ⟨x1, x2⟩) (first | ((go_at_call 46; refine (HE.out _).mono ?_; rintro _ w1 ⟨rfl, d, rfl⟩)))
      go_wp2_with fail
      go_roundw
      case rel => exact ⟨k + 1, _, by omega, by go_num, rfl⟩
      case measure => simp [intOf]; omega
    · obtain rfl : k = n := by omega
      go_wp2_with fail
      go_ret
      exact ⟨rfl, m, rfl⟩
theorem likeRows_same (A B : Option Addr) (n cA cB : Nat) (zss : List (List Int)) (l1 h1 l2 h2 : Nat) (a1 a2 : Nat → Option Addr) (c1 G1 c2 G2 : Nat → Nat) (g1 g2 : Nat) (w : World) (H1 : GridAt w l1 h1 A n zss a1 c1 G1 g1) (H2 : GridAt w l2 h2 B n zss a2 c2 G2 g2) :
    Calls Try.prog 31 #[.slice A n cA, .slice B n cB] w (Only (.bool true) w) := by
  have hq : ((n : Int) != (n : Int)) = false := by simp
  have hmany := H1.many
  go_enter Try.func31, Try.ntmps31
  go_wp2_with fail
  go_loopw [5] (fun i wr => ∃ k m : Nat, k ≤ n ∧ i = .int .i64 k ∧ wr = w.drewN m) (fun i _ => n - (intOf i).toNat)
  case atStart => exact ⟨0, 0, Nat.zero_le _, rfl, rfl⟩
  case round =>
    obtain ⟨k, m, hk, rfl, rfl⟩ := hrel
    by_cases hlt : k < n
    · obtain ⟨rfl, -, -⟩ := H1.out (by omega)
      obtain ⟨rfl, -, -⟩ := H2.out (by omega)
      have x1 := H1.cell hlt
      have x2 := H2.cell hlt
      have hs := H1.small k hlt
      have HE := Go.Lib.hid (fun x => likeInts_same (a1 k) (a2 k) (rowAt zss k).length (c1 k) (c2 k) (rowAt zss k) _ _ _ _ (w.drewN x) ((H1.rd hlt).drewN x) ((H2.rd hlt).drewN x) (by omega))
      clear H1 H2
      generalize (rowAt zss k).length = z at *
      generalize a1 k = p1 at *
      generalize a2 k = p2 at *
      generalize c1 k = q1 at *
      generalize c2 k = q2 at *
      go_wp2_with fail
      go_region_held3 (fun w' => w'.cell? ⟨g1, k, none⟩ = some (.slice p1 z q1) ∧ w'.cell? ⟨g2, k, none⟩ = some (.slice p2 z q2)) (first | exact ⟨x1, x2⟩) (first | ((go_at_call 21; refine (HE.out _).mono ?_; rintro _ w1 ⟨rfl, d, rfl⟩)))
      go_wp2_with fail
      go_roundw
      case rel => exact ⟨k + 1, _, by omega, by go_num, rfl⟩
      case measure => simp [intOf]; omega
    · obtain rfl : k = n := by omega
      go_wp2_with fail
      go_ret
      exact ⟨rfl, m, rfl⟩
theorem markRows (A : Option Addr) (n cA k : Nat) (zss : List (List Int)) (lo hi : Nat) (a : Nat → Option Addr) (c G : Nat → Nat) (g : Nat) (w : World) (H : GridAt w lo hi A n zss a c G g) (hk : k ≤ 1000000) :
    Calls Try.prog 44 #[.slice A n cA, .int .i64 k] w fun e w' => e = .returned (.int .i64 ((k + off zss n : Nat) : Int)) ∧ GridAt w' lo hi A n (mixG k zss n) a c G g ∧ Keep lo hi w w' := by
  have hl := H.len
  have hmany := H.many
  have hsm := H.small
  have hoff := off_le hsm
  have h0 : GridAt w lo hi A n (mixG k zss 0) a c G g := by rw [mixG_zero]; exact H
  go_enter Try.func44, Try.ntmps44
  go_wp2_with fail
  go_loopw [1, 5] (fun x i wr => ∃ j : Nat, j ≤ n ∧ i = .int .i64 j ∧ x = .int .i64 ((k + off zss j : Nat) : Int) ∧ GridAt wr lo hi A n (mixG k zss j) a c G g ∧ Keep lo hi w wr) (fun _ i _ => n - (intOf i).toNat)
  case atStart => exact ⟨0, Nat.zero_le _, rfl, rfl, h0, Keep.refl _ _ _⟩
  case round =>
    obtain ⟨j, hj, rfl, rfl, hg, hb⟩ := hrel
    clear h0
    by_cases hlt : j < n
    · obtain ⟨e1, -, -⟩ := H.out (by omega)
      have hlen : (rowAt (mixG k zss j) j).length = (rowAt zss j).length := mixG_row k zss j (by omega)
      have x1 := hg.cell hlt
      rw [hlen] at x1
      have hs := hsm j hlt
      have ho := hoff j (by omega)
      have ho2 := hoff (j + 1) (by omega)
      have hn2 : off zss (j + 1) = off zss j + (rowAt zss j).length := rfl
      have hm := hg
      have HM := Go.Lib.hid (markIntsB (a j) (rowAt zss j).length (c j) (k + off zss j) (G j) (ints (rowAt (mixG k zss j) j)) wr (by rw [ints_len, hlen]) (fun hp => by
        have := hg.row j hlt (by rw [hlen]; exact hp)
        exact ⟨this.1, this.2.2⟩) (by omega) (by omega))
      have HG := Go.Lib.hid hg
      have HB := Go.Lib.hid hb
      have HR : Hid (0 < (rowAt zss j).length → lo ≤ G j ∧ G j + 1 ≤ hi) := Go.Lib.hid fun hp => by
        have := hg.row j hlt (by rw [hlen]; exact hp)
        omega
      clear hg hb hm H hsm hoff hlen hs ho ho2 hn2
      subst e1
      go_wp2_with fail
      refine HM.out.mono ?_
      rintro _ w1 ⟨rfl, k1, z1, b1⟩
      have HG1 := Go.Lib.hid (HG.out.marked hlt k1 z1 b1)
      have HB1 : Hid (Keep lo hi w w1) := Go.Lib.hid (by
        by_cases hp : 0 < (rowAt zss j).length
        · have := HR.out hp
          exact HB.out.trans ⟨k1.os, k1.tape, k1.output, k1.size, fun i hi2 ho => k1.block i hi2 (by omega)⟩
        · rw [z1 (by omega)]; exact HB.out)
      clear HM k1 z1 b1 HR HG HB x1
      go_wp2_with fail
      go_roundw
      case rel => exact ⟨j + 1, by omega, by go_num, by rw [show off zss (j + 1) = off zss j + (rowAt zss j).length from rfl]; go_num, HG1.out, HB1.out⟩
      case measure => simp [intOf]; omega
    · obtain rfl : j = n := by omega
      have HG := Go.Lib.hid hg
      have HB := Go.Lib.hid hb
      clear hg hb H hsm hoff
      go_wp2_with fail
      go_ret
      exact ⟨rfl, HG.out, HB.out⟩
theorem heldRows (A : Option Addr) (n cA k : Nat) (zss : List (List Int)) (lo hi : Nat) (a : Nat → Option Addr) (c G : Nat → Nat) (g : Nat) (w : World) (H : GridAt w lo hi A n (mixG k zss n) a c G g) (hk : k ≤ 1000000) :
    Calls Try.prog 45 #[.slice A n cA, .int .i64 k] w fun e w' => e = .returned (.int .i64 ((k + off zss n : Nat) : Int)) ∧ w = w' := by
  have hl : zss.length = n := by have := H.len; rwa [mixG_len] at this
  have hmany := H.many
  have hsm : ∀ i, i < n → (rowAt zss i).length ≤ 1000000 := fun i hi2 => by have := H.small i hi2; rwa [mixG_row k zss _ (by omega)] at this
  have hoff := off_le hsm
  go_enter Try.func45, Try.ntmps45
  go_wp2_with fail
  go_loop [1, 5] (fun x i => ∃ j : Nat, j ≤ n ∧ i = .int .i64 j ∧ x = .int .i64 ((k + off zss j : Nat) : Int)) (fun _ i => n - (intOf i).toNat)
  case atStart => exact ⟨0, Nat.zero_le _, rfl, rfl⟩
  case round =>
    obtain ⟨j, hj, rfl, rfl⟩ := hrel
    by_cases hlt : j < n
    · obtain ⟨e1, -, -⟩ := H.out (by omega)
      have hlen : (rowAt (mixG k zss n) j).length = (rowAt zss j).length := mixG_row k zss n (by omega)
      have x1 := H.cell hlt
      rw [hlen] at x1
      have hs := hsm j hlt
      have ho := hoff j (by omega)
      have ho2 := hoff (j + 1) (by omega)
      have hn2 : off zss (j + 1) = off zss j + (rowAt zss j).length := rfl
      have hr := H.rd hlt
      rw [mixG_at k zss n (by omega), if_pos hlt, marks_len] at hr
      have HM := Go.Lib.hid (heldInts (a j) (rowAt zss j).length (c j) (k + off zss j) _ _ w hr (by omega) (by omega))
      have hng : ¬ ((k + off zss j + (rowAt zss j).length : Nat) : Int) < 0 := by omega
      clear H hsm hoff hlen hs ho ho2 hn2 hr
      subst e1
      go_wp2_with fail
      refine HM.out.mono ?_
      rintro _ _ ⟨rfl, rfl⟩
      clear HM x1
      go_wp2_with fail
      go_round
      case rel => exact ⟨j + 1, by omega, by go_num, by rw [show off zss (j + 1) = off zss j + (rowAt zss j).length from rfl]; go_num⟩
      case measure => simp [intOf]; omega
    · obtain rfl : j = n := by omega
      clear H hsm hoff
      go_wp2_with fail
      go_ret
      exact ⟨rfl, rfl⟩
end Go.Proofs.Ythedanpldebjcaa
