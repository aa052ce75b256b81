/- The law's helper eqInt64SS on rows that lie somewhere. -/
import Derived.Test.YthedanpldebjcaaGrid2
import Derived.Test.YthedanpldebjcaaGearS5
import Derived.Test.YthedanpldebjcaaLawTr
namespace Go.Proofs.Ythedanpldebjcaa
open Go.RowKit
set_option linter.unusedSimpArgs false
set_option linter.unusedVariables false

/-- Rows that can be read. -/
structure RdZ (zs : List (List Int)) (B : Option Addr) (W : World) : Prop where
  at_ : ∀ k, k < zs.length → ∃ b o D d, B = some ⟨b, o, none⟩ ∧ W.cell? ⟨b, o + k, none⟩ = some (.slice D (rowAt zs k).length d) ∧ Rd W 0 W.heap.size D (rowAt zs k).length (ints (rowAt zs k))
  many : zs.length ≤ 1048576
  small : ∀ k, k < zs.length → (rowAt zs k).length ≤ 1048576
theorem LsZ.rdZ {zs : List (List Int)} {B : Option Addr} {c : Nat} {W : World} (h : LsZ zs B c W) : RdZ zs B W := by
  refine ⟨fun k hk => ?_, h.few, fun k hk => ?_⟩
  · obtain ⟨b, o, D, d, e, -, hc, l⟩ := h.at_ hk
    exact ⟨b, o, D, d, e, hc, l.rd⟩
  · obtain ⟨b, o, D, d, e, -, hc, l⟩ := h.at_ hk
    exact l.few
theorem GridAt.rdZ {w : World} {lo hi n : Nat} {A : Option Addr} {zss : List (List Int)} {a : Nat → Option Addr} {c G : Nat → Nat} {g : Nat} (h : GridAt w lo hi A n zss a c G g) : RdZ zss A w := by
  have hl := h.len
  have hm := h.many
  refine ⟨fun k hk => ?_, by omega, fun k hk => by have := h.small k (by omega); omega⟩
  obtain ⟨e, -, -⟩ := h.out (by omega)
  exact ⟨g, 0, a k, c k, e, by rw [Nat.zero_add]; exact h.cell (by omega), h.rd (by omega)⟩
theorem RdZ.nil (W : World) (B : Option Addr) : RdZ [] B W := ⟨fun k hk => absurd hk (by simp), by simp, fun k hk => absurd hk (by simp)⟩
set_option maxRecDepth 100000 in
set_option maxHeartbeats 4000000 in
theorem eqRowsZ (A B : Option Addr) (n cA cB : Nat) (zss : List (List Int)) (w : World) (hn : zss.length = n) (H1 : RdZ zss A w) (H2 : RdZ zss B w) :
    Calls Try.prog 42 #[.slice A n cA, .slice B n cB] w (Only (.bool true) w) := by
  have hq : ((n : Int) != (n : Int)) = false := by simp
  have hmany := H1.many
  subst hn
  have HL := Go.Lib.hid (show ∃ n, zss.length = n from ⟨_, rfl⟩)
  go_enter Try.func42, Try.ntmps42
  go_wp2_with fail
  go_loopw [5] (fun i wr => ∃ k m : Nat, k ≤ zss.length ∧ i = .int .i64 k ∧ wr = w.drewN m) (fun i _ => zss.length - (intOf i).toNat)
  case atStart => exact ⟨0, 0, Nat.zero_le _, rfl, rfl⟩
  case round =>
    obtain ⟨k, m, hk, rfl, rfl⟩ := hrel
    by_cases hlt : k < zss.length
    · obtain ⟨g1, o1, p1, q1, rfl, x1, r1⟩ := H1.at_ k hlt
      obtain ⟨g2, o2, p2, q2, rfl, x2, r2⟩ := H2.at_ k hlt
      have hs := H1.small k hlt
      have HE := Go.Lib.hid (fun x => eqInts_same p1 p2 (rowAt zss k).length q1 q2 (rowAt zss k) _ _ _ _ (w.drewN x) (r1.drewN x) (r2.drewN x) (by omega))
      clear H1 H2 r1 r2
      generalize (rowAt zss k).length = z at *
      have hki : (k : Int) < zss.length := by omega
      go_wp2_with fail
      go_region_held3 (fun w' => w'.cell? ⟨g1, o1 + k, none⟩ = some (.slice p1 z q1) ∧ w'.cell? ⟨g2, o2 + k, none⟩ = some (.slice p2 z q2)) (first | exact ⟨x1, x2⟩) (first | ((go_at_call 46; refine (HE.out _).mono ?_; rintro _ w1 ⟨rfl, d, rfl⟩)))
      go_wp2_with fail
      go_roundw
      case rel => exact ⟨k + 1, _, by omega, by go_num, rfl⟩
      case measure => simp [intOf]; omega
    · obtain rfl : k = zss.length := by omega
      go_wp2_with fail
      go_ret
      exact ⟨rfl, m, rfl⟩
set_option maxRecDepth 100000 in
set_option maxHeartbeats 4000000 in
theorem likeRowsZ (A B : Option Addr) (n cA cB : Nat) (zss : List (List Int)) (w : World) (hn : zss.length = n) (H1 : RdZ zss A w) (H2 : RdZ zss B w) :
    Calls Try.prog 31 #[.slice A n cA, .slice B n cB] w (Only (.bool true) w) := by
  have hq : ((n : Int) != (n : Int)) = false := by simp
  have hmany := H1.many
  subst hn
  have HL := Go.Lib.hid (show ∃ n, zss.length = n from ⟨_, rfl⟩)
  go_enter Try.func31, Try.ntmps31
  go_wp2_with fail
  go_loopw [5] (fun i wr => ∃ k m : Nat, k ≤ zss.length ∧ i = .int .i64 k ∧ wr = w.drewN m) (fun i _ => zss.length - (intOf i).toNat)
  case atStart => exact ⟨0, 0, Nat.zero_le _, rfl, rfl⟩
  case round =>
    obtain ⟨k, m, hk, rfl, rfl⟩ := hrel
    by_cases hlt : k < zss.length
    · obtain ⟨g1, o1, p1, q1, rfl, x1, r1⟩ := H1.at_ k hlt
      obtain ⟨g2, o2, p2, q2, rfl, x2, r2⟩ := H2.at_ k hlt
      have hs := H1.small k hlt
      have HE := Go.Lib.hid (fun x => likeInts_same p1 p2 (rowAt zss k).length q1 q2 (rowAt zss k) _ _ _ _ (w.drewN x) (r1.drewN x) (r2.drewN x) (by omega))
      clear H1 H2 r1 r2
      generalize (rowAt zss k).length = z at *
      have hki : (k : Int) < zss.length := by omega
      go_wp2_with fail
      go_region_held3 (fun w' => w'.cell? ⟨g1, o1 + k, none⟩ = some (.slice p1 z q1) ∧ w'.cell? ⟨g2, o2 + k, none⟩ = some (.slice p2 z q2)) (first | exact ⟨x1, x2⟩) (first | ((go_at_call 21; refine (HE.out _).mono ?_; rintro _ w1 ⟨rfl, d, rfl⟩)))
      go_wp2_with fail
      go_roundw
      case rel => exact ⟨k + 1, _, by omega, by go_num, rfl⟩
      case measure => simp [intOf]; omega
    · obtain rfl : k = zss.length := by omega
      go_wp2_with fail
      go_ret
      exact ⟨rfl, m, rfl⟩
/-- A call's answer: rows of its own, and a number. -/
def GivesG (p : List (List Int) × Int) (w : World) (e : Ending) (w' : World) : Prop :=
  ∃ A cap a c G g, e = .returned (.tuple #[.slice A p.1.length cap, .int .i64 p.2]) ∧ GridAt w' w.heap.size w'.heap.size A p.1.length p.1 a c G g ∧ Below w.heap.size w w'
/-- A call's answer: rows that can be read, and a number. -/
def GivesR (p : List (List Int) × Int) (w : World) (e : Ending) (w' : World) : Prop :=
  ∃ A cap, e = .returned (.tuple #[.slice A p.1.length cap, .int .i64 p.2]) ∧ RdZ p.1 A w' ∧ Below w.heap.size w w'
theorem GivesZ.rd {p : List (List Int) × Int} {w w' : World} {e : Ending} (h : GivesZ p w e w') (hf : p.1.length ≤ 1048576) : GivesR p w e w' := by
  obtain ⟨b, ⟨h0, rfl⟩ | ⟨g, cap, rfl, o⟩⟩ := h
  · refine ⟨none, 0, by rw [h0]; rfl, by rw [h0]; exact RdZ.nil _ _, b⟩
  · exact ⟨_, _, rfl, (o.ls hf).rdZ, b⟩
theorem RdZ.below {zs : List (List Int)} {B : Option Addr} {W W1 : World} (h : RdZ zs B W) (b : Below W.heap.size W W1) : RdZ zs B W1 := by
  refine ⟨fun k hk => ?_, h.many, h.small⟩
  obtain ⟨g, o, D, d, e, hc, r⟩ := h.at_ k hk
  exact ⟨g, o, D, d, e, (b.cell (p := ⟨g, o + k, none⟩) (World.block_lt_of_cell? W _ hc)).trans hc, (r.below b (Nat.le_refl _)).mono (Nat.le_refl _) b.size⟩
theorem OwnTr.below {x : Trn} {A : Option Addr} {c : Nat} {B : Option Addr} {d : Nat} {W W1 : World} {lo hi m : Nat} (h : OwnTr x A c B d W lo hi) (b : Below m W W1) (hh : hi ≤ m) : OwnTr x A c B d W1 lo hi := by
  obtain ⟨mid, h1, h2, o1, o2⟩ := h
  exact ⟨mid, h1, h2, o1.below b (by omega), o2.below b hh⟩
end Go.Proofs.Ythedanpldebjcaa
