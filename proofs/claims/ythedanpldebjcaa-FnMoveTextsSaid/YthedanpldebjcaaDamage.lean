/- The damage of a text (door seat). -/
import Derived.Test.YthedanpldebjcaaDrawB
import Derived.Deep.RegionWith
import Derived.Deep.RegionHeld3
namespace Go.Proofs.Ythedanpldebjcaa
open Go.RowKit
/-- Is each cell a short text? -/
def shorts (cs : List Value) : Bool := cs.all fun v => match v with | .string x => decide (x.size ≤ 17) | _ => false
theorem lit_at {w w2 : World} {g : Nat} (cs : Array Value) (t : TypeId) (m : Nat) (hm : cs.size = m) (hall : shorts cs.toList = true) (hg : g < w.heap.size) (hK : Keep g (g + 1) (w.alloc (.cells cs t)) w2) (k : Nat) (hk : k < m) :
    ∃ x : ByteArray, w2.cell? ⟨w.heap.size, k, none⟩ = some (.string x) ∧ x.size ≤ 17 := by
  have hh := heap_alloc_new w (.cells cs t)
  have h1 : (w.alloc (.cells cs t)).cell? ⟨w.heap.size, k, none⟩ = cs[k]? := by
    simp only [World.cell?, hh, Option.isSome_none, Bool.false_eq_true, if_false]
  have h2 : w2.cell? ⟨w.heap.size, k, none⟩ = cs[k]? := (World.cell?_of_block (hK.block w.heap.size (by simp) (.inr (by omega)))).trans h1
  have hlt : k < cs.size := by omega
  have h3 : cs[k]? = some cs[k] := by simp [hlt]
  have h4 := List.all_eq_true.1 hall cs[k] (by simp)
  rw [h2, h3]
  generalize cs[k] = v at h4 ⊢
  cases v <;> simp at h4
  exact ⟨_, rfl, h4⟩

theorem lit_now {w : World} (cs : Array Value) (t : TypeId) (m : Nat) (hm : cs.size = m) (hall : shorts cs.toList = true) (k : Nat) (hk : k < m) : ∃ x : ByteArray, (w.alloc (.cells cs t)).cell? ⟨w.heap.size, k, none⟩ = some (.string x) ∧ x.size ≤ 17 := by
  have hh := heap_alloc_new w (.cells cs t)
  have h1 : (w.alloc (.cells cs t)).cell? ⟨w.heap.size, k, none⟩ = cs[k]? := by
    simp only [World.cell?, hh, Option.isSome_none, Bool.false_eq_true, if_false]
  have hlt : k < cs.size := by omega
  have h3 : cs[k]? = some cs[k] := by simp [hlt]
  have h4 := List.all_eq_true.1 hall cs[k] (by simp)
  rw [h1, h3]
  generalize cs[k] = v at h4 ⊢
  cases v <;> simp at h4
  exact ⟨_, rfl, h4⟩

theorem damA (w2 w3 : World) (g k3 : Nat) (hk3 : k3 < 8) (hg2 : g < w2.heap.size) (hK3 : Keep g (g + 1) (w2.alloc (.cells #[.string ⟨#[48]⟩, .string ⟨#[35]⟩, .string ⟨#[46]⟩, .string ⟨#[47]⟩, .string ⟨#[32]⟩, .string ⟨#[97]⟩, .string ⟨#[45]⟩, .string ⟨#[10]⟩] 9)).drew w3) : ∃ x : ByteArray, w3.cell? ⟨w2.heap.size, k3, none⟩ = some (.string x) ∧ x.size ≤ 17 :=
  lit_at (w := w2) (g := g) #[.string ⟨#[48]⟩, .string ⟨#[35]⟩, .string ⟨#[46]⟩, .string ⟨#[47]⟩, .string ⟨#[32]⟩, .string ⟨#[97]⟩, .string ⟨#[45]⟩, .string ⟨#[10]⟩] 9 8 rfl rfl hg2 ⟨hK3.os, hK3.tape, hK3.output, hK3.size, hK3.block⟩ k3 hk3
theorem damB (w3 : World) (k3 : Nat) (hk3 : k3 < 8) : ∃ x : ByteArray, (w3.alloc (.cells #[.string ⟨#[48]⟩, .string ⟨#[35]⟩, .string ⟨#[46]⟩, .string ⟨#[47]⟩, .string ⟨#[32]⟩, .string ⟨#[97]⟩, .string ⟨#[45]⟩, .string ⟨#[10]⟩] 9)).cell? ⟨w3.heap.size, k3, none⟩ = some (.string x) ∧ x.size ≤ 17 := lit_now (w := w3) #[.string ⟨#[48]⟩, .string ⟨#[35]⟩, .string ⟨#[46]⟩, .string ⟨#[47]⟩, .string ⟨#[32]⟩, .string ⟨#[97]⟩, .string ⟨#[45]⟩, .string ⟨#[10]⟩] 9 8 rfl rfl k3 hk3

theorem idx8 {r : Int} (h0 : 0 ≤ r) (h1 : r < 8 ∨ r = 0) : ∃ k : Nat, r = k ∧ k < 8 ∧ (0 : Int) ≤ (k : Int) ∧ (k : Int) < 8 := ⟨r.toNat, by omega, by omega, by omega, by omega⟩
theorem damC (k3 : Nat) (hk3 : k3 < 8) : ∃ x : ByteArray, ([.string ⟨#[48]⟩, .string ⟨#[35]⟩, .string ⟨#[46]⟩, .string ⟨#[47]⟩, .string ⟨#[32]⟩, .string ⟨#[97]⟩, .string ⟨#[45]⟩, .string ⟨#[10]⟩] : List Value)[k3]'hk3 = .string x ∧ x.size ≤ 17 := by
  match k3, hk3 with
  | 0, _ => exact ⟨_, rfl, by decide⟩
  | 1, _ => exact ⟨_, rfl, by decide⟩
  | 2, _ => exact ⟨_, rfl, by decide⟩
  | 3, _ => exact ⟨_, rfl, by decide⟩
  | 4, _ => exact ⟨_, rfl, by decide⟩
  | 5, _ => exact ⟨_, rfl, by decide⟩
  | 6, _ => exact ⟨_, rfl, by decide⟩
  | 7, _ => exact ⟨_, rfl, by decide⟩
/-- What the damage of a text hands back. -/
def DamEnd (w : World) (g : Nat) (A : Option Addr) (n cap : Nat) (bs : List Int) (m : Nat) (e : Ending) (w' : World) : Prop :=
  ∃ x : ByteArray, e = .returned (.string x) ∧ x.size ≤ m + 17 ∧ Src w' g A n cap bs ∧ Keep g (g + 1) w w'
set_option maxRecDepth 100000 in
set_option maxHeartbeats 8000000 in
theorem damage (g : Nat) (A : Option Addr) (n cap : Nat) (bs : List Int) (t : ByteArray) (w : World) (h : Src w g A n cap bs) (ht : t.size ≤ 1000000000) :
    Calls Try.prog 74 #[.pointer (some ⟨g, 0, none⟩), .string t] w (DamEnd w g A n cap bs t.size) := by
  have HN := Go.Lib.hid (fun m w' h' => next g A n cap bs m w' h')
  go_enter Try.func74, Try.ntmps74
  go_wp2_with fail
  refine (HN.out _ w h).mono ?_
  rintro e w1 ⟨r, rfl, hr0, hr1, hS1, hK1⟩
  have hrt : r ≤ t.size := by omega
  obtain ⟨k, rfl⟩ : ∃ k : Nat, r = k := ⟨r.toNat, by omega⟩
  go_wp2_with fail
  refine (HN.out _ w1 hS1).mono ?_
  rintro e w2 ⟨r2, rfl, hr20, hr21, hS2, hK2⟩
  have h012 : r2 = 0 ∨ r2 = 1 ∨ r2 = 2 ∨ 3 ≤ r2 := by omega
  rcases h012 with rfl | rfl | rfl | h3
  · go_wp2_with fail
    go_ret
    exact ⟨t.extract 0 k, rfl, by simp [ByteArray.size_extract]; omega, hS2, hK1.trans hK2⟩
  · have hSa : Src (w2.alloc (.cells #[.string ⟨#[48]⟩, .string ⟨#[35]⟩, .string ⟨#[46]⟩, .string ⟨#[47]⟩, .string ⟨#[32]⟩, .string ⟨#[97]⟩, .string ⟨#[45]⟩, .string ⟨#[10]⟩] 9)).drew g A n cap bs := (hS2.below ((Below.refl _ _).alloc (Nat.le_refl _) _)).drewN 1
    have hSd : Src w2.drew g A n cap bs := hS2.drewN 1
    have HSA := Go.Lib.hid hSa
    have HSD := Go.Lib.hid hSd
    have hg2 := hS2.lt
    clear hSa hSd
    go_wp2_with fail
    go_region_with (go_at_call 53; refine (HN.out 8 _ (by first | exact HSD.out | exact HSA.out)).mono ?_; rintro e w3 ⟨r3, rfl, hr30, hr31, hS3, hK3⟩; obtain ⟨k3, rfl, hk3, hki0, hki1⟩ := idx8 hr30 hr31; (first | (refine Exists.elim (damA w2 w3 g k3 hk3 hg2 hK3) ?_; rintro x ⟨hx, hsz⟩) | (refine Exists.elim (damC k3 hk3) ?_; rintro x ⟨hx, hsz⟩)))
    all_goals go_wp2_with fail
    all_goals go_ret
    all_goals first
      | exact ⟨t.extract 0 k ++ x ++ t.extract k t.size, rfl, by simp [ByteArray.size_append, ByteArray.size_extract]; omega, hS3, (hK1.trans hK2).trans (((keepAlloc w2 g _).drewN 1).trans hK3)⟩
      | exact ⟨t.extract 0 k ++ x ++ t.extract k t.size, rfl, by simp [ByteArray.size_append, ByteArray.size_extract]; omega, hS3.below ((Below.refl _ _).alloc (Nat.le_refl _) _), ((hK1.trans hK2).trans (((Keep.refl g (g + 1) w2).drewN 1).trans hK3)).trans (keepAlloc w3 g _)⟩
  · by_cases hkt : k < t.size
    · go_wp2_with fail
      go_quiet (fail)
      go_wp2_with fail
      go_ret
      exact ⟨t.extract 0 k ++ t.extract (k + 1) t.size, rfl, by simp [ByteArray.size_append, ByteArray.size_extract]; omega, hS2.drewN _, (hK1.trans hK2).drewN _⟩
    · go_wp2_with fail
      go_ret
      exact ⟨t, rfl, by omega, hS2, hK1.trans hK2⟩
  · have a0 : (r2 == 0) = false := by simp; omega
    have a1 : (r2 == 1) = false := by simp; omega
    have a2 : (r2 == 2) = false := by simp; omega
    go_wp2_with fail
    go_ret
    exact ⟨t, rfl, by omega, hS2, hK1.trans hK2⟩
end Go.Proofs.Ythedanpldebjcaa
