/- The draws: a source over a list of bytes, and the next number from it. -/
import Derived.Test.YthedanpldebjcaaMgWays1
import Derived.Test.YthedanpldebjcaaMem
import Derived.WalkKit
import Derived.WalkLawsBesides
import Derived.WalkSpells
import Derived.Deep.QuietTactic
import Derived.BigQuiet
import Derived.Deep.LoopGhost
namespace Go.Proofs.Ythedanpldebjcaa
open Go.RowKit

/-- The source in block g, over the bytes bs. -/
structure Src (w : World) (g : Nat) (A : Option Addr) (n cap : Nat) (bs : List Int) : Prop where
  lt : g < w.heap.size
  code : w.cell? ⟨g, 0, none⟩ = some (.slice A n cap)
  place : ∃ k : Nat, k ≤ n ∧ w.cell? ⟨g, 1, none⟩ = some (.int .i64 k)
  seed : ∃ z : Int, 0 ≤ z ∧ z < 2147483647 ∧ w.cell? ⟨g, 2, none⟩ = some (.int .i64 z)
  free : ∀ j, w.frozen? ⟨g, j, none⟩ = false
  rd : Rd w 0 g A n (byts bs)
  small : ∀ z ∈ bs, 0 ≤ z ∧ z ≤ 255
  many : n ≤ 140737488355328

theorem keepSet (w : World) (g j : Nat) (u : Value) : Keep g (g + 1) w (w.setCell ⟨g, j, none⟩ u) := (Keep.refl g (g + 1) w).setCell (p := ⟨g, j, none⟩) (Nat.le_refl _) (Nat.lt_succ_self _) u
theorem Src.drewN {w : World} {g : Nat} {A : Option Addr} {n cap : Nat} {bs : List Int} (h : Src w g A n cap bs) (m : Nat) : Src (w.drewN m) g A n cap bs :=
  ⟨h.lt, h.code, h.place, h.seed, h.free, h.rd.drewN m, h.small, h.many⟩
theorem Src.below {w w' : World} {g : Nat} {A : Option Addr} {n cap : Nat} {bs : List Int} (h : Src w g A n cap bs) (hb : Below w.heap.size w w') : Src w' g A n cap bs := by
  have hc : ∀ j, w'.cell? ⟨g, j, none⟩ = w.cell? ⟨g, j, none⟩ := fun j => hb.cell (p := ⟨g, j, none⟩) h.lt
  refine ⟨Nat.lt_of_lt_of_le h.lt hb.size, (hc 0).trans h.code, ?_, ?_, fun j => ?_, h.rd.below hb (Nat.le_of_lt h.lt), h.small, h.many⟩
  · obtain ⟨k, hk, hp⟩ := h.place
    exact ⟨k, hk, (hc 1).trans hp⟩
  · obtain ⟨z, h0, h1, hp⟩ := h.seed
    exact ⟨z, h0, h1, (hc 2).trans hp⟩
  · have := h.free j
    simp only [World.frozen?] at this ⊢
    rw [hb.block g h.lt]
    exact this
theorem Src.set2 {w : World} {g : Nat} {A : Option Addr} {n cap : Nat} {bs : List Int} (h : Src w g A n cap bs) {z : Int} (h0 : 0 ≤ z) (h1 : z < 2147483647) : Src (w.setCell ⟨g, 2, none⟩ (.int .i64 z)) g A n cap bs := by
  obtain ⟨k, hk, hp⟩ := h.place
  obtain ⟨z0, _, _, hq⟩ := h.seed
  have hk2 : Keep g (g + 1) w (w.setCell ⟨g, 2, none⟩ (.int .i64 z)) := keepSet _ _ _ _
  refine ⟨by simpa [World.setCell] using h.lt, ?_, ⟨k, hk, ?_⟩, ⟨z, h0, h1, ?_⟩, fun j => ?_, h.rd.keep hk2 (Nat.le_of_lt h.lt) (.inl (Nat.le_refl _)), h.small, h.many⟩
  · rw [World.cell?_setCell_other _ _ _ _ (by simp)]; exact h.code
  · rw [World.cell?_setCell_other _ _ _ _ (by simp)]; exact hp
  · exact World.cell?_setCell_same _ _ _ hq
  · rw [World.frozen?_setCell]; exact h.free j
theorem Src.set1 {w : World} {g : Nat} {A : Option Addr} {n cap : Nat} {bs : List Int} (h : Src w g A n cap bs) {k : Nat} (hk : k ≤ n) : Src (w.setCell ⟨g, 1, none⟩ (.int .i64 k)) g A n cap bs := by
  obtain ⟨k0, _, hp⟩ := h.place
  obtain ⟨z, h0, h1, hq⟩ := h.seed
  have hk2 : Keep g (g + 1) w (w.setCell ⟨g, 1, none⟩ (.int .i64 k)) := keepSet _ _ _ _
  refine ⟨by simpa [World.setCell] using h.lt, ?_, ⟨k, hk, ?_⟩, ⟨z, h0, h1, ?_⟩, fun j => ?_, h.rd.keep hk2 (Nat.le_of_lt h.lt) (.inl (Nat.le_refl _)), h.small, h.many⟩
  · rw [World.cell?_setCell_other _ _ _ _ (by simp)]; exact h.code
  · exact World.cell?_setCell_same _ _ _ hp
  · rw [World.cell?_setCell_other _ _ _ _ (by simp)]; exact hq
  · rw [World.frozen?_setCell]; exact h.free j

/-- What l01Next hands back. -/
def NextEnd (w : World) (g : Nat) (A : Option Addr) (n cap : Nat) (bs : List Int) (m : Int) (e : Ending) (w' : World) : Prop :=
  ∃ r : Int, e = .returned (.int .i64 r) ∧ 0 ≤ r ∧ (r < m ∨ r = 0) ∧ Src w' g A n cap bs ∧ Keep g (g + 1) w w'

theorem next (g : Nat) (A : Option Addr) (n cap : Nat) (bs : List Int) (m : Int) (w : World) (h : Src w g A n cap bs) :
    Calls Try.prog 53 #[.pointer (some ⟨g, 0, none⟩), .int .i64 m] w (NextEnd w g A n cap bs m) := by
  by_cases hm : m ≤ 1
  · go_enter Try.func53, Try.ntmps53
    go_wp2_with fail
    go_ret
    exact ⟨0, rfl, Int.le_refl _, .inr rfl, h, Keep.refl _ _ _⟩
  · obtain ⟨z, hz0, hz1, hseed⟩ := h.seed
    have hf2 := h.free 2
    go_enter Try.func53, Try.ntmps53
    go_wp2_with fail
    have z0' : 0 ≤ (z * 48271 + 29) % 2147483647 := Int.emod_nonneg _ (by omega)
    have z1' : (z * 48271 + 29) % 2147483647 < 2147483647 := Int.emod_lt_of_pos _ (by omega)
    have hS := h.set2 z0' z1'
    have hK : Keep g (g + 1) w (w.setCell ⟨g, 2, none⟩ (.int .i64 ((z * 48271 + 29) % 2147483647))) := keepSet _ _ _ _
    have x0' : 0 ≤ (z * 48271 + 29) % 2147483647 / 31 := by omega
    have x1' : (z * 48271 + 29) % 2147483647 / 31 ≤ 2147483647 := by omega
    clear hseed hf2
    generalize w.setCell ⟨g, 2, none⟩ (.int .i64 ((z * 48271 + 29) % 2147483647)) = w2 at hS hK ⊢
    generalize (z * 48271 + 29) % 2147483647 = z1 at z0' z1' x0' x1' ⊢
    generalize z1 / 31 = x0 at x0' x1' ⊢
    obtain ⟨k, hk, hp⟩ := hS.place
    have hcode := hS.code
    have hmany := hS.many
    by_cases hkn : k < n
    · obtain ⟨b, o, rfl, hlo, hlt, hcs⟩ := hS.rd.at_ hkn
      have hbl : bs.length = n := by have := hS.rd.len; rwa [byts_len] at this
      have hbyte : w2.cell? ⟨b, o + k, none⟩ = some (.int .u8 (bs.getD k 0)) := hcs k _ (byts_at bs k (by omega))
      have hsm : 0 ≤ bs.getD k 0 ∧ bs.getD k 0 ≤ 255 := hS.small _ (by
        have : k < bs.length := by omega
        simp [List.getD, this])
      obtain ⟨c, hc⟩ : ∃ c, c = bs.getD k 0 := ⟨_, rfl⟩
      rw [← hc] at hbyte hsm
      obtain ⟨hc0, hc1⟩ := hsm
      have hf1 := hS.free 1
      have HC := Go.Lib.hid hc
      have hS1 : ∀ q, Src ((w2.drewN q).setCell ⟨g, 1, none⟩ (.int .i64 ((k : Int) + 1))) g (some ⟨b, o, none⟩) n cap bs := fun q => by
        have := (hS.drewN q).set1 (k := k + 1) (by omega)
        rwa [show ((k + 1 : Nat) : Int) = (k : Int) + 1 by omega] at this
      have hK1 : ∀ q, Keep g (g + 1) w ((w2.drewN q).setCell ⟨g, 1, none⟩ (.int .i64 ((k : Int) + 1))) := fun q => (hK.drewN q).trans (keepSet _ _ _ _)
      have hP1 : ∀ q, ((w2.drewN q).setCell ⟨g, 1, none⟩ (.int .i64 ((k : Int) + 1))).cell? ⟨g, 1, none⟩ = some (.int .i64 ((k : Int) + 1)) := fun q => World.cell?_setCell_same _ _ _ (u := .int .i64 k) hp
      have HS1 := Go.Lib.hid hS1
      have HK1 := Go.Lib.hid hK1
      have HP1 := Go.Lib.hid hP1
      clear hc hcs hS1 hK1 hP1
      go_quiet (fail)
      go_wp2_with fail
      go_quiet (fail)
      go_wp2_with fail
      · rename_i q1 e1 e2
        have s3 := HS1.out (q1 + nq)
        have k3 := HK1.out (q1 + nq)
        have p3 := HP1.out (q1 + nq)
        obtain ⟨b', o', he, _, _, hcs3⟩ := s3.rd.at_ hkn
        cases he
        have b3 := hcs3 k _ (byts_at bs k (by omega))
        rw [← HC.out] at b3
        have c3 := s3.code
        clear hcs3 hbyte hcode hp hf1 HS1 HK1 HP1 e2
        generalize (w2.drewN (q1 + nq)).setCell ⟨g, 1, none⟩ (.int .i64 ((k : Int) + 1)) = w3 at s3 k3 p3 b3 c3 ⊢
        go_quiet (fail)
        go_wp2_with fail
        go_ret
        exact ⟨c % m, rfl, Int.emod_nonneg _ (by omega), .inl (Int.emod_lt_of_pos _ (by omega)), s3.drewN _, k3.drewN _⟩
      all_goals go_ret
      all_goals exact ⟨(x0 + c) % m, rfl, Int.emod_nonneg _ (by omega), .inl (Int.emod_lt_of_pos _ (by omega)), HS1.out _, HK1.out _⟩
    · go_quiet (fail)
      go_wp2_with fail
      go_ret
      exact ⟨x0 % m, rfl, Int.emod_nonneg _ (by omega), .inl (Int.emod_lt_of_pos _ (by omega)), hS.drewN _, hK.drewN _⟩
end Go.Proofs.Ythedanpldebjcaa
namespace Go.Proofs.Ythedanpldebjcaa
open Go.RowKit
theorem big_ (A : Option Addr) (n cap : Nat) (w : World) : Calls Try.prog 14 #[.slice A n cap] w fun e w' => e = .returned (.bool (decide ((4096 : Int) < n))) ∧ w = w' := by
  go_enter Try.func14, Try.ntmps14
  go_wp2_with fail
  go_ret
  exact ⟨rfl, rfl⟩
end Go.Proofs.Ythedanpldebjcaa
