/- The laws' dice: roll, below; and inside. -/
import Derived.Test.YtpcaakmcjdginaaDraw3
import Derived.Lib.VarintBits
namespace Go.Proofs.Ytpcaakmcjdginaa
open Go.RowKit

theorem and24 (x : Int) (h₀ : 0 ≤ x) (h₁ : x < 18446744073709551616) : bits BinOp.and IntKind.u64 x 16777215 = x % 16777216 := bits_mask .u64 64 (by decide) wraps_u64 24 (by decide) x h₀ h₁
theorem u64_bd (x : Int) : 0 ≤ IntKind.u64.wrap x ∧ IntKind.u64.wrap x < 18446744073709551616 := by
  rw [IntKind.wrap_u64]
  omega

/-- The dice in block g, over the bytes bs. -/
structure Dice (w : World) (g : Nat) (A : Option Addr) (n cap : Nat) (bs : List Int) : Prop where
  lt : g < w.heap.size
  code : w.cell? ⟨g, 0, none⟩ = some (.slice A n cap)
  place : ∃ k : Nat, k ≤ n ∧ w.cell? ⟨g, 1, none⟩ = some (.int .i64 k)
  seed : ∃ z : Int, 0 ≤ z ∧ z < 18446744073709551616 ∧ w.cell? ⟨g, 2, none⟩ = some (.int .u64 z)
  free : ∀ j, w.frozen? ⟨g, j, none⟩ = false
  rd : Rd w 0 g A n (byts bs)
  small : ∀ z ∈ bs, 0 ≤ z ∧ z ≤ 255
  many : n ≤ 140737488355328

theorem Dice.drewN {w : World} {g : Nat} {A : Option Addr} {n cap : Nat} {bs : List Int} (h : Dice w g A n cap bs) (m : Nat) : Dice (w.drewN m) g A n cap bs :=
  ⟨h.lt, h.code, h.place, h.seed, h.free, h.rd.drewN m, h.small, h.many⟩
theorem Dice.set2 {w : World} {g : Nat} {A : Option Addr} {n cap : Nat} {bs : List Int} (h : Dice w g A n cap bs) {z : Int} (h0 : 0 ≤ z) (h1 : z < 18446744073709551616) : Dice (w.setCell ⟨g, 2, none⟩ (.int .u64 z)) g A n cap bs := by
  obtain ⟨k, hk, hp⟩ := h.place
  obtain ⟨z0, _, _, hq⟩ := h.seed
  have hk2 : Keep g (g + 1) w (w.setCell ⟨g, 2, none⟩ (.int .u64 z)) := keepSet _ _ _ _
  refine ⟨by simpa [World.setCell] using h.lt, ?_, ⟨k, hk, ?_⟩, ⟨z, h0, h1, ?_⟩, fun j => ?_, h.rd.keep hk2 (Nat.le_of_lt h.lt) (.inl (Nat.le_refl _)), h.small, h.many⟩
  · rw [World.cell?_setCell_other _ _ _ _ (by simp)]; exact h.code
  · rw [World.cell?_setCell_other _ _ _ _ (by simp)]; exact hp
  · exact World.cell?_setCell_same _ _ _ hq
  · rw [World.frozen?_setCell]; exact h.free j
theorem Dice.start {w : World} {A : Option Addr} {n cap : Nat} {bs : List Int} {t : TypeId} {z : Int} (h : Rd w 0 w.heap.size A n (byts bs)) (hs : ∀ z ∈ bs, 0 ≤ z ∧ z ≤ 255) (hn : n ≤ 140737488355328) (h0 : 0 ≤ z) (h1 : z < 18446744073709551616) :
    Dice (w.alloc (.cells #[.slice A n cap, .int .i64 0, .int .u64 z] t)) w.heap.size A n cap bs := by
  have hh := heap_alloc_new w (.cells #[.slice A n cap, .int .i64 0, .int .u64 z] t)
  have hc : ∀ j, (w.alloc (.cells #[.slice A n cap, .int .i64 0, .int .u64 z] t)).cell? ⟨w.heap.size, j, none⟩ = (#[.slice A n cap, .int .i64 0, .int .u64 z] : Array Value)[j]? := fun j => by
    simp only [World.cell?, hh, Option.isSome_none, Bool.false_eq_true, if_false]
  have hf : ∀ j, (w.alloc (.cells #[.slice A n cap, .int .i64 0, .int .u64 z] t)).frozen? ⟨w.heap.size, j, none⟩ = false := fun j => by
    simp only [World.frozen?, hh]
    simp
  refine ⟨by simp, hc 0, ⟨0, Nat.zero_le _, hc 1⟩, ⟨z, h0, h1, hc 2⟩, hf, ?_, hs, hn⟩
  exact h.below (B := w.heap.size) ((Below.refl _ _).alloc (Nat.le_refl _) _) (Nat.le_refl _)

/-- What roll hands back. -/
def RollEnd (w : World) (A : Option Addr) (n cap : Nat) (bs : List Int) (e : Ending) (w' : World) : Prop :=
  ∃ g, e = .returned (.pointer (some ⟨g, 0, none⟩)) ∧ w.heap.size ≤ g ∧ Dice w' g A n cap bs ∧ Below w.heap.size w w'

set_option maxRecDepth 100000 in
theorem roll (A : Option Addr) (n cap : Nat) (bs : List Int) (s : Int) (w : World) (h : Rd w 0 w.heap.size A n (byts bs)) (hs : ∀ z ∈ bs, 0 ≤ z ∧ z ≤ 255) (hn : n ≤ 140737488355328) :
    Calls Try.prog 40 #[.slice A n cap, .int .u64 s] w (RollEnd w A n cap bs) := by
  go_enter Try.func40, Try.ntmps40
  go_wp2_with fail
  obtain ⟨z0, hz⟩ : ∃ z0, z0 = IntKind.u64.wrap (IntKind.u64.wrap (s * 7919) + (n : Int)) := ⟨_, rfl⟩
  rw [← hz]
  have hzb := u64_bd (IntKind.u64.wrap (s * 7919) + (n : Int))
  rw [← hz] at hzb
  clear hz
  have start := Dice.start (cap := cap) (t := 73) h hs hn hzb.1 hzb.2
  have hb := (Below.refl w.heap.size w).alloc (Nat.le_refl _) (.cells #[.slice A n cap, .int .i64 0, .int .u64 z0] 73)
  have START := Go.Lib.hid (And.intro start hb)
  clear start hb hzb
  generalize w.alloc (.cells #[.slice A n cap, .int .i64 0, .int .u64 z0] 73) = w0 at START ⊢
  go_loopw [6] (fun i wr => ∃ k : Nat, k ≤ n ∧ i = .int .i64 k ∧ Dice wr w.heap.size A n cap bs ∧ Below w.heap.size w wr) (fun i _ => n - (intOf i).toNat)
  case atStart => exact ⟨0, Nat.zero_le _, rfl, START.out.1, START.out.2⟩
  case round =>
    obtain ⟨k, hk, rfl, hS, hb⟩ := hrel
    clear START
    by_cases hkn : k < n
    · obtain ⟨z, hz0, hz1, hseed⟩ := hS.seed
      have hf2 := hS.free 2
      obtain ⟨b, o, rfl, hlo, hlt, hcs⟩ := hS.rd.at_ hkn
      have hbl : bs.length = n := by have := hS.rd.len; rwa [byts_len] at this
      have hbyte := hcs k _ (byts_at bs k (by omega))
      have hsm : 0 ≤ bs.getD k 0 ∧ bs.getD k 0 ≤ 255 := hS.small _ (by
        have : k < bs.length := by omega
        simp [List.getD, this])
      generalize bs.getD k 0 = c at hbyte hsm
      obtain ⟨hc0, hc1⟩ := hsm
      clear hcs
      go_wp2_with fail
      go_still_tail 15, (by kernel_rfl)
      change wpList _ _ _ _ _ (wr.drewN 1)
      have hxb := u64_bd (IntKind.u64.wrap (IntKind.u64.wrap (z * 1099511628211) + IntKind.u64.wrap c) + 3)
      have hS1 := hS.drewN 1
      have hb1 := below_drewN hb 1
      have hseed1 : (wr.drewN 1).cell? ⟨w.heap.size, 2, none⟩ = some (.int .u64 z) := hseed
      have hf21 : (wr.drewN 1).frozen? ⟨w.heap.size, 2, none⟩ = false := hf2
      have hS2 := Go.Lib.hid (hS1.set2 hxb.1 hxb.2)
      have hb2 := Go.Lib.hid (hb1.trans ((keepSet (wr.drewN 1) w.heap.size 2 (.int .u64 (IntKind.u64.wrap (IntKind.u64.wrap (IntKind.u64.wrap (z * 1099511628211) + IntKind.u64.wrap c) + 3)))).below (Nat.le_refl _) hb1.size))
      clear hseed hf2 hS1 hb1 hS hb hbyte hxb
      generalize wr.drewN 1 = wd at hseed1 hf21 hS2 hb2 ⊢
      generalize IntKind.u64.wrap (IntKind.u64.wrap (IntKind.u64.wrap (z * 1099511628211) + IntKind.u64.wrap c) + 3) = z2 at hS2 hb2 ⊢
      go_wp2_with fail
      go_roundw
      case rel => exact ⟨k + 1, by omega, by go_num, hS2.out, hb2.out⟩
      case measure => simp [intOf]; omega
    · obtain rfl : k = n := by omega
      go_wp2_with fail
      go_ret
      exact ⟨_, rfl, Nat.le_refl _, hS, hb⟩

theorem Dice.set1 {w : World} {g : Nat} {A : Option Addr} {n cap : Nat} {bs : List Int} (h : Dice w g A n cap bs) {k : Nat} (hk : k ≤ n) : Dice (w.setCell ⟨g, 1, none⟩ (.int .i64 k)) g A n cap bs := by
  obtain ⟨k0, _, hp⟩ := h.place
  obtain ⟨z, h0, h1, hq⟩ := h.seed
  have hk2 : Keep g (g + 1) w (w.setCell ⟨g, 1, none⟩ (.int .i64 k)) := keepSet _ _ _ _
  refine ⟨by simpa [World.setCell] using h.lt, ?_, ⟨k, hk, ?_⟩, ⟨z, h0, h1, ?_⟩, fun j => ?_, h.rd.keep hk2 (Nat.le_of_lt h.lt) (.inl (Nat.le_refl _)), h.small, h.many⟩
  · rw [World.cell?_setCell_other _ _ _ _ (by simp)]; exact h.code
  · exact World.cell?_setCell_same _ _ _ hp
  · rw [World.cell?_setCell_other _ _ _ _ (by simp)]; exact hq
  · rw [World.frozen?_setCell]; exact h.free j
/-- What below hands back: a number from 0 to m - 1. -/
def BelowEnd (w : World) (g : Nat) (m : Int) (e : Ending) (w' : World) : Prop :=
  ∃ r : Int, e = .returned (.int .i64 r) ∧ 0 ≤ r ∧ r < m ∧ Keep g (g + 1) w w'

set_option maxRecDepth 100000 in
theorem below (g : Nat) (A : Option Addr) (n cap : Nat) (bs : List Int) (m : Int) (w : World) (h : Dice w g A n cap bs) (hm : 1 ≤ m) :
    Calls Try.prog 41 #[.pointer (some ⟨g, 0, none⟩), .int .i64 m] w (BelowEnd w g m) := by
  obtain ⟨z, hz0, hz1, hseed⟩ := h.seed
  have hf2 := h.free 2
  go_enter Try.func41, Try.ntmps41
  go_wp2_with fail
  obtain ⟨zb0, zb1⟩ := u64_bd (IntKind.u64.wrap (z * 6364136223846793005) + 1442695040888963407)
  have hS := h.set2 zb0 zb1
  have hK : Keep g (g + 1) w (w.setCell ⟨g, 2, none⟩ (.int .u64 (IntKind.u64.wrap (IntKind.u64.wrap (z * 6364136223846793005) + 1442695040888963407)))) := keepSet _ _ _ _
  clear hseed hf2
  generalize w.setCell ⟨g, 2, none⟩ (.int .u64 (IntKind.u64.wrap (IntKind.u64.wrap (z * 6364136223846793005) + 1442695040888963407))) = w2 at hS hK ⊢
  generalize IntKind.u64.wrap (IntKind.u64.wrap (z * 6364136223846793005) + 1442695040888963407) = z2 at zb0 zb1 ⊢
  have eb : wrap64 (bits BinOp.and IntKind.u64 (z2 / 8589934592) 16777215) = z2 / 8589934592 % 16777216 := by
    rw [and24 _ (by omega) (by omega)]
    exact IntWalk.wrap64_in _ (by omega)
  rw [eb]
  clear eb
  have x0' : 0 ≤ z2 / 8589934592 % 16777216 := by omega
  have x1' : z2 / 8589934592 % 16777216 < 16777216 := by omega
  generalize z2 / 8589934592 % 16777216 = x0 at x0' x1' ⊢
  obtain ⟨k, hk, hp⟩ := hS.place
  have hcode := hS.code
  have hmany := hS.many
  by_cases hkn : k < n
  · obtain ⟨b, o, rfl, hlo, hlt, hcs⟩ := hS.rd.at_ hkn
    have hbl : bs.length = n := by have := hS.rd.len; rwa [byts_len] at this
    have hbyte : w2.cell? ⟨b, o + k, none⟩ = some (.int .u8 (bs.getD k 0)) := hcs k _ (byts_at bs k (by omega))
    have hsm : 0 ≤ bs.getD k 0 ∧ bs.getD k 0 ≤ 255 := hS.small _ (by
      have : k < bs.length := by omega
      simp [List.getD, this])
    generalize bs.getD k 0 = c at hbyte hsm
    obtain ⟨hc0, hc1⟩ := hsm
    have hf1 := hS.free 1
    have hK1 : ∀ q, Keep g (g + 1) w ((w2.drewN q).setCell ⟨g, 1, none⟩ (.int .i64 ((k : Int) + 1))) := fun q => (hK.drewN q).trans (keepSet _ _ _ _)
    have HK1 := Go.Lib.hid hK1
    clear hcs hK1
    go_quiet (fail)
    go_wp2_with fail
    go_quiet (fail)
    go_wp2_with fail
    go_ret
    exact ⟨(x0 + c) % m, rfl, Int.emod_nonneg _ (by omega), Int.emod_lt_of_pos _ (by omega), HK1.out _⟩
  · go_quiet (fail)
    go_wp2_with fail
    go_ret
    exact ⟨x0 % m, rfl, Int.emod_nonneg _ (by omega), Int.emod_lt_of_pos _ (by omega), hK.drewN _⟩
end Go.Proofs.Ytpcaakmcjdginaa
