/- The source over a code. -/
import Derived.Test.YthedanpldebjcaaMgWays6
import Derived.StillTailTactics
namespace Go.Proofs.Ythedanpldebjcaa
open Go.RowKit

/-- What l01From hands back. -/
def FromEnd (w : World) (A : Option Addr) (n cap : Nat) (bs : List Int) (e : Ending) (w' : World) : Prop :=
  ∃ g, e = .returned (.pointer (some ⟨g, 0, none⟩)) ∧ w.heap.size ≤ g ∧ Src w' g A n cap bs ∧ Below w.heap.size w w'

/-- The source as it is made. -/
theorem Src.start {w : World} {A : Option Addr} {n cap : Nat} {bs : List Int} {t : TypeId} (h : Rd w 0 w.heap.size A n (byts bs)) (hs : ∀ z ∈ bs, 0 ≤ z ∧ z ≤ 255) (hn : n ≤ 140737488355328) :
    Src (w.alloc (.cells #[.slice A n cap, .int .i64 0, .int .i64 61043] t)) w.heap.size A n cap bs := by
  have hh := heap_alloc_new w (.cells #[.slice A n cap, .int .i64 0, .int .i64 61043] t)
  have hc : ∀ j, (w.alloc (.cells #[.slice A n cap, .int .i64 0, .int .i64 61043] t)).cell? ⟨w.heap.size, j, none⟩ = (#[.slice A n cap, .int .i64 0, .int .i64 61043] : Array Value)[j]? := fun j => by
    simp only [World.cell?, hh, Option.isSome_none, Bool.false_eq_true, if_false]
  have hf : ∀ j, (w.alloc (.cells #[.slice A n cap, .int .i64 0, .int .i64 61043] t)).frozen? ⟨w.heap.size, j, none⟩ = false := fun j => by
    simp only [World.frozen?, hh]
    simp
  refine ⟨by simp, hc 0, ⟨0, Nat.zero_le _, hc 1⟩, ⟨61043, by omega, by omega, hc 2⟩, hf, ?_, hs, hn⟩
  exact h.below (B := w.heap.size) ((Below.refl _ _).alloc (Nat.le_refl _) _) (Nat.le_refl _)

set_option maxRecDepth 100000 in
theorem from_ (A : Option Addr) (n cap : Nat) (bs : List Int) (w : World) (h : Rd w 0 w.heap.size A n (byts bs)) (hs : ∀ z ∈ bs, 0 ≤ z ∧ z ≤ 255) (hn : n ≤ 140737488355328) :
    Calls Try.prog 50 #[.slice A n cap] w (FromEnd w A n cap bs) := by
  go_enter Try.func50, Try.ntmps50
  go_wp2_with fail
  have start := Src.start (cap := cap) (t := 104) h hs hn
  have hb := (Below.refl w.heap.size w).alloc (Nat.le_refl _) (.cells #[.slice A n cap, .int .i64 0, .int .i64 61043] 104)
  have START := Go.Lib.hid (And.intro start hb)
  clear start hb
  generalize w.alloc (.cells #[.slice A n cap, .int .i64 0, .int .i64 61043] 104) = w0 at START ⊢
  go_loopw [4] (fun i wr => ∃ k : Nat, k ≤ n ∧ k ≤ 64 ∧ i = .int .i64 k ∧ Src wr w.heap.size A n cap bs ∧ Below w.heap.size w wr) (fun i _ => n - (intOf i).toNat)
  case atStart => exact ⟨0, Nat.zero_le _, Nat.zero_le _, rfl, START.out.1, START.out.2⟩
  case round =>
    obtain ⟨k, hk, hk64, rfl, hS, hb⟩ := hrel
    clear START
    by_cases hkn : k < n
    · by_cases h64 : k < 64
      · obtain ⟨z, hz0, hz1, hseed⟩ := hS.seed
        have hcode := hS.code
        have hf2 := hS.free 2
        obtain ⟨b, o, rfl, hlo, hlt, hcs⟩ := hS.rd.at_ hkn
        have hbl : bs.length = n := by have := hS.rd.len; rwa [byts_len] at this
        have hbyte := hcs k _ (byts_at bs k (by omega))
        have hsm : 0 ≤ bs.getD k 0 ∧ bs.getD k 0 ≤ 255 := hS.small _ (by
          have : k < bs.length := by omega
          simp [List.getD, this])
        generalize bs.getD k 0 = c at hbyte hsm
        obtain ⟨hc0, hc1⟩ := hsm
        clear hcs
        go_wp2_with fail
        go_still_tail 15, (by kernel_rfl)
        have e1 : IntKind.i64.wrap (z * 83) = z * 83 := by rw [IntKind.wrap_i64]; omega
        have e2 : IntKind.i64.wrap c = c := by rw [IntKind.wrap_i64]; omega
        have e3 : IntKind.i64.wrap (z * 83 + c) = z * 83 + c := by rw [IntKind.wrap_i64]; omega
        have e4 : (z * 83 + c).tmod 2147483647 = (z * 83 + c) % 2147483647 := Int.tmod_eq_emod_of_nonneg (by omega)
        rw [e1, e2, e3, e4]
        change wpList _ _ _ _ _ (wr.drewN 1)
        have z0' : 0 ≤ (z * 83 + c) % 2147483647 := Int.emod_nonneg _ (by omega)
        have z1' : (z * 83 + c) % 2147483647 < 2147483647 := Int.emod_lt_of_pos _ (by omega)
        have hS1 := hS.drewN 1
        have hb1 := below_drewN hb 1
        have hseed1 : (wr.drewN 1).cell? ⟨w.heap.size, 2, none⟩ = some (.int .i64 z) := hseed
        have hf21 : (wr.drewN 1).frozen? ⟨w.heap.size, 2, none⟩ = false := hf2
        have hS2 := Go.Lib.hid (hS1.set2 z0' z1')
        have hb2 := Go.Lib.hid (hb1.trans ((keepSet (wr.drewN 1) w.heap.size 2 (.int .i64 ((z * 83 + c) % 2147483647))).below (Nat.le_refl _) hb1.size))
        clear hseed hf2 hS1 hb1 hS hb hcode hbyte e1 e2 e3 e4
        generalize wr.drewN 1 = wd at hseed1 hf21 hS2 hb2 ⊢
        generalize (z * 83 + c) % 2147483647 = z2 at hS2 hb2 z0' z1' ⊢
        go_wp2_with fail
        go_roundw
        case rel => exact ⟨k + 1, by omega, by omega, by go_num, hS2.out, hb2.out⟩
        case measure => simp [intOf]; omega
      · obtain rfl : k = 64 := by omega
        go_wp2_with fail
        go_ret
        exact ⟨_, rfl, Nat.le_refl _, hS, hb⟩
    · obtain rfl : k = n := by omega
      go_wp2_with fail
      go_ret
      exact ⟨_, rfl, Nat.le_refl _, hS, hb⟩
end Go.Proofs.Ythedanpldebjcaa
