/- toInt64S with an array of its own, and the length of the sorted list. -/
import Derived.Test.YtgdibahflhlakaaSort2
namespace Go.Proofs.Ytgdibahflhlakaa
open Go.RowKit

theorem sortR_len (zs : List Int) : (sortR zs).length ≤ zs.length := by
  unfold sortR
  split
  · rw [List.length_mergeSort]; exact Nat.le_refl _
  · simp

/-- A new list in an array of its own, never nil. -/
def NewIntsS (w : World) (zs : List Int) (e : Ending) (w' : World) : Prop :=
  ∃ g cap, e = .returned (.slice (some ⟨g, 0, none⟩) zs.length cap) ∧ Ow w' w.heap.size w'.heap.size 2 (some ⟨g, 0, none⟩) zs.length cap (ints zs) ∧ Below w.heap.size w w'
theorem AsTo.doneS {w wr : World} {g n : Nat} {zs : List Int} (h : AsTo w g n zs n wr) (hn : zs.length = n) : NewIntsS w zs (.returned (.slice (some ⟨g, 0, none⟩) n n)) wr := by
  obtain ⟨xs, ho, hx, hb⟩ := h
  have hl := ho.len
  subst hn
  have : xs = ints zs := ext_of (by rw [hl, ints_len]) (fun j hj => hx j (by omega))
  subst this
  exact ⟨_, _, rfl, ho, hb⟩

theorem toIntsS (A : Option Addr) (n cap : Nat) (zs : List Int) (lo : Nat) (w : World) (h : Rd w lo w.heap.size A n (ints zs)) (hn : n * 8 ≤ 140737488355328) :
    Calls Try.prog 22 #[.slice A n cap] w (NewIntsS w zs) := by
  have hz : zs.length = n := by have := h.len; rwa [ints_len] at this
  have hn' : n ≤ 140737488355328 := by omega
  obtain ⟨i0, hi, hz0, hz1, hz2⟩ := info_parts infoInt
  have HZ := Go.Lib.hid hz
  clear hz
  go_enter Try.func22, Try.ntmps22
  go_wp2_with (at_make; refine wpList_make_full _ rfl _ _ 24 rfl w.heap.size 2 i0 (.int .i64 0) 1 Try.underlying24 hi hz0 hz1 .i64 .i64 _ _ n rfl rfl rfl rfl (by rw [hz2]; omega) (by unfold maxLen; omega) (Nat.le_refl _) ?_; intro w1 hown hg)
  have h0 : AsTo w w.heap.size n zs 0 w1 := by
    have hs : w.heap.size < w1.heap.size := (hown.lt w.heap.size rfl).2
    exact ⟨_, ⟨hown, fun g hg' => by rw [← show w.heap.size = g by simpa [Value.ownBlock] using hg']; exact hs⟩, fun j hj => absurd hj (by omega), (Below.refl _ _).grown hg (Nat.le_refl _) (by simp)⟩
  clear hown hg hz0 hz1 hz2
  go_loopw [4] (fun i wr => ∃ k : Nat, k ≤ n ∧ i = .int .i64 k ∧ AsTo w w.heap.size n zs k wr) (fun i _ => n - (intOf i).toNat)
  case atStart => exact ⟨0, Nat.zero_le _, rfl, h0⟩
  case round =>
    obtain ⟨k, hk, rfl, hk2⟩ := hrel
    clear h0
    by_cases hlt : k < n
    · obtain ⟨b, off, rfl, p, q, hc⟩ := h.at_ hlt
      have hst := hk2.step HZ.out hlt
      obtain ⟨xs, ho, hx, hb⟩ := hk2
      have hcell : wr.cell? ⟨b, off + k, none⟩ = some (.int .i64 (zs.getD k 0)) := (hb.cell (p := ⟨b, off + k, none⟩) q).trans (hc k _ (ints_at zs k (by have := HZ.out; omega)))
      have hfree := ho.free k
      have hxl := ho.len
      obtain ⟨u, hu⟩ : ∃ u, wr.cell? ⟨w.heap.size, k, none⟩ = some u := ⟨xs[k]'(by omega), (ho.cell hlt).trans (List.getElem?_eq_getElem (by omega))⟩
      clear ho hx hb hc h hxl
      go_wp2
      go_roundw
      case rel => exact ⟨k + 1, by omega, by go_num, hst⟩
      case measure => simp [intOf]; omega
    · obtain rfl : k = n := by omega
      go_wp2
      go_ret
      exact hk2.doneS HZ.out
end Go.Proofs.Ytgdibahflhlakaa
