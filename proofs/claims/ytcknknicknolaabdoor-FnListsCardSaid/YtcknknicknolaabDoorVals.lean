/- Contracts of isValue, checkList, l01Is and l01Values: both programs check a list of numbers alike. -/
import Derived.Test.YtcknknicknolaabDoorProg
import Derived.Test.YtcknknicknolaabDoorMem
import Derived.Test.YtcknknicknolaabDoorWord
import Derived.WalkKit
import Derived.WalkLawsBesides
import Derived.WalkSpells
import Derived.Outline
import Derived.Deep.QuietTactic
import Derived.BigQuiet
import Derived.Deep.LoopGhost
namespace Go.Proofs.YtcknknicknolaabDoor
open Go.RowKit

def okVal (n : Int) : Bool := decide (-1000000000000 ≤ n) && decide (n ≤ 1000000000000)
def codeB (zs : List Int) : Int := if zs.all okVal then (if 60 < zs.length then 3 else 0) else 2
def OkTo (zs : List Int) (k : Nat) : Prop := ∀ j, j < k → okVal (zs.getD j 0) = true
theorem OkTo.succ {zs : List Int} {k : Nat} (h : OkTo zs k) (e : okVal (zs.getD k 0) = true) : OkTo zs (k + 1) := by
  intro j hj
  by_cases hk : j = k
  · subst hk; exact e
  · exact h j (by omega)
theorem OkTo.all {zs : List Int} (h : OkTo zs zs.length) : zs.all okVal = true := by
  rw [List.all_eq_true]
  intro x hx
  obtain ⟨j, hj, rfl⟩ := List.mem_iff_getElem.1 hx
  have := h j hj
  simpa [hj] using this
theorem codeB_bad {zs : List Int} {k : Nat} (hk : k < zs.length) (h : okVal (zs.getD k 0) = false) : codeB zs = 2 := by
  unfold codeB
  rw [if_neg]
  intro ha
  have := List.all_eq_true.1 ha (zs.getD k 0) (by simp [hk])
  rw [h] at this
  cases this
theorem codeB_long {zs : List Int} (h : OkTo zs zs.length) (hl : 60 < zs.length) : codeB zs = 3 := by
  unfold codeB
  rw [if_pos h.all, if_pos hl]
theorem codeB_ok {zs : List Int} (h : OkTo zs zs.length) (hl : ¬ 60 < zs.length) : codeB zs = 0 := by
  unfold codeB
  rw [if_pos h.all, if_neg hl]
theorem codeB_zero {zs : List Int} (h : codeB zs = 0) : zs.length ≤ 60 ∧ zs.all okVal = true := by
  unfold codeB at h
  by_cases a : zs.all okVal = true
  · rw [if_pos a] at h
    by_cases b : 60 < zs.length
    · rw [if_pos b] at h; omega
    · exact ⟨by omega, a⟩
  · rw [if_neg a] at h; omega

theorem isValue (n : Int) (w : World) :
    Calls Tryd.prog 43 #[.int .i64 n] w fun e w' => e = .returned (.bool (okVal n)) ∧ w = w' := by
  by_cases h1 : -1000000000000 ≤ n
  · go_enter Tryd.func43, Tryd.ntmps43
    go_wp2
    go_ret
    exact ⟨ret_bool (by simp [okVal, h1]), rfl⟩
  · go_enter Tryd.func43, Tryd.ntmps43
    go_wp2
    go_ret
    exact ⟨ret_bool (by simp [okVal]; intro; omega), rfl⟩

theorem specIs (n : Int) (w : World) :
    Calls Tryd.prog 45 #[.int .i64 n] w fun e w' => e = .returned (.bool (okVal n)) ∧ w = w' := by
  go_enter Tryd.func45, Tryd.ntmps45
  go_wp2_with (go_at_call 72; refine (in_any _ _ _ _).mono ?_; rintro e w' ⟨rfl, rfl⟩)
  go_ret
  exact ⟨rfl, rfl⟩

theorem checkList (A : Option Addr) (n cap : Nat) (zs : List Int) (lo hi : Nat) (w : World) (h : Rd w lo hi A n (ints zs)) (hn : n * 8 ≤ 140737488355328) :
    Calls Tryd.prog 61 #[.slice A n cap] w fun e w' => e = .returned (.int .i64 (codeB zs)) ∧ w = w' := by
  have hz : zs.length = n := by have := h.len; rwa [ints_len] at this
  have hn' : n ≤ 140737488355328 := by omega
  have HZ := Go.Lib.hid hz
  clear hz
  go_enter Tryd.func61, Tryd.ntmps61
  go_wp2
  go_loop [7] (fun i => ∃ k : Nat, k ≤ n ∧ i = .int .i64 k ∧ OkTo zs k) (fun i => n - (intOf i).toNat)
  case atStart => exact ⟨0, Nat.zero_le _, rfl, fun j h => absurd h (by omega)⟩
  case round =>
    obtain ⟨k, hk, rfl, hok⟩ := hrel
    by_cases hlt : k < n
    · obtain ⟨b, o, rfl, p, q, c⟩ := h.at_ hlt
      have hcell : w.cell? ⟨b, o + k, none⟩ = some (.int .i64 (zs.getD k 0)) := c k _ (ints_at zs k (by have := HZ.out; omega))
      clear c h
      obtain ⟨x, hx⟩ : ∃ x, x = zs.getD k 0 := ⟨_, rfl⟩
      rw [← hx] at hcell
      have HX := Go.Lib.hid hx
      clear hx
      cases hb : okVal x
      · go_wp2_with (go_at_call 43; refine (isValue _ _).mono ?_; rintro e w' ⟨rfl, rfl⟩)
        go_ret
        exact ⟨ret_int (codeB_bad (k := k) (by have := HZ.out; omega) (by rw [← HX.out]; exact hb)).symm, rfl⟩
      · go_wp2_with (go_at_call 43; refine (isValue _ _).mono ?_; rintro e w' ⟨rfl, rfl⟩)
        go_round
        case rel => exact ⟨k + 1, by omega, by go_num, hok.succ (by rw [← HX.out]; exact hb)⟩
        case measure => simp [intOf]; omega
    · obtain rfl : k = n := by omega
      by_cases h60 : 60 < k
      · go_wp2
        go_ret
        exact ⟨ret_int (codeB_long (by rw [HZ.out]; exact hok) (by rw [HZ.out]; exact h60)).symm, rfl⟩
      · go_wp2
        go_ret
        exact ⟨ret_int (codeB_ok (by rw [HZ.out]; exact hok) (by rw [HZ.out]; exact h60)).symm, rfl⟩

theorem specValues (A : Option Addr) (n cap : Nat) (zs : List Int) (lo hi : Nat) (w : World) (h : Rd w lo hi A n (ints zs)) (hn : n * 8 ≤ 140737488355328) :
    Calls Tryd.prog 63 #[.slice A n cap] w fun e w' => e = .returned (.int .i64 (codeB zs)) ∧ w = w' := by
  have hz : zs.length = n := by have := h.len; rwa [ints_len] at this
  have hn' : n ≤ 140737488355328 := by omega
  have HZ := Go.Lib.hid hz
  clear hz
  go_enter Tryd.func63, Tryd.ntmps63
  go_wp2
  go_loop [3] (fun i => ∃ k : Nat, k ≤ n ∧ i = .int .i64 k ∧ OkTo zs k) (fun i => n - (intOf i).toNat)
  case atStart => exact ⟨0, Nat.zero_le _, rfl, fun j h => absurd h (by omega)⟩
  case round =>
    obtain ⟨k, hk, rfl, hok⟩ := hrel
    by_cases hlt : k < n
    · obtain ⟨b, o, rfl, p, q, c⟩ := h.at_ hlt
      have hcell : w.cell? ⟨b, o + k, none⟩ = some (.int .i64 (zs.getD k 0)) := c k _ (ints_at zs k (by have := HZ.out; omega))
      clear c h
      obtain ⟨x, hx⟩ : ∃ x, x = zs.getD k 0 := ⟨_, rfl⟩
      rw [← hx] at hcell
      have HX := Go.Lib.hid hx
      clear hx
      cases hb : okVal x
      · go_wp2_with (go_at_call 45; refine (specIs _ _).mono ?_; rintro e w' ⟨rfl, rfl⟩)
        go_ret
        exact ⟨ret_int (codeB_bad (k := k) (by have := HZ.out; omega) (by rw [← HX.out]; exact hb)).symm, rfl⟩
      · go_wp2_with (go_at_call 45; refine (specIs _ _).mono ?_; rintro e w' ⟨rfl, rfl⟩)
        go_round
        case rel => exact ⟨k + 1, by omega, by go_num, hok.succ (by rw [← HX.out]; exact hb)⟩
        case measure => simp [intOf]; omega
    · obtain rfl : k = n := by omega
      by_cases h60 : 60 < k
      · go_wp2
        go_ret
        exact ⟨ret_int (codeB_long (by rw [HZ.out]; exact hok) (by rw [HZ.out]; exact h60)).symm, rfl⟩
      · go_wp2
        go_ret
        exact ⟨ret_int (codeB_ok (by rw [HZ.out]; exact hok) (by rw [HZ.out]; exact h60)).symm, rfl⟩
end Go.Proofs.YtcknknicknolaabDoor
