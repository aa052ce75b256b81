/- Contracts of isValue, checkList, l01Is and l01Values: both programs check a list of numbers alike. -/
import Derived.Test.YtcphhcnomaociabDoorProg
import Derived.Test.YtcphhcnomaociabDoorMem
import Derived.Test.YtcphhcnomaociabDoorWord
import Derived.WalkKit
import Derived.WalkLawsBesides
import Derived.WalkSpells
import Derived.Outline
import Derived.Deep.QuietTactic
import Derived.BigQuiet
import Derived.Deep.LoopGhost
namespace Go.Proofs.YtcphhcnomaociabDoor
open Go.RowKit

def okVal (n : Int) : Bool := decide (-1000000000000 ≤ n) && decide (n ≤ 1000000000000)
def codeB (zs : List Int) : Int := if zs.all okVal then (if 60 < zs.length then 3 else 0) else 2
def OkTo (zs : List Int) (k : Nat) : Prop := ∀ j, j < k → okVal (zs.getD j 0) = true
theorem OkTo.succ {zs : List Int} {k : Nat} (h : OkTo zs k) (e : okVal (zs.getD k 0) = true) : OkTo zs (k + 1) := by
  intro j hj
  by_cases hk : j = k
  · subst hk; exact e
  · exact h j (by omega)
theorem OkTo.all {zs : List Int} (h : OkTo zs zs.length) : zs.all okVal = true := by
  rw [List.all_eq_true]
  intro x hx
  obtain ⟨j, hj, rfl⟩ := List.mem_iff_getElem.1 hx
  have := h j hj
  simpa [hj] using this
theorem codeB_bad {zs : List Int} {k : Nat} (hk : k < zs.length) (h : okVal (zs.getD k 0) = false) : codeB zs = 2 := by
  unfold codeB
  rw [if_neg]
  intro ha
  have := List.all_eq_true.1 ha (zs.getD k 0) (by simp [hk])
  rw [h] at this
  cases this
theorem codeB_long {zs : List Int} (h : OkTo zs zs.length) (hl : 60 < zs.length) : codeB zs = 3 := by
  unfold codeB
  rw [if_pos h.all, if_pos hl]
theorem codeB_ok {zs : List Int} (h : OkTo zs zs.length) (hl : ¬ 60 < zs.length) : codeB zs = 0 := by
  unfold codeB
  rw [if_pos h.all, if_neg hl]
theorem codeB_zero {zs : List Int} (h : codeB zs = 0) : zs.length ≤ 60 ∧ zs.all okVal = true := by
  unfold codeB at h
  by_cases a : zs.all okVal = true
  · rw [if_pos a] at h
    by_cases b : 60 < zs.length
    · rw [if_pos b] at h; omega
    · exact ⟨by omega, a⟩
  · rw [if_neg a] at h; omega

theorem isValue (n : Int) (w : World) :
    Calls Tryd.prog 37 #[.int .i64 n] w fun e w' => e = .returned (.bool (okVal n)) ∧ w = w' := by
  by_cases h1 : -1000000000000 ≤ n
  · go_enter Tryd.func37, Tryd.ntmps37
    go_wp2
    go_ret
    exact ⟨ret_bool (by simp [okVal, h1]), rfl⟩
  · go_enter Tryd.func37, Tryd.ntmps37
    go_wp2
    go_ret
    exact ⟨ret_bool (by simp [okVal]; intro; omega), rfl⟩

theorem specIs (n : Int) (w : World) :
    Calls Tryd.prog 49 #[.int .i64 n] w fun e w' => e = .returned (.bool (okVal n)) ∧ w = w' := by
  go_enter Tryd.func49, Tryd.ntmps49
  go_wp2_with (go_at_call 42; refine (in_any _ _ _ _).mono ?_; rintro e w' ⟨rfl, rfl⟩)
  go_ret
  exact ⟨rfl, rfl⟩


end Go.Proofs.YtcphhcnomaociabDoor
