/- The contract of impl.readNumber, by itself. -/
import Derived.Test.YtcphhcnomaociabDoorValue
import Derived.Test.YtcphhcnomaociabDoorReadMeas
import Derived.Test.YtcphhcnomaociabDoorBas
import Derived.Test.YtcphhcnomaociabDoorShelfSplit
import Derived.Test.YtcphhcnomaociabDoorMax
import Derived.Deep.LoopGhost
namespace Go.Proofs.YtcphhcnomaociabDoor
open Go.RowKit

/-- The number that a text tells, if it is the numeral of one that ParseInt reads. -/
def numB (l : List UInt8) : Option Int :=
  match Go.Lib.parseIntB 64 l with
  | .ok v => if Go.Lib.itoa v == l then some v else none
  | _ => none
theorem numB_bad {l : List UInt8} (h : ∀ v, ¬ Go.Lib.parseIntB 64 l = .ok v) : numB l = none := by
  unfold numB
  cases hp : Go.Lib.parseIntB 64 l with
  | ok v => exact absurd hp (h v)
  | _ => rfl
theorem numB_ok {l : List UInt8} {v : Int} (h : Go.Lib.parseIntB 64 l = .ok v) : numB l = if Go.Lib.itoa v == l then some v else none := by
  unfold numB
  rw [h]
def NumEnd2 (w : World) (r : Option Int) (e : Ending) (w' : World) : Prop :=
  Below w.heap.size w w' ∧ e = .returned (.tuple (match r with | some v => #[.int .i64 v, .bool true] | none => #[.int .i64 0, .bool false]))

theorem parse_bd {l : List UInt8} {v : Int} (h : Go.Lib.parseIntB 64 l = .ok v) : -9223372036854775808 ≤ v ∧ v ≤ 9223372036854775807 := by
  unfold Go.Lib.parseIntB at h
  cases l with
  | nil => cases h
  | cons c r =>
    simp only at h
    split at h
    · cases h
    · cases h
    · rename_i u hu
      by_cases h1 : ¬ c.toNat = 45 ∧ 2 ^ (64 - 1) ≤ u
      · rw [if_pos h1] at h; cases h
      · rw [if_neg h1] at h
        by_cases h2 : c.toNat = 45 ∧ 2 ^ (64 - 1) < u
        · rw [if_pos h2] at h; cases h
        · rw [if_neg h2] at h
          injection h with h
          by_cases h3 : c.toNat = 45
          · rw [if_pos h3] at h
            have : ¬ 2 ^ (64 - 1) < u := fun x => h2 ⟨h3, x⟩
            simp at this
            omega
          · rw [if_neg h3] at h
            have : ¬ 2 ^ (64 - 1) ≤ u := fun x => h1 ⟨h3, x⟩
            simp at this
            omega
theorem formatFull (z : Int) (w : World) (ht : Tab w) (h0 : -9223372036854775808 ≤ z) (h1 : z ≤ 9223372036854775807) :
    Calls Tryd.prog 19 #[.int .i64 z, .int .i64 10] w (NewStr w (Go.Lib.itoa z)) :=
  (Tryd.strconv_FormatInt_10 z h0 h1 w ht).mono fun e w' ⟨he, k, os, hw⟩ => by
    subst hw; subst he
    exact ⟨rfl, below_grow⟩

theorem implReadNumber (s : ByteArray) (w : World) (hs : s.size ≤ 1048576) (ht : Tab w) (he : HasErrs w) :
    Calls Tryd.prog 28 #[.string s] w (NumEnd2 w (numB s.data.toList)) := by
  have hlist : s.toList = s.data.toList := ByteArray.toList_eq s
  by_cases hp : ∃ v, Go.Lib.parseIntB 64 s.data.toList = .ok v
  · obtain ⟨v, hp⟩ := hp
    obtain ⟨hb0, hb1⟩ := parse_bd hp
    have HR := Go.Lib.hid (numB_ok hp)
    have HP := Go.Lib.hid (parseOk s v w (by omega) hp)
    have HF := Go.Lib.hid (fun w0 (h : Tab w0) => formatFull v w0 h hb0 hb1)
    clear hp hb0 hb1
    cases hq : (Go.Lib.itoa v == s.data.toList)
    · have hq2 : (Go.Lib.itoa v == s.toList) = false := by rw [hlist]; exact hq
      have HQ := Go.Lib.hid hq
      clear hq hlist
      go_enter Tryd.func28, Tryd.ntmps28
      go_wp2_with fail
      refine HP.out.mono ?_
      rintro e w1 ⟨rfl, b1⟩
      go_wp2_with fail
      refine (HF.out w1 (ht.below b1)).mono ?_
      rintro e w2 ⟨rfl, b2⟩
      go_wp2_with fail
      go_ret2
      exact ⟨b1.trans (b2.mono b1.size), by rw [HR.out, HQ.out]; rfl⟩
    · have hq2 : (Go.Lib.itoa v == s.toList) = true := by rw [hlist]; exact hq
      have HQ := Go.Lib.hid hq
      clear hq hlist
      go_enter Tryd.func28, Tryd.ntmps28
      go_wp2_with fail
      refine HP.out.mono ?_
      rintro e w1 ⟨rfl, b1⟩
      go_wp2_with fail
      refine (HF.out w1 (ht.below b1)).mono ?_
      rintro e w2 ⟨rfl, b2⟩
      go_wp2_with fail
      go_ret2
      exact ⟨b1.trans (b2.mono b1.size), by rw [HR.out, HQ.out]; rfl⟩
  · have hp' : ∀ v, ¬ Go.Lib.parseIntB 64 s.data.toList = .ok v := fun v e => hp ⟨v, e⟩
    have HR := Go.Lib.hid (numB_bad hp')
    have HP := Go.Lib.hid (parseBad s w (by omega) he hp')
    clear hp hp' hlist
    go_enter Tryd.func28, Tryd.ntmps28
    go_wp2_with fail
    refine HP.out.mono ?_
    rintro e w1 ⟨⟨v, N, rfl⟩, b1⟩
    go_wp2_with fail
    go_ret2
    exact ⟨b1, by rw [HR.out]; rfl⟩

theorem numB_spec {l : List UInt8} {z : Int} (h : numB l = some z) : Go.Lib.itoa z = l := by
  unfold numB at h
  split at h
  · split at h
    · rename_i v hv hq
      injection h with h
      subst h
      exact beq_iff_eq.1 hq
    · cases h
  · cases h
theorem numB_itoa {z : Int} (h0 : -1000000000000000000 ≤ z) (h1 : z ≤ 1000000000000000000) : numB (Go.Lib.itoa z) = some z := by
  rw [numB_ok (parse_itoa z h0 h1)]
  simp
theorem newStrs_split {w : World} {X : List ByteArray} {N : Nat} (hX : X.length ≤ N) (hN : N ≤ maxLen) :
    NewStrs w X (.returned (.slice (some ⟨w.heap.size, 0, none⟩) X.length N)) (w.alloc (.cells (Go.Lib.cellsOf X N) 9)) := by
  refine ⟨_, N, rfl, ⟨⟨by rw [bas_len]; omega, .inr ⟨w.heap.size, N, Go.Lib.cellsOf X N, rfl, Nat.le_refl _, heap_alloc_new w _, hX, hN, by rw [Go.Lib.cellsOf_size hX]; omega, ?_⟩⟩, fun g hg => ?_⟩, (Below.refl _ _).alloc (Nat.le_refl _) _⟩
  · simp [Go.Lib.cellsOf, bas]
  · rw [← show w.heap.size = g by simpa [Value.ownBlock] using hg]
    simp

end Go.Proofs.YtcphhcnomaociabDoor
