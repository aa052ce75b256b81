/- Contracts of IntervalText in both programs. -/
import Derived.Test.YtcknknicknolaabDoorListText
import Derived.Test.YtcknknicknolaabDoorTab
import Derived.Test.YtcknknicknolaabDoorHeld1
namespace Go.Proofs.YtcknknicknolaabDoor
open Go.RowKit

/-- The text of an interval. -/
def ivL (a b : Int) : List UInt8 := if a = b then Go.Lib.itoa a else Go.Lib.itoa a ++ 46 :: 46 :: Go.Lib.itoa b
theorem ivL_one (a : Int) : ivL a a = Go.Lib.itoa a := by unfold ivL; rw [if_pos rfl]
theorem ivL_two {a b : Int} (h : ¬ a = b) : ivL a b = Go.Lib.itoa a ++ 46 :: 46 :: Go.Lib.itoa b := by unfold ivL; rw [if_neg h]

theorem implText (a b : Int) (w : World) (ht : Tab w) (h1 : -1000000000 ≤ a) (h2 : a ≤ 1000000000) (h3 : -1000000000 ≤ b) (h4 : b ≤ 1000000000) :
    Calls Tryd.prog 53 #[ivV a b] w (NewStr w (ivL a b)) := by
  have HF := Go.Lib.hid (fun z w0 (h : Tab w0) => formatAny z w0 h)
  have hal := (Below.refl w.heap.size w).alloc (Nat.le_refl _) (.cells #[.int .i64 a, .int .i64 b] 31)
  have HT := Go.Lib.hid (ht.below hal)
  by_cases hab : a = b
  · subst hab
    rw [ivL_one]
    go_enter Tryd.func53, Tryd.ntmps53
    go_wp2_with fail
    refine (HF.out a _ HT.out (by omega) (by omega)).mono ?_
    rintro e w1 ⟨rfl, b1⟩
    obtain ⟨hc1, hf1⟩ := bcell2 b1
    have B1 := up (a := w) (by go_grown) b1
    go_wp2_with fail
    go_ret
    exact ⟨rfl, B1⟩
  · have hne : (a == b) = false := by simpa using hab
    have la := itoa_len a (by omega) (by omega)
    have lb := itoa_len b (by omega) (by omega)
    have k1 := add_str (Go.Lib.itoa a) [46, 46] (by simp; omega)
    have k2 := add_str (Go.Lib.itoa a ++ [46, 46]) (Go.Lib.itoa b) (by simp; omega)
    rw [ivL_two hab]
    clear hab
    go_enter Tryd.func53, Tryd.ntmps53
    go_wp2_with fail
    refine (HF.out a _ HT.out (by omega) (by omega)).mono ?_
    rintro e w1 ⟨rfl, b1⟩
    obtain ⟨hc1, hf1⟩ := bcell2 b1
    have B1 := up (a := w) (by go_grown) b1
    have HT1 := Go.Lib.hid (HT.out.below b1)
    go_wp2_with fail
    refine (HF.out b _ HT1.out (by omega) (by omega)).mono ?_
    rintro e w2 ⟨rfl, b2⟩
    have B2 := up B1 b2
    go_wp2_with fail
    go_ret
    exact ⟨rfl, B2⟩

theorem specIvTextL (a b : Int) (w : World) (h1 : -1000000000 ≤ a) (h2 : a ≤ 1000000000) (h3 : -1000000000 ≤ b) (h4 : b ≤ 1000000000) :
    Calls Tryd.prog 55 #[ivV a b] w (NewStr w (ivL a b)) := by
  have HN := Go.Lib.hid (fun z w0 h h' => specNumber z w0 h h')
  by_cases hab : a = b
  · subst hab
    rw [ivL_one]
    go_enter Tryd.func55, Tryd.ntmps55
    go_wp2_with fail
    refine (HN.out a _ (by omega) (by omega)).mono ?_
    rintro e w1 ⟨rfl, b1⟩
    have B1 := up (a := w) (by go_grown) b1
    go_wp2_with fail
    go_ret
    exact ⟨rfl, B1⟩
  · have hne : (a == b) = false := by simpa using hab
    have la := itoa_len a (by omega) (by omega)
    have lb := itoa_len b (by omega) (by omega)
    have k1 := add_str (Go.Lib.itoa a) [46, 46] (by simp; omega)
    have k2 := add_str (Go.Lib.itoa a ++ [46, 46]) (Go.Lib.itoa b) (by simp; omega)
    rw [ivL_two hab]
    clear hab
    go_enter Tryd.func55, Tryd.ntmps55
    go_wp2_with fail
    have h00 : (w.alloc (.cells #[.int .i64 a, .int .i64 b] 31)).cell? ⟨w.heap.size, 0, none⟩ = some (.int .i64 a) := by simp [go_sem]
    have h01 : (w.alloc (.cells #[.int .i64 a, .int .i64 b] 31)).cell? ⟨w.heap.size, 1, none⟩ = some (.int .i64 b) := by simp [go_sem]
    have B0 : Below w.heap.size w (w.alloc (.cells #[.int .i64 a, .int .i64 b] 31)) := by go_grown
    have z0 : w.heap.size < (w.alloc (.cells #[.int .i64 a, .int .i64 b] 31)).heap.size := by simp
    generalize w.alloc (.cells #[.int .i64 a, .int .i64 b] 31) = w0 at h00 h01 B0 z0 ⊢
    go_region_held3 (fun w' => w'.cell? ⟨w.heap.size, 0, none⟩ = some (.int .i64 a) ∧ w'.cell? ⟨w.heap.size, 1, none⟩ = some (.int .i64 b) ∧ w.heap.size < w'.heap.size ∧ Below w0.heap.size w0 w')
      (first | exact ⟨h00, h01, z0, Below.refl _ _⟩ | exact ⟨h00, h01, z0, (Below.refl _ _).drew⟩ | exact keep2 (by assumption) (by assumption) | exact keep2 (by assumption) ⟨h00, h01, z0, (Below.refl _ _).drew⟩ | exact keep2 (by assumption) ⟨h00, h01, z0, Below.refl _ _⟩ | go_keep)
      (first | (go_at_call 77; refine (HN.out _ _ (by omega) (by omega)).mono ?_; rintro e w1 ⟨rfl, b1⟩))
    all_goals go_wp2_with fail
    all_goals go_ret
    all_goals exact ⟨rfl, by obtain ⟨-, -, -, hb⟩ := ‹_ ∧ _ ∧ _ ∧ Below w0.heap.size w0 _›; exact up B0 hb⟩

/-- What IntervalText hands back in both programs. -/
def IvTEnd (w : World) (a b : Int) (e : Ending) (w' : World) : Prop :=
  Below w.heap.size w w' ∧ e = .returned (.tuple (if vldB a b then #[.string ⟨(ivL a b).toArray⟩, .int .i64 0] else #[.string ⟨#[]⟩, .int .i64 1]))
theorem implIvText (a b : Int) (w : World) (ht : Tab w) : Calls Tryd.prog 17 #[ivV a b] w (IvTEnd w a b) := by
  have kv := isValid a b
  have hal := (Below.refl w.heap.size w).alloc (Nat.le_refl _) (.cells #[.int .i64 a, .int .i64 b] 31)
  have HT := Go.Lib.hid (ht.below hal)
  unfold IvTEnd
  cases hv : vldB a b
  · rw [hv] at kv
    have K := Go.Lib.hid kv
    clear kv hv hal
    go_enter Tryd.func17, Tryd.ntmps17
    go_wp2_with fail
    refine (K.out _).mono ?_
    rintro e w1 ⟨rfl, b1⟩
    have B1 := up (a := w) (by go_grown) b1
    go_wp2_with fail
    go_ret2
    exact ⟨B1, rfl⟩
  · obtain ⟨h1, h2, h3⟩ := vldB_of hv
    rw [hv] at kv
    have K := Go.Lib.hid kv
    have HI := Go.Lib.hid (fun w0 h => implText a b w0 h h1 (by omega) (by omega) h3)
    clear kv hv hal
    go_enter Tryd.func17, Tryd.ntmps17
    go_wp2_with fail
    refine (K.out _).mono ?_
    rintro e w1 ⟨rfl, b1⟩
    have B1 := up (a := w) (by go_grown) b1
    obtain ⟨hc1, hf1⟩ := bcell2 b1
    have HT1 := Go.Lib.hid (HT.out.below b1)
    go_wp2_with fail
    refine (HI.out _ HT1.out).mono ?_
    rintro e w2 ⟨rfl, b2⟩
    have B2 := up B1 b2
    go_wp2_with fail
    go_ret2
    exact ⟨B2, rfl⟩
theorem specIvText (a b : Int) (w : World) : Calls Tryd.prog 18 #[ivV a b] w (IvTEnd w a b) := by
  have kv := specIsInterval a b
  unfold IvTEnd
  cases hv : vldB a b
  · rw [hv] at kv
    have K := Go.Lib.hid kv
    clear kv hv
    go_enter Tryd.func18, Tryd.ntmps18
    go_wp2_with fail
    refine (K.out _).mono ?_
    rintro e w1 ⟨rfl, b1⟩
    have B1 := up (a := w) (by go_grown) b1
    go_wp2_with fail
    go_ret2
    exact ⟨B1, rfl⟩
  · obtain ⟨h1, h2, h3⟩ := vldB_of hv
    rw [hv] at kv
    have K := Go.Lib.hid kv
    have HI := Go.Lib.hid (fun w0 => specIvTextL a b w0 h1 (by omega) (by omega) h3)
    clear kv hv
    go_enter Tryd.func18, Tryd.ntmps18
    go_wp2_with fail
    refine (K.out _).mono ?_
    rintro e w1 ⟨rfl, b1⟩
    have B1 := up (a := w) (by go_grown) b1
    obtain ⟨hc1, hf1⟩ := bcell2 b1
    go_wp2_with fail
    refine (HI.out _).mono ?_
    rintro e w2 ⟨rfl, b2⟩
    have B2 := up B1 b2
    go_wp2_with fail
    go_ret2
    exact ⟨B2, rfl⟩
end Go.Proofs.YtcknknicknolaabDoor
