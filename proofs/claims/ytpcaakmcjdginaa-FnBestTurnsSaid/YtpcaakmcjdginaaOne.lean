/- The model: turns of one spoke alone. -/
import Derived.Test.YtpcaakmcjdginaaTur
namespace Go.Proofs.Ytpcaakmcjdginaa
open Go.RowKit
set_option linter.unusedSimpArgs false
set_option linter.unusedVariables false

theorem made_zero {w1 : World} {base g n : Nat} (h : w1.ownsRow base 2 1 (.slice (some ⟨g, 0, none⟩) n n) n (madeCells (Value.int IntKind.i64 0).cells (n * 1)).toList) : Ow w1 base w1.heap.size 2 (some ⟨g, 0, none⟩) n n (ints (List.replicate n 0)) := by
  rw [Nat.mul_one, show (madeCells (Value.int IntKind.i64 0).cells n).toList = List.replicate n (.int .i64 0) from toList_madeCells_one _ _, ints_zeros] at h
  exact ⟨h, fun g' hg' => (h.lt g' hg').2⟩
set_option maxRecDepth 100000 in
set_option maxHeartbeats 4000000 in
theorem specOne (n p : Nat) (q : Int) (w : World) (hp : p < n) (hn : n ≤ 48) :
    Calls Try.prog 65 #[.int .i64 n, .int .i64 p, .int .i64 q] w fun e w' => ∃ g, e = .returned (.slice (some ⟨g, 0, none⟩) n n) ∧ Ow w' w.heap.size w'.heap.size 2 (some ⟨g, 0, none⟩) n n (ints (oneT n p q)) ∧ Below w.heap.size w w' := by
  obtain ⟨i0, hi, hz0, hz1, hz2⟩ := info_parts infoI64
  have hpn : (p : Int) < n := by omega
  go_enter Try.func65, Try.ntmps65
  go_wp2_with (at_make; refine wpList_make_full _ rfl _ _ 24 rfl w.heap.size 2 i0 (.int .i64 0) 1 Try.underlying24 hi hz0 hz1 .i64 .i64 _ _ n rfl rfl rfl rfl (by rw [hz2]; omega) (by unfold maxLen; omega) (Nat.le_refl _) ?_; intro w1 hown hg; have ho := made_zero hown; have hcell := (ho.cell hp).trans (ints_at (List.replicate n 0) p (by simpa using hp)); have hfr := ho.free p; have HO := Go.Lib.hid ho; have HG := Go.Lib.hid ((Below.refl w.heap.size w).grown hg (Nat.le_refl _) (by simp)); clear hown hg ho)
  go_ret
  have h1 := HO.out.set_ (k := p) (.int .i64 q)
  rw [ints_set] at h1
  exact ⟨w.heap.size, rfl, by simpa [World.setCell, oneT] using h1, HG.out.setCell (p := ⟨w.heap.size, p, none⟩) (Nat.le_refl _) _⟩
end Go.Proofs.Ytpcaakmcjdginaa
