/- Contracts of the methods of an interval and of spec.l02Result. -/
import Derived.Test.YtcknknicknolaaaIv
import Derived.Handy
namespace Go.Proofs.Ytcknknicknolaaa
open Go.RowKit

theorem bcell2 {W w1 : World} (hb : Below W.heap.size W w1) : (∀ b o, b < W.heap.size → w1.cell? ⟨b, o, none⟩ = W.cell? ⟨b, o, none⟩) ∧ (∀ b o, b < W.heap.size → w1.frozen? ⟨b, o, none⟩ = W.frozen? ⟨b, o, none⟩) :=
  ⟨fun b o h => hb.cell (p := ⟨b, o, none⟩) h, fun b o h => hb.frozen (p := ⟨b, o, none⟩) h⟩
theorem up {a w w1 : World} (h : Below a.heap.size a w) (k : Below w.heap.size w w1) : Below a.heap.size a w1 := h.trans (k.mono h.size)

theorem plus (a b c d : Int) (w : World) (h1 : -1000000000 ≤ a) (h2 : a ≤ b) (h3 : b ≤ 1000000000) (h4 : -1000000000 ≤ c) (h5 : c ≤ d) (h6 : d ≤ 1000000000) :
    Calls Try.prog 44 #[ivV a b, ivV c d] w (NewIv w (a + c) (b + d)) := by
  go_enter Try.func44, Try.ntmps44
  go_wp2_with fail
  refine bodyPost_ret (v := ivV (a + c) (b + d)) (by simp [results, Try.results44, go_sem]) rfl ⟨rfl, by go_grown⟩

theorem limited (a b : Int) (w : World) : Calls Try.prog 45 #[ivV a b] w (NewR w (limIv a b)) := by
  have kv := isValid a b
  have hl : limIv a b = if vldB a b = true then ⟨a, b, 0⟩ else ⟨0, 0, 3⟩ := rfl
  rw [hl]
  clear hl
  cases hv : vldB a b
  · rw [hv] at kv
    have K := Go.Lib.hid kv
    clear kv hv
    rw [if_neg (by decide)]
    go_enter Try.func45, Try.ntmps45
    go_wp2_with fail
    refine (K.out _).mono ?_
    rintro e w1 ⟨rfl, b1⟩
    obtain ⟨hc, hf⟩ := bcell2 b1
    have B1 := up (a := w) (by go_grown) b1
    have z1 := b1.size
    simp only [World.size_alloc] at z1
    have hz0 : w.heap.size < w1.heap.size := by omega
    have hz1 : w.heap.size + 1 < w1.heap.size := by omega
    have hs2 : w.heap.size < w.heap.size + 1 + 1 := by omega
    go_wp2_with fail
    refine bodyPost_ret (v := .tuple #[ivV 0 0, .int .i64 3]) (by simp [results, Try.results45, go_sem, hc, hz0, hz1, hs2]) rfl ⟨rfl, by go_grown⟩
  · rw [hv] at kv
    have K := Go.Lib.hid kv
    clear kv hv
    rw [if_pos rfl]
    go_enter Try.func45, Try.ntmps45
    go_wp2_with fail
    refine (K.out _).mono ?_
    rintro e w1 ⟨rfl, b1⟩
    obtain ⟨hc, hf⟩ := bcell2 b1
    have B1 := up (a := w) (by go_grown) b1
    have z1 := b1.size
    simp only [World.size_alloc] at z1
    have hz0 : w.heap.size < w1.heap.size := by omega
    have hz1 : w.heap.size + 1 < w1.heap.size := by omega
    have hs2 : w.heap.size < w.heap.size + 1 + 1 := by omega
    go_wp2_with fail
    refine bodyPost_ret (v := .tuple #[ivV a b, .int .i64 0]) (by simp [results, Try.results45, go_sem, hc, hz0, hz1, hs2]) rfl ⟨rfl, by go_grown⟩

theorem specResult (a b : Int) (w : World) : Calls Try.prog 46 #[.int .i64 a, .int .i64 b] w (NewR w (limIv a b)) := by
  have kv := specIsInterval a b
  have hl : limIv a b = if vldB a b = true then ⟨a, b, 0⟩ else ⟨0, 0, 3⟩ := rfl
  rw [hl]
  clear hl
  cases hv : vldB a b
  · rw [hv] at kv
    have K := Go.Lib.hid kv
    clear kv hv
    rw [if_neg (by decide)]
    go_enter Try.func46, Try.ntmps46
    go_wp2_with fail
    refine (K.out _).mono ?_
    rintro e w1 ⟨rfl, b1⟩
    obtain ⟨hc, hf⟩ := bcell2 b1
    have B1 := up (a := w) (by go_grown) b1
    have z1 := b1.size
    simp only [World.size_alloc] at z1
    have hz0 : w.heap.size < w1.heap.size := by omega
    have hz1 : w.heap.size + 1 < w1.heap.size := by omega
    have hs2 : w.heap.size < w.heap.size + 1 + 1 := by omega
    go_wp2_with fail
    refine bodyPost_ret (v := .tuple #[ivV 0 0, .int .i64 3]) (by simp [results, Try.results46, go_sem, hc, hz0, hz1, hs2]) rfl ⟨rfl, by go_grown⟩
  · rw [hv] at kv
    have K := Go.Lib.hid kv
    clear kv hv
    rw [if_pos rfl]
    go_enter Try.func46, Try.ntmps46
    go_wp2_with fail
    refine (K.out _).mono ?_
    rintro e w1 ⟨rfl, b1⟩
    obtain ⟨hc, hf⟩ := bcell2 b1
    have B1 := up (a := w) (by go_grown) b1
    have z1 := b1.size
    simp only [World.size_alloc] at z1
    have hz0 : w.heap.size < w1.heap.size := by omega
    have hz1 : w.heap.size + 1 < w1.heap.size := by omega
    have hs2 : w.heap.size < w.heap.size + 1 + 1 := by omega
    go_wp2_with fail
    refine bodyPost_ret (v := .tuple #[ivV a b, .int .i64 0]) (by simp [results, Try.results46, go_sem, hc, hz0, hz1, hs2]) rfl ⟨rfl, by go_grown⟩

theorem between (m n : Int) (w : World) : Calls Try.prog 59 #[.int .i64 m, .int .i64 n] w (NewIv w (min m n) (max m n)) := by
  go_enter Try.func59, Try.ntmps59
  go_wp2_with fail
  all_goals first | (exfalso; omega) | (refine bodyPost_ret (v := ivV (min m n) (max m n)) (by simp [results, Try.results59, go_sem] <;> omega) rfl ⟨rfl, by go_grown⟩)

theorem times (a b n : Int) (w : World) (h1 : -1000000000 ≤ a) (h2 : a ≤ b) (h3 : b ≤ 1000000000) (h4 : -1000000 ≤ n) (h5 : n ≤ 1000000) :
    Calls Try.prog 49 #[ivV a b, .int .i64 n] w (NewIv w (min (a * n) (b * n)) (max (a * n) (b * n))) := by
  have ea := mul_bd (a := a) (n := n) (p := 1000000000) (q := 1000000) (by omega) (by omega)
  have eb := mul_bd (a := b) (n := n) (p := 1000000000) (q := 1000000) (by omega) (by omega)
  obtain ⟨ea1, ea2⟩ := ea
  obtain ⟨eb1, eb2⟩ := eb
  have wa : IntKind.i64.wrap (a * n) = a * n := IntWalk.i64_in _ (by omega)
  have wb : IntKind.i64.wrap (b * n) = b * n := IntWalk.i64_in _ (by omega)
  have HB := Go.Lib.hid (between (a * n) (b * n))
  generalize min (a * n) (b * n) = L at HB ⊢
  generalize max (a * n) (b * n) = M at HB ⊢
  go_enter Try.func49, Try.ntmps49
  go_wp2_with fail
  refine (HB.out _).mono ?_
  rintro e w1 ⟨rfl, b1⟩
  obtain ⟨hc, hf⟩ := bcell2 b1
  have B1 := up (a := w) (by go_grown) b1
  have z1 := b1.size
  simp only [World.size_alloc] at z1
  have hz0 : w.heap.size < w1.heap.size := by omega
  have hz1 : w.heap.size + 1 < w1.heap.size := by omega
  have hs2 : w.heap.size < w.heap.size + 1 + 1 := by omega
  go_wp2_with fail
  refine bodyPost_ret (v := ivV L M) (by simp [results, Try.results49, go_sem, hc, hz0, hz1, hs2]) rfl ⟨rfl, by go_grown⟩

theorem isBelow (a b c d : Int) (w : World) : Calls Try.prog 57 #[ivV a b, ivV c d] w (NewBool w (decide (b < c))) := by
  go_enter Try.func57, Try.ntmps57
  go_wp2_with fail
  go_ret
  exact ⟨rfl, by go_grown⟩

theorem square (a b : Int) (w : World) (h1 : -1000000000 ≤ a) (h2 : a ≤ b) (h3 : b ≤ 1000000000) :
    Calls Try.prog 51 #[ivV a b] w (NewIv w (if a ≤ 0 ∧ 0 ≤ b then 0 else min (a * a) (b * b)) (max (a * a) (b * b))) := by
  have ea := mul_bd (a := a) (n := a) (p := 1000000000) (q := 1000000000) (by omega) (by omega)
  have eb := mul_bd (a := b) (n := b) (p := 1000000000) (q := 1000000000) (by omega) (by omega)
  obtain ⟨ea1, ea2⟩ := ea
  obtain ⟨eb1, eb2⟩ := eb
  have wa : IntKind.i64.wrap (a * a) = a * a := IntWalk.i64_in _ (by omega)
  have wb : IntKind.i64.wrap (b * b) = b * b := IntWalk.i64_in _ (by omega)
  have na := sq_nonneg a
  have nb := sq_nonneg b
  have HL := Go.Lib.hid (show ¬ (a < 0 ∧ 0 < b) → min (a * a) (b * b) = (if a ≤ 0 ∧ 0 ≤ b then 0 else min (a * a) (b * b)) by
    intro h
    split
    · rename_i hh
      rcases Int.lt_or_le a 0 with h4 | h4
      · obtain rfl : b = 0 := by omega
        omega
      · obtain rfl : a = 0 := by omega
        omega
    · rfl)
  have HL2 := Go.Lib.hid (show (a < 0 ∧ 0 < b) → (0 : Int) = (if a ≤ 0 ∧ 0 ≤ b then 0 else min (a * a) (b * b)) by
    intro h
    rw [if_pos (by omega)])
  generalize (if a ≤ 0 ∧ 0 ≤ b then 0 else min (a * a) (b * b)) = L at HL HL2 ⊢
  have HB := Go.Lib.hid (between (a * a) (b * b))
  generalize min (a * a) (b * b) = L0 at HB HL
  generalize max (a * a) (b * b) = M at HB ⊢
  clear na nb
  by_cases h4 : a < 0
  · by_cases h5 : 0 < b
    · obtain rfl : (0 : Int) = L := HL2.out ⟨h4, h5⟩
      go_enter Try.func51, Try.ntmps51
      go_wp2_with fail
      refine (HB.out _).mono ?_
      rintro e w1 ⟨rfl, b1⟩
      obtain ⟨hc, hf⟩ := bcell2 b1
      have B1 := up (a := w) (by go_grown) b1
      have z1 := b1.size
      simp only [World.size_alloc] at z1
      have hz0 : w.heap.size < w1.heap.size := by omega
      have hz1 : w.heap.size + 1 < w1.heap.size := by omega
      have hs2 : w.heap.size < w.heap.size + 1 + 1 := by omega
      go_wp2_with fail
      refine bodyPost_ret (v := ivV 0 M) (by simp [results, Try.results51, go_sem, hc, hz0, hz1, hs2]) rfl ⟨rfl, by go_grown⟩
    · obtain rfl : L0 = L := HL.out (fun h => h5 h.2)
      go_enter Try.func51, Try.ntmps51
      go_wp2_with fail
      refine (HB.out _).mono ?_
      rintro e w1 ⟨rfl, b1⟩
      obtain ⟨hc, hf⟩ := bcell2 b1
      have B1 := up (a := w) (by go_grown) b1
      have z1 := b1.size
      simp only [World.size_alloc] at z1
      have hz0 : w.heap.size < w1.heap.size := by omega
      have hz1 : w.heap.size + 1 < w1.heap.size := by omega
      have hs2 : w.heap.size < w.heap.size + 1 + 1 := by omega
      go_wp2_with fail
      refine bodyPost_ret (v := ivV L0 M) (by simp [results, Try.results51, go_sem, hc, hz0, hz1, hs2]) rfl ⟨rfl, by go_grown⟩
  · obtain rfl : L0 = L := HL.out (fun h => h4 h.1)
    go_enter Try.func51, Try.ntmps51
    go_wp2_with fail
    refine (HB.out _).mono ?_
    rintro e w1 ⟨rfl, b1⟩
    obtain ⟨hc, hf⟩ := bcell2 b1
    have B1 := up (a := w) (by go_grown) b1
    have z1 := b1.size
    simp only [World.size_alloc] at z1
    have hz0 : w.heap.size < w1.heap.size := by omega
    have hz1 : w.heap.size + 1 < w1.heap.size := by omega
    have hs2 : w.heap.size < w.heap.size + 1 + 1 := by omega
    go_wp2_with fail
    refine bodyPost_ret (v := ivV L0 M) (by simp [results, Try.results51, go_sem, hc, hz0, hz1, hs2]) rfl ⟨rfl, by go_grown⟩

end Go.Proofs.Ytcknknicknolaaa
