/- Contracts of the listed functions of chapter 2 (second half). -/
import Derived.Test.YtcknknicknolaaaIv3
namespace Go.Proofs.Ytcknknicknolaaa
open Go.RowKit

set_option maxHeartbeats 2000000 in
theorem specTimes (a b n : Int) (w : World) : Calls Try.prog 20 #[ivV a b, .int .i64 n] w (NewR w (timesIv a b n)) := by
  have k1 := specIsInterval a b
  unfold timesIv
  cases hv : vldB a b
  · rw [if_neg (by simp)]
    rw [hv] at k1
    have K1 := Go.Lib.hid k1
    clear k1 hv
    go_enter Try.func20, Try.ntmps20
    go_wp2_with fail
    refine (K1.out _).mono ?_
    rintro e w1 ⟨rfl, b1⟩
    obtain ⟨hc1, hf1⟩ := bcell2 b1
    have B1 := up (a := w) (by go_grown) b1
    have z1 := b1.size
    simp only [World.size_alloc] at z1
    have s10 : w.heap.size < w1.heap.size := by omega
    have s11 : w.heap.size + 1 < w1.heap.size := by omega
    have t0 : w.heap.size < w.heap.size + 1 + 1 := by omega
    go_wp2_with fail
    refine bodyPost_ret (v := .tuple #[ivV 0 0, .int .i64 1]) (by simp [results, Try.results20, go_sem, hc1]) rfl ⟨rfl, by go_grown⟩
  · rw [if_pos rfl]
    obtain ⟨a1, a2, a3⟩ := vldB_of hv
    rw [hv] at k1
    have K1 := Go.Lib.hid k1
    clear k1 hv
    by_cases hn : -1000000 ≤ n ∧ n ≤ 1000000
    · rw [if_pos hn]
      obtain ⟨n1, n2⟩ := hn
      have hin := fun w0 => in_any n (-1000000) 1000000 w0
      rw [show (decide (-1000000 ≤ n) && decide (n ≤ 1000000)) = true by simp [n1, n2]] at hin
      have HI := Go.Lib.hid hin
      clear hin
      have ea := mul_bd (a := n) (n := a) (p := 1000000) (q := 1000000000) (by omega) (by omega)
      have eb := mul_bd (a := n) (n := b) (p := 1000000) (q := 1000000000) (by omega) (by omega)
      obtain ⟨ea1, ea2⟩ := ea
      obtain ⟨eb1, eb2⟩ := eb
      have wa : IntKind.i64.wrap (n * a) = n * a := IntWalk.i64_in _ (by omega)
      have wb : IntKind.i64.wrap (n * b) = n * b := IntWalk.i64_in _ (by omega)
      rw [Int.mul_comm a n, Int.mul_comm b n]
      by_cases h3 : n * a < n * b
      · rw [show min (n * a) (n * b) = n * a by omega, show max (n * a) (n * b) = n * b by omega]
        have HL := Go.Lib.hid (specResult (n * a) (n * b))
        generalize limIv (n * a) (n * b) = r at HL ⊢
        obtain ⟨x, y, z⟩ := r
        go_enter Try.func20, Try.ntmps20
        go_wp2_with fail
        refine (K1.out _).mono ?_
        rintro e w1 ⟨rfl, b1⟩
        obtain ⟨hc1, hf1⟩ := bcell2 b1
        have B1 := up (a := w) (by go_grown) b1
        have z1 := b1.size
        simp only [World.size_alloc] at z1
        have s10 : w.heap.size < w1.heap.size := by omega
        have s11 : w.heap.size + 1 < w1.heap.size := by omega
        have t0 : w.heap.size < w.heap.size + 1 + 1 := by omega
        go_wp2_with fail
        refine (HI.out _).mono ?_
        rintro e w' ⟨rfl, rfl⟩
        go_wp2_with fail
        refine (HL.out _).mono ?_
        rintro e w2 ⟨rfl, b2⟩
        obtain ⟨hc2, hf2⟩ := bcell2 b2
        have B2 := up (a := w) (by go_grown) b2
        have z2 := b2.size
        try simp only [World.size_alloc, World.size_setCell] at z2
        have s20 : w.heap.size < w2.heap.size := by omega
        have s21 : w.heap.size + 1 < w2.heap.size := by omega
        go_wp2_with fail
        refine bodyPost_ret (v := .tuple #[ivV x y, .int .i64 z]) (by simp [results, Try.results20, go_sem, hc1, s11, hc2]) rfl ⟨rfl, by go_grown⟩
      · by_cases h4 : n * b < n * a
        · rw [show min (n * a) (n * b) = n * b by omega, show max (n * a) (n * b) = n * a by omega]
          have HL := Go.Lib.hid (specResult (n * b) (n * a))
          generalize limIv (n * b) (n * a) = r at HL ⊢
          obtain ⟨x, y, z⟩ := r
          go_enter Try.func20, Try.ntmps20
          go_wp2_with fail
          refine (K1.out _).mono ?_
          rintro e w1 ⟨rfl, b1⟩
          obtain ⟨hc1, hf1⟩ := bcell2 b1
          have B1 := up (a := w) (by go_grown) b1
          have z1 := b1.size
          simp only [World.size_alloc] at z1
          have s10 : w.heap.size < w1.heap.size := by omega
          have s11 : w.heap.size + 1 < w1.heap.size := by omega
          have t0 : w.heap.size < w.heap.size + 1 + 1 := by omega
          go_wp2_with fail
          refine (HI.out _).mono ?_
          rintro e w' ⟨rfl, rfl⟩
          go_wp2_with fail
          refine (HL.out _).mono ?_
          rintro e w2 ⟨rfl, b2⟩
          obtain ⟨hc2, hf2⟩ := bcell2 b2
          have B2 := up (a := w) (by go_grown) b2
          have z2 := b2.size
          try simp only [World.size_alloc, World.size_setCell] at z2
          have s20 : w.heap.size < w2.heap.size := by omega
          have s21 : w.heap.size + 1 < w2.heap.size := by omega
          go_wp2_with fail
          refine bodyPost_ret (v := .tuple #[ivV x y, .int .i64 z]) (by simp [results, Try.results20, go_sem, hc1, s11, hc2]) rfl ⟨rfl, by go_grown⟩
        · rw [show min (n * a) (n * b) = n * a by omega, show max (n * a) (n * b) = n * a by omega]
          have HL := Go.Lib.hid (specResult (n * a) (n * a))
          generalize limIv (n * a) (n * a) = r at HL ⊢
          obtain ⟨x, y, z⟩ := r
          go_enter Try.func20, Try.ntmps20
          go_wp2_with fail
          refine (K1.out _).mono ?_
          rintro e w1 ⟨rfl, b1⟩
          obtain ⟨hc1, hf1⟩ := bcell2 b1
          have B1 := up (a := w) (by go_grown) b1
          have z1 := b1.size
          simp only [World.size_alloc] at z1
          have s10 : w.heap.size < w1.heap.size := by omega
          have s11 : w.heap.size + 1 < w1.heap.size := by omega
          have t0 : w.heap.size < w.heap.size + 1 + 1 := by omega
          go_wp2_with fail
          refine (HI.out _).mono ?_
          rintro e w' ⟨rfl, rfl⟩
          go_wp2_with fail
          refine (HL.out _).mono ?_
          rintro e w2 ⟨rfl, b2⟩
          obtain ⟨hc2, hf2⟩ := bcell2 b2
          have B2 := up (a := w) (by go_grown) b2
          have z2 := b2.size
          try simp only [World.size_alloc, World.size_setCell] at z2
          have s20 : w.heap.size < w2.heap.size := by omega
          have s21 : w.heap.size + 1 < w2.heap.size := by omega
          go_wp2_with fail
          refine bodyPost_ret (v := .tuple #[ivV x y, .int .i64 z]) (by simp [results, Try.results20, go_sem, hc1, s11, hc2]) rfl ⟨rfl, by go_grown⟩
    · rw [if_neg hn]
      have hin := fun w0 => in_any n (-1000000) 1000000 w0
      rw [show (decide (-1000000 ≤ n) && decide (n ≤ 1000000)) = false by simp; omega] at hin
      have HI := Go.Lib.hid hin
      clear hin hn
      go_enter Try.func20, Try.ntmps20
      go_wp2_with fail
      refine (K1.out _).mono ?_
      rintro e w1 ⟨rfl, b1⟩
      obtain ⟨hc1, hf1⟩ := bcell2 b1
      have B1 := up (a := w) (by go_grown) b1
      have z1 := b1.size
      simp only [World.size_alloc] at z1
      have s10 : w.heap.size < w1.heap.size := by omega
      have s11 : w.heap.size + 1 < w1.heap.size := by omega
      have t0 : w.heap.size < w.heap.size + 1 + 1 := by omega
      go_wp2_with fail
      refine (HI.out _).mono ?_
      rintro e w' ⟨rfl, rfl⟩
      go_wp2_with fail
      refine bodyPost_ret (v := .tuple #[ivV 0 0, .int .i64 2]) (by simp [results, Try.results20, go_sem, hc1]) rfl ⟨rfl, by go_grown⟩

set_option maxHeartbeats 2000000 in
theorem specSquare (a b : Int) (w : World) : Calls Try.prog 28 #[ivV a b] w (NewR w (squareIv a b)) := by
  have k1 := specIsInterval a b
  unfold squareIv
  cases hv : vldB a b
  · rw [if_neg (by simp)]
    rw [hv] at k1
    have K1 := Go.Lib.hid k1
    clear k1 hv
    go_enter Try.func28, Try.ntmps28
    go_wp2_with fail
    refine (K1.out _).mono ?_
    rintro e w1 ⟨rfl, b1⟩
    obtain ⟨hc1, hf1⟩ := bcell2 b1
    have B1 := up (a := w) (by go_grown) b1
    have z1 := b1.size
    simp only [World.size_alloc] at z1
    have s10 : w.heap.size < w1.heap.size := by omega
    have s11 : w.heap.size + 1 < w1.heap.size := by omega
    have t0 : w.heap.size < w.heap.size + 1 + 1 := by omega
    go_wp2_with fail
    refine bodyPost_ret (v := .tuple #[ivV 0 0, .int .i64 1]) (by simp [results, Try.results28, go_sem, hc1]) rfl ⟨rfl, by go_grown⟩
  · rw [if_pos rfl]
    obtain ⟨a1, a2, a3⟩ := vldB_of hv
    rw [hv] at k1
    have K1 := Go.Lib.hid k1
    clear k1 hv
    have ea := mul_bd (a := a) (n := a) (p := 1000000000) (q := 1000000000) (by omega) (by omega)
    have eb := mul_bd (a := b) (n := b) (p := 1000000000) (q := 1000000000) (by omega) (by omega)
    obtain ⟨ea1, ea2⟩ := ea
    obtain ⟨eb1, eb2⟩ := eb
    have wa : IntKind.i64.wrap (a * a) = a * a := IntWalk.i64_in _ (by omega)
    have wb : IntKind.i64.wrap (b * b) = b * b := IntWalk.i64_in _ (by omega)
    by_cases p1 : a ≤ 0
    · by_cases p2 : 0 ≤ b
      · by_cases h3 : a * a < b * b
        · rw [if_pos ⟨p1, p2⟩, show max (a * a) (b * b) = b * b by omega]
          have HL := Go.Lib.hid (specResult (0) (b * b))
          generalize limIv (0) (b * b) = r at HL ⊢
          obtain ⟨x, y, z⟩ := r
          go_enter Try.func28, Try.ntmps28
          go_wp2_with fail
          refine (K1.out _).mono ?_
          rintro e w1 ⟨rfl, b1⟩
          obtain ⟨hc1, hf1⟩ := bcell2 b1
          have B1 := up (a := w) (by go_grown) b1
          have z1 := b1.size
          simp only [World.size_alloc] at z1
          have s10 : w.heap.size < w1.heap.size := by omega
          have s11 : w.heap.size + 1 < w1.heap.size := by omega
          have t0 : w.heap.size < w.heap.size + 1 + 1 := by omega
          go_wp2_with fail
          refine (HL.out _).mono ?_
          rintro e w2 ⟨rfl, b2⟩
          obtain ⟨hc2, hf2⟩ := bcell2 b2
          have B2 := up (a := w) (by go_grown) b2
          have z2 := b2.size
          try simp only [World.size_alloc, World.size_setCell] at z2
          have s20 : w.heap.size < w2.heap.size := by omega
          have s21 : w.heap.size + 1 < w2.heap.size := by omega
          go_wp2_with fail
          refine bodyPost_ret (v := .tuple #[ivV x y, .int .i64 z]) (by simp [results, Try.results28, go_sem, hc1, s11, hc2]) rfl ⟨rfl, by go_grown⟩
        · by_cases h4 : b * b < a * a
          · rw [if_pos ⟨p1, p2⟩, show max (a * a) (b * b) = a * a by omega]
            have HL := Go.Lib.hid (specResult (0) (a * a))
            generalize limIv (0) (a * a) = r at HL ⊢
            obtain ⟨x, y, z⟩ := r
            go_enter Try.func28, Try.ntmps28
            go_wp2_with fail
            refine (K1.out _).mono ?_
            rintro e w1 ⟨rfl, b1⟩
            obtain ⟨hc1, hf1⟩ := bcell2 b1
            have B1 := up (a := w) (by go_grown) b1
            have z1 := b1.size
            simp only [World.size_alloc] at z1
            have s10 : w.heap.size < w1.heap.size := by omega
            have s11 : w.heap.size + 1 < w1.heap.size := by omega
            have t0 : w.heap.size < w.heap.size + 1 + 1 := by omega
            go_wp2_with fail
            refine (HL.out _).mono ?_
            rintro e w2 ⟨rfl, b2⟩
            obtain ⟨hc2, hf2⟩ := bcell2 b2
            have B2 := up (a := w) (by go_grown) b2
            have z2 := b2.size
            try simp only [World.size_alloc, World.size_setCell] at z2
            have s20 : w.heap.size < w2.heap.size := by omega
            have s21 : w.heap.size + 1 < w2.heap.size := by omega
            go_wp2_with fail
            refine bodyPost_ret (v := .tuple #[ivV x y, .int .i64 z]) (by simp [results, Try.results28, go_sem, hc1, s11, hc2]) rfl ⟨rfl, by go_grown⟩
          · rw [if_pos ⟨p1, p2⟩, show max (a * a) (b * b) = a * a by omega]
            have HL := Go.Lib.hid (specResult (0) (a * a))
            generalize limIv (0) (a * a) = r at HL ⊢
            obtain ⟨x, y, z⟩ := r
            go_enter Try.func28, Try.ntmps28
            go_wp2_with fail
            refine (K1.out _).mono ?_
            rintro e w1 ⟨rfl, b1⟩
            obtain ⟨hc1, hf1⟩ := bcell2 b1
            have B1 := up (a := w) (by go_grown) b1
            have z1 := b1.size
            simp only [World.size_alloc] at z1
            have s10 : w.heap.size < w1.heap.size := by omega
            have s11 : w.heap.size + 1 < w1.heap.size := by omega
            have t0 : w.heap.size < w.heap.size + 1 + 1 := by omega
            go_wp2_with fail
            refine (HL.out _).mono ?_
            rintro e w2 ⟨rfl, b2⟩
            obtain ⟨hc2, hf2⟩ := bcell2 b2
            have B2 := up (a := w) (by go_grown) b2
            have z2 := b2.size
            try simp only [World.size_alloc, World.size_setCell] at z2
            have s20 : w.heap.size < w2.heap.size := by omega
            have s21 : w.heap.size + 1 < w2.heap.size := by omega
            go_wp2_with fail
            refine bodyPost_ret (v := .tuple #[ivV x y, .int .i64 z]) (by simp [results, Try.results28, go_sem, hc1, s11, hc2]) rfl ⟨rfl, by go_grown⟩
      · by_cases h3 : a * a < b * b
        · rw [if_neg (by omega), show min (a * a) (b * b) = a * a by omega, show max (a * a) (b * b) = b * b by omega]
          have HL := Go.Lib.hid (specResult (a * a) (b * b))
          generalize limIv (a * a) (b * b) = r at HL ⊢
          obtain ⟨x, y, z⟩ := r
          go_enter Try.func28, Try.ntmps28
          go_wp2_with fail
          refine (K1.out _).mono ?_
          rintro e w1 ⟨rfl, b1⟩
          obtain ⟨hc1, hf1⟩ := bcell2 b1
          have B1 := up (a := w) (by go_grown) b1
          have z1 := b1.size
          simp only [World.size_alloc] at z1
          have s10 : w.heap.size < w1.heap.size := by omega
          have s11 : w.heap.size + 1 < w1.heap.size := by omega
          have t0 : w.heap.size < w.heap.size + 1 + 1 := by omega
          go_wp2_with fail
          refine (HL.out _).mono ?_
          rintro e w2 ⟨rfl, b2⟩
          obtain ⟨hc2, hf2⟩ := bcell2 b2
          have B2 := up (a := w) (by go_grown) b2
          have z2 := b2.size
          try simp only [World.size_alloc, World.size_setCell] at z2
          have s20 : w.heap.size < w2.heap.size := by omega
          have s21 : w.heap.size + 1 < w2.heap.size := by omega
          go_wp2_with fail
          refine bodyPost_ret (v := .tuple #[ivV x y, .int .i64 z]) (by simp [results, Try.results28, go_sem, hc1, s11, hc2]) rfl ⟨rfl, by go_grown⟩
        · by_cases h4 : b * b < a * a
          · rw [if_neg (by omega), show min (a * a) (b * b) = b * b by omega, show max (a * a) (b * b) = a * a by omega]
            have HL := Go.Lib.hid (specResult (b * b) (a * a))
            generalize limIv (b * b) (a * a) = r at HL ⊢
            obtain ⟨x, y, z⟩ := r
            go_enter Try.func28, Try.ntmps28
            go_wp2_with fail
            refine (K1.out _).mono ?_
            rintro e w1 ⟨rfl, b1⟩
            obtain ⟨hc1, hf1⟩ := bcell2 b1
            have B1 := up (a := w) (by go_grown) b1
            have z1 := b1.size
            simp only [World.size_alloc] at z1
            have s10 : w.heap.size < w1.heap.size := by omega
            have s11 : w.heap.size + 1 < w1.heap.size := by omega
            have t0 : w.heap.size < w.heap.size + 1 + 1 := by omega
            go_wp2_with fail
            refine (HL.out _).mono ?_
            rintro e w2 ⟨rfl, b2⟩
            obtain ⟨hc2, hf2⟩ := bcell2 b2
            have B2 := up (a := w) (by go_grown) b2
            have z2 := b2.size
            try simp only [World.size_alloc, World.size_setCell] at z2
            have s20 : w.heap.size < w2.heap.size := by omega
            have s21 : w.heap.size + 1 < w2.heap.size := by omega
            go_wp2_with fail
            refine bodyPost_ret (v := .tuple #[ivV x y, .int .i64 z]) (by simp [results, Try.results28, go_sem, hc1, s11, hc2]) rfl ⟨rfl, by go_grown⟩
          · rw [if_neg (by omega), show min (a * a) (b * b) = a * a by omega, show max (a * a) (b * b) = a * a by omega]
            have HL := Go.Lib.hid (specResult (a * a) (a * a))
            generalize limIv (a * a) (a * a) = r at HL ⊢
            obtain ⟨x, y, z⟩ := r
            go_enter Try.func28, Try.ntmps28
            go_wp2_with fail
            refine (K1.out _).mono ?_
            rintro e w1 ⟨rfl, b1⟩
            obtain ⟨hc1, hf1⟩ := bcell2 b1
            have B1 := up (a := w) (by go_grown) b1
            have z1 := b1.size
            simp only [World.size_alloc] at z1
            have s10 : w.heap.size < w1.heap.size := by omega
            have s11 : w.heap.size + 1 < w1.heap.size := by omega
            have t0 : w.heap.size < w.heap.size + 1 + 1 := by omega
            go_wp2_with fail
            refine (HL.out _).mono ?_
            rintro e w2 ⟨rfl, b2⟩
            obtain ⟨hc2, hf2⟩ := bcell2 b2
            have B2 := up (a := w) (by go_grown) b2
            have z2 := b2.size
            try simp only [World.size_alloc, World.size_setCell] at z2
            have s20 : w.heap.size < w2.heap.size := by omega
            have s21 : w.heap.size + 1 < w2.heap.size := by omega
            go_wp2_with fail
            refine bodyPost_ret (v := .tuple #[ivV x y, .int .i64 z]) (by simp [results, Try.results28, go_sem, hc1, s11, hc2]) rfl ⟨rfl, by go_grown⟩
    · by_cases h3 : a * a < b * b
      · rw [if_neg (by omega), show min (a * a) (b * b) = a * a by omega, show max (a * a) (b * b) = b * b by omega]
        have HL := Go.Lib.hid (specResult (a * a) (b * b))
        generalize limIv (a * a) (b * b) = r at HL ⊢
        obtain ⟨x, y, z⟩ := r
        go_enter Try.func28, Try.ntmps28
        go_wp2_with fail
        refine (K1.out _).mono ?_
        rintro e w1 ⟨rfl, b1⟩
        obtain ⟨hc1, hf1⟩ := bcell2 b1
        have B1 := up (a := w) (by go_grown) b1
        have z1 := b1.size
        simp only [World.size_alloc] at z1
        have s10 : w.heap.size < w1.heap.size := by omega
        have s11 : w.heap.size + 1 < w1.heap.size := by omega
        have t0 : w.heap.size < w.heap.size + 1 + 1 := by omega
        go_wp2_with fail
        refine (HL.out _).mono ?_
        rintro e w2 ⟨rfl, b2⟩
        obtain ⟨hc2, hf2⟩ := bcell2 b2
        have B2 := up (a := w) (by go_grown) b2
        have z2 := b2.size
        try simp only [World.size_alloc, World.size_setCell] at z2
        have s20 : w.heap.size < w2.heap.size := by omega
        have s21 : w.heap.size + 1 < w2.heap.size := by omega
        go_wp2_with fail
        refine bodyPost_ret (v := .tuple #[ivV x y, .int .i64 z]) (by simp [results, Try.results28, go_sem, hc1, s11, hc2]) rfl ⟨rfl, by go_grown⟩
      · by_cases h4 : b * b < a * a
        · rw [if_neg (by omega), show min (a * a) (b * b) = b * b by omega, show max (a * a) (b * b) = a * a by omega]
          have HL := Go.Lib.hid (specResult (b * b) (a * a))
          generalize limIv (b * b) (a * a) = r at HL ⊢
          obtain ⟨x, y, z⟩ := r
          go_enter Try.func28, Try.ntmps28
          go_wp2_with fail
          refine (K1.out _).mono ?_
          rintro e w1 ⟨rfl, b1⟩
          obtain ⟨hc1, hf1⟩ := bcell2 b1
          have B1 := up (a := w) (by go_grown) b1
          have z1 := b1.size
          simp only [World.size_alloc] at z1
          have s10 : w.heap.size < w1.heap.size := by omega
          have s11 : w.heap.size + 1 < w1.heap.size := by omega
          have t0 : w.heap.size < w.heap.size + 1 + 1 := by omega
          go_wp2_with fail
          refine (HL.out _).mono ?_
          rintro e w2 ⟨rfl, b2⟩
          obtain ⟨hc2, hf2⟩ := bcell2 b2
          have B2 := up (a := w) (by go_grown) b2
          have z2 := b2.size
          try simp only [World.size_alloc, World.size_setCell] at z2
          have s20 : w.heap.size < w2.heap.size := by omega
          have s21 : w.heap.size + 1 < w2.heap.size := by omega
          go_wp2_with fail
          refine bodyPost_ret (v := .tuple #[ivV x y, .int .i64 z]) (by simp [results, Try.results28, go_sem, hc1, s11, hc2]) rfl ⟨rfl, by go_grown⟩
        · rw [if_neg (by omega), show min (a * a) (b * b) = a * a by omega, show max (a * a) (b * b) = a * a by omega]
          have HL := Go.Lib.hid (specResult (a * a) (a * a))
          generalize limIv (a * a) (a * a) = r at HL ⊢
          obtain ⟨x, y, z⟩ := r
          go_enter Try.func28, Try.ntmps28
          go_wp2_with fail
          refine (K1.out _).mono ?_
          rintro e w1 ⟨rfl, b1⟩
          obtain ⟨hc1, hf1⟩ := bcell2 b1
          have B1 := up (a := w) (by go_grown) b1
          have z1 := b1.size
          simp only [World.size_alloc] at z1
          have s10 : w.heap.size < w1.heap.size := by omega
          have s11 : w.heap.size + 1 < w1.heap.size := by omega
          have t0 : w.heap.size < w.heap.size + 1 + 1 := by omega
          go_wp2_with fail
          refine (HL.out _).mono ?_
          rintro e w2 ⟨rfl, b2⟩
          obtain ⟨hc2, hf2⟩ := bcell2 b2
          have B2 := up (a := w) (by go_grown) b2
          have z2 := b2.size
          try simp only [World.size_alloc, World.size_setCell] at z2
          have s20 : w.heap.size < w2.heap.size := by omega
          have s21 : w.heap.size + 1 < w2.heap.size := by omega
          go_wp2_with fail
          refine bodyPost_ret (v := .tuple #[ivV x y, .int .i64 z]) (by simp [results, Try.results28, go_sem, hc1, s11, hc2]) rfl ⟨rfl, by go_grown⟩

theorem implMeet (a b c d : Int) (w : World) : Calls Try.prog 33 #[ivV a b, ivV c d] w (NewR w (meetIv a b c d)) := by
  have k1 := isValid a b
  have k2 := isValid c d
  unfold meetIv
  cases hv : vldB a b
  · rw [if_neg (by simp)]
    rw [hv] at k1
    have K1 := Go.Lib.hid k1
    clear k1 k2 hv
    go_enter Try.func33, Try.ntmps33
    go_wp2_with fail
    refine (K1.out _).mono ?_
    rintro e w1 ⟨rfl, b1⟩
    obtain ⟨hc1, hf1⟩ := bcell2 b1
    have B1 := up (a := w) (by go_grown) b1
    have z1 := b1.size
    simp only [World.size_alloc] at z1
    have s10 : w.heap.size < w1.heap.size := by omega
    have s11 : w.heap.size + 1 < w1.heap.size := by omega
    have s12 : w.heap.size + 2 < w1.heap.size := by omega
    have t0 : w.heap.size < w.heap.size + 1 + 1 + 1 := by omega
    have t1 : w.heap.size + 1 < w.heap.size + 1 + 1 + 1 := by omega
    go_wp2_with fail
    refine bodyPost_ret (v := .tuple #[ivV 0 0, .int .i64 1]) (by simp [results, Try.results33, go_sem, hc1]) rfl ⟨rfl, by go_grown⟩
  · rw [hv] at k1
    cases hu : vldB c d
    · rw [if_neg (by simp)]
      rw [hu] at k2
      have K1 := Go.Lib.hid k1
      have K2 := Go.Lib.hid k2
      clear k1 k2 hv hu
      go_enter Try.func33, Try.ntmps33
      go_wp2_with fail
      refine (K1.out _).mono ?_
      rintro e w1 ⟨rfl, b1⟩
      obtain ⟨hc1, hf1⟩ := bcell2 b1
      have B1 := up (a := w) (by go_grown) b1
      have z1 := b1.size
      simp only [World.size_alloc] at z1
      have s10 : w.heap.size < w1.heap.size := by omega
      have s11 : w.heap.size + 1 < w1.heap.size := by omega
      have s12 : w.heap.size + 2 < w1.heap.size := by omega
      have t0 : w.heap.size < w.heap.size + 1 + 1 + 1 := by omega
      have t1 : w.heap.size + 1 < w.heap.size + 1 + 1 + 1 := by omega
      go_wp2_with fail
      refine (K2.out _).mono ?_
      rintro e w2 ⟨rfl, b2⟩
      obtain ⟨hc2, hf2⟩ := bcell2 b2
      have B2 := up (a := w) (by go_grown) b2
      have z2 := b2.size
      try simp only [World.size_alloc, World.size_setCell] at z2
      have s20 : w.heap.size < w2.heap.size := by omega
      have s21 : w.heap.size + 1 < w2.heap.size := by omega
      have s22 : w.heap.size + 2 < w2.heap.size := by omega
      go_wp2_with fail
      refine bodyPost_ret (v := .tuple #[ivV 0 0, .int .i64 1]) (by simp [results, Try.results33, go_sem, hc1, s12, hc2]) rfl ⟨rfl, by go_grown⟩
    · rw [if_pos ⟨rfl, rfl⟩]
      obtain ⟨a1, a2, a3⟩ := vldB_of hv
      obtain ⟨c1, c2, c3⟩ := vldB_of hu
      rw [hu] at k2
      have K1 := Go.Lib.hid k1
      have K2 := Go.Lib.hid k2
      clear k1 k2 hv hu
      have hb1 := isBelow a b c d
      have hb2 := isBelow c d a b
      by_cases h1 : b < c
      · rw [if_neg (by omega)]
        rw [decide_eq_true h1] at hb1
        have HB1 := Go.Lib.hid hb1
        clear hb1 hb2
        go_enter Try.func33, Try.ntmps33
        go_wp2_with fail
        refine (K1.out _).mono ?_
        rintro e w1 ⟨rfl, b1⟩
        obtain ⟨hc1, hf1⟩ := bcell2 b1
        have B1 := up (a := w) (by go_grown) b1
        have z1 := b1.size
        simp only [World.size_alloc] at z1
        have s10 : w.heap.size < w1.heap.size := by omega
        have s11 : w.heap.size + 1 < w1.heap.size := by omega
        have s12 : w.heap.size + 2 < w1.heap.size := by omega
        have t0 : w.heap.size < w.heap.size + 1 + 1 + 1 := by omega
        have t1 : w.heap.size + 1 < w.heap.size + 1 + 1 + 1 := by omega
        go_wp2_with fail
        refine (K2.out _).mono ?_
        rintro e w2 ⟨rfl, b2⟩
        obtain ⟨hc2, hf2⟩ := bcell2 b2
        have B2 := up (a := w) (by go_grown) b2
        have z2 := b2.size
        try simp only [World.size_alloc, World.size_setCell] at z2
        have s20 : w.heap.size < w2.heap.size := by omega
        have s21 : w.heap.size + 1 < w2.heap.size := by omega
        have s22 : w.heap.size + 2 < w2.heap.size := by omega
        go_wp2_with fail
        refine (HB1.out _).mono ?_
        rintro e w3 ⟨rfl, b3⟩
        obtain ⟨hc3, hf3⟩ := bcell2 b3
        have B3 := up (a := w) (by go_grown) b3
        have z3 := b3.size
        try simp only [World.size_alloc, World.size_setCell] at z3
        have s30 : w.heap.size < w3.heap.size := by omega
        have s31 : w.heap.size + 1 < w3.heap.size := by omega
        have s32 : w.heap.size + 2 < w3.heap.size := by omega
        go_wp2_with fail
        refine bodyPost_ret (v := .tuple #[ivV 0 0, .int .i64 5]) (by simp [results, Try.results33, go_sem, hc1, s12, hc2, s22, hc3]) rfl ⟨rfl, by go_grown⟩
      · rw [decide_eq_false h1] at hb1
        have HB1 := Go.Lib.hid hb1
        clear hb1
        by_cases h2 : d < a
        · rw [if_neg (by omega)]
          rw [decide_eq_true h2] at hb2
          have HB2 := Go.Lib.hid hb2
          clear hb2
          go_enter Try.func33, Try.ntmps33
          go_wp2_with fail
          refine (K1.out _).mono ?_
          rintro e w1 ⟨rfl, b1⟩
          obtain ⟨hc1, hf1⟩ := bcell2 b1
          have B1 := up (a := w) (by go_grown) b1
          have z1 := b1.size
          simp only [World.size_alloc] at z1
          have s10 : w.heap.size < w1.heap.size := by omega
          have s11 : w.heap.size + 1 < w1.heap.size := by omega
          have s12 : w.heap.size + 2 < w1.heap.size := by omega
          have t0 : w.heap.size < w.heap.size + 1 + 1 + 1 := by omega
          have t1 : w.heap.size + 1 < w.heap.size + 1 + 1 + 1 := by omega
          go_wp2_with fail
          refine (K2.out _).mono ?_
          rintro e w2 ⟨rfl, b2⟩
          obtain ⟨hc2, hf2⟩ := bcell2 b2
          have B2 := up (a := w) (by go_grown) b2
          have z2 := b2.size
          try simp only [World.size_alloc, World.size_setCell] at z2
          have s20 : w.heap.size < w2.heap.size := by omega
          have s21 : w.heap.size + 1 < w2.heap.size := by omega
          have s22 : w.heap.size + 2 < w2.heap.size := by omega
          go_wp2_with fail
          refine (HB1.out _).mono ?_
          rintro e w3 ⟨rfl, b3⟩
          obtain ⟨hc3, hf3⟩ := bcell2 b3
          have B3 := up (a := w) (by go_grown) b3
          have z3 := b3.size
          try simp only [World.size_alloc, World.size_setCell] at z3
          have s30 : w.heap.size < w3.heap.size := by omega
          have s31 : w.heap.size + 1 < w3.heap.size := by omega
          have s32 : w.heap.size + 2 < w3.heap.size := by omega
          go_wp2_with fail
          refine (HB2.out _).mono ?_
          rintro e w4 ⟨rfl, b4⟩
          obtain ⟨hc4, hf4⟩ := bcell2 b4
          have B4 := up (a := w) (by go_grown) b4
          have z4 := b4.size
          try simp only [World.size_alloc, World.size_setCell] at z4
          have s40 : w.heap.size < w4.heap.size := by omega
          have s41 : w.heap.size + 1 < w4.heap.size := by omega
          have s42 : w.heap.size + 2 < w4.heap.size := by omega
          go_wp2_with fail
          refine bodyPost_ret (v := .tuple #[ivV 0 0, .int .i64 5]) (by simp [results, Try.results33, go_sem, hc1, s12, hc2, s22, hc3, s32, hc4]) rfl ⟨rfl, by go_grown⟩
        · rw [if_pos (by omega)]
          rw [decide_eq_false h2] at hb2
          have HB2 := Go.Lib.hid hb2
          clear hb2
          go_enter Try.func33, Try.ntmps33
          go_wp2_with fail
          refine (K1.out _).mono ?_
          rintro e w1 ⟨rfl, b1⟩
          obtain ⟨hc1, hf1⟩ := bcell2 b1
          have B1 := up (a := w) (by go_grown) b1
          have z1 := b1.size
          simp only [World.size_alloc] at z1
          have s10 : w.heap.size < w1.heap.size := by omega
          have s11 : w.heap.size + 1 < w1.heap.size := by omega
          have s12 : w.heap.size + 2 < w1.heap.size := by omega
          have t0 : w.heap.size < w.heap.size + 1 + 1 + 1 := by omega
          have t1 : w.heap.size + 1 < w.heap.size + 1 + 1 + 1 := by omega
          go_wp2_with fail
          refine (K2.out _).mono ?_
          rintro e w2 ⟨rfl, b2⟩
          obtain ⟨hc2, hf2⟩ := bcell2 b2
          have B2 := up (a := w) (by go_grown) b2
          have z2 := b2.size
          try simp only [World.size_alloc, World.size_setCell] at z2
          have s20 : w.heap.size < w2.heap.size := by omega
          have s21 : w.heap.size + 1 < w2.heap.size := by omega
          have s22 : w.heap.size + 2 < w2.heap.size := by omega
          go_wp2_with fail
          refine (HB1.out _).mono ?_
          rintro e w3 ⟨rfl, b3⟩
          obtain ⟨hc3, hf3⟩ := bcell2 b3
          have B3 := up (a := w) (by go_grown) b3
          have z3 := b3.size
          try simp only [World.size_alloc, World.size_setCell] at z3
          have s30 : w.heap.size < w3.heap.size := by omega
          have s31 : w.heap.size + 1 < w3.heap.size := by omega
          have s32 : w.heap.size + 2 < w3.heap.size := by omega
          go_wp2_with fail
          refine (HB2.out _).mono ?_
          rintro e w4 ⟨rfl, b4⟩
          obtain ⟨hc4, hf4⟩ := bcell2 b4
          have B4 := up (a := w) (by go_grown) b4
          have z4 := b4.size
          try simp only [World.size_alloc, World.size_setCell] at z4
          have s40 : w.heap.size < w4.heap.size := by omega
          have s41 : w.heap.size + 1 < w4.heap.size := by omega
          have s42 : w.heap.size + 2 < w4.heap.size := by omega
          go_wp2_with fail
          all_goals first | (exfalso; omega) | (refine bodyPost_ret (v := .tuple #[ivV (max a c) (min b d), .int .i64 0]) (by simp [results, Try.results33, go_sem, hc1, s12, hc2, s22, hc3, s32, hc4] <;> omega) rfl ⟨rfl, by go_grown⟩)

def lessB (a b c d : Int) : Bool := vldB a b && vldB c d && decide (b < c)
def lessC (a b c d : Int) : Int := if vldB a b = true ∧ vldB c d = true then 0 else 1
def NewLess (w : World) (p : Bool) (c : Int) (e : Ending) (w' : World) : Prop := e = .returned (.tuple #[.bool p, .int .i64 c]) ∧ Below w.heap.size w w'
theorem implLess (a b c d : Int) (w : World) : Calls Try.prog 37 #[ivV a b, ivV c d] w (NewLess w (lessB a b c d) (lessC a b c d)) := by
  have k1 := isValid a b
  have k2 := isValid c d
  unfold lessB lessC
  cases hv : vldB a b
  · rw [if_neg (by simp)]
    rw [hv] at k1
    have K1 := Go.Lib.hid k1
    clear k1 k2 hv
    go_enter Try.func37, Try.ntmps37
    go_wp2_with fail
    refine (K1.out _).mono ?_
    rintro e w1 ⟨rfl, b1⟩
    obtain ⟨hc1, hf1⟩ := bcell2 b1
    have B1 := up (a := w) (by go_grown) b1
    have z1 := b1.size
    simp only [World.size_alloc] at z1
    have s10 : w.heap.size < w1.heap.size := by omega
    have s11 : w.heap.size + 1 < w1.heap.size := by omega
    have t0 : w.heap.size < w.heap.size + 1 + 1 := by omega
    go_wp2_with fail
    go_ret2
    exact ⟨rfl, by go_grown⟩
  · rw [hv] at k1
    cases hu : vldB c d
    · rw [if_neg (by simp)]
      rw [hu] at k2
      have K1 := Go.Lib.hid k1
      have K2 := Go.Lib.hid k2
      clear k1 k2 hv hu
      go_enter Try.func37, Try.ntmps37
      go_wp2_with fail
      refine (K1.out _).mono ?_
      rintro e w1 ⟨rfl, b1⟩
      obtain ⟨hc1, hf1⟩ := bcell2 b1
      have B1 := up (a := w) (by go_grown) b1
      have z1 := b1.size
      simp only [World.size_alloc] at z1
      have s10 : w.heap.size < w1.heap.size := by omega
      have s11 : w.heap.size + 1 < w1.heap.size := by omega
      have t0 : w.heap.size < w.heap.size + 1 + 1 := by omega
      go_wp2_with fail
      refine (K2.out _).mono ?_
      rintro e w2 ⟨rfl, b2⟩
      obtain ⟨hc2, hf2⟩ := bcell2 b2
      have B2 := up (a := w) (by go_grown) b2
      have z2 := b2.size
      try simp only [World.size_alloc, World.size_setCell] at z2
      have s20 : w.heap.size < w2.heap.size := by omega
      have s21 : w.heap.size + 1 < w2.heap.size := by omega
      go_wp2_with fail
      go_ret2
      exact ⟨rfl, by go_grown⟩
    · rw [if_pos ⟨rfl, rfl⟩, Bool.true_and, Bool.true_and]
      rw [hu] at k2
      have K1 := Go.Lib.hid k1
      have K2 := Go.Lib.hid k2
      have HB := Go.Lib.hid (isBelow a b c d)
      generalize decide (b < c) = q at HB ⊢
      clear k1 k2 hv hu
      go_enter Try.func37, Try.ntmps37
      go_wp2_with fail
      refine (K1.out _).mono ?_
      rintro e w1 ⟨rfl, b1⟩
      obtain ⟨hc1, hf1⟩ := bcell2 b1
      have B1 := up (a := w) (by go_grown) b1
      have z1 := b1.size
      simp only [World.size_alloc] at z1
      have s10 : w.heap.size < w1.heap.size := by omega
      have s11 : w.heap.size + 1 < w1.heap.size := by omega
      have t0 : w.heap.size < w.heap.size + 1 + 1 := by omega
      go_wp2_with fail
      refine (K2.out _).mono ?_
      rintro e w2 ⟨rfl, b2⟩
      obtain ⟨hc2, hf2⟩ := bcell2 b2
      have B2 := up (a := w) (by go_grown) b2
      have z2 := b2.size
      try simp only [World.size_alloc, World.size_setCell] at z2
      have s20 : w.heap.size < w2.heap.size := by omega
      have s21 : w.heap.size + 1 < w2.heap.size := by omega
      go_wp2_with fail
      refine (HB.out _).mono ?_
      rintro e w3 ⟨rfl, b3⟩
      obtain ⟨hc3, hf3⟩ := bcell2 b3
      have B3 := up (a := w) (by go_grown) b3
      have z3 := b3.size
      try simp only [World.size_alloc, World.size_setCell] at z3
      have s30 : w.heap.size < w3.heap.size := by omega
      have s31 : w.heap.size + 1 < w3.heap.size := by omega
      go_wp2_with fail
      go_ret2
      exact ⟨rfl, by go_grown⟩

theorem specLess (a b c d : Int) (w : World) : Calls Try.prog 38 #[ivV a b, ivV c d] w (NewLess w (lessB a b c d) (lessC a b c d)) := by
  have k1 := specIsInterval a b
  have k2 := specIsInterval c d
  unfold lessB lessC
  cases hv : vldB a b
  · rw [if_neg (by simp)]
    rw [hv] at k1
    have K1 := Go.Lib.hid k1
    clear k1 k2 hv
    go_enter Try.func38, Try.ntmps38
    go_wp2_with fail
    refine (K1.out _).mono ?_
    rintro e w1 ⟨rfl, b1⟩
    obtain ⟨hc1, hf1⟩ := bcell2 b1
    have B1 := up (a := w) (by go_grown) b1
    have z1 := b1.size
    simp only [World.size_alloc] at z1
    have s10 : w.heap.size < w1.heap.size := by omega
    have s11 : w.heap.size + 1 < w1.heap.size := by omega
    have t0 : w.heap.size < w.heap.size + 1 + 1 := by omega
    go_wp2_with fail
    go_ret2
    exact ⟨rfl, by go_grown⟩
  · rw [hv] at k1
    cases hu : vldB c d
    · rw [if_neg (by simp)]
      rw [hu] at k2
      have K1 := Go.Lib.hid k1
      have K2 := Go.Lib.hid k2
      clear k1 k2 hv hu
      go_enter Try.func38, Try.ntmps38
      go_wp2_with fail
      refine (K1.out _).mono ?_
      rintro e w1 ⟨rfl, b1⟩
      obtain ⟨hc1, hf1⟩ := bcell2 b1
      have B1 := up (a := w) (by go_grown) b1
      have z1 := b1.size
      simp only [World.size_alloc] at z1
      have s10 : w.heap.size < w1.heap.size := by omega
      have s11 : w.heap.size + 1 < w1.heap.size := by omega
      have t0 : w.heap.size < w.heap.size + 1 + 1 := by omega
      go_wp2_with fail
      refine (K2.out _).mono ?_
      rintro e w2 ⟨rfl, b2⟩
      obtain ⟨hc2, hf2⟩ := bcell2 b2
      have B2 := up (a := w) (by go_grown) b2
      have z2 := b2.size
      try simp only [World.size_alloc, World.size_setCell] at z2
      have s20 : w.heap.size < w2.heap.size := by omega
      have s21 : w.heap.size + 1 < w2.heap.size := by omega
      go_wp2_with fail
      go_ret2
      exact ⟨rfl, by go_grown⟩
    · rw [if_pos ⟨rfl, rfl⟩, Bool.true_and, Bool.true_and]
      rw [hu] at k2
      have K1 := Go.Lib.hid k1
      have K2 := Go.Lib.hid k2
      clear k1 k2 hv hu
      go_enter Try.func38, Try.ntmps38
      go_wp2_with fail
      refine (K1.out _).mono ?_
      rintro e w1 ⟨rfl, b1⟩
      obtain ⟨hc1, hf1⟩ := bcell2 b1
      have B1 := up (a := w) (by go_grown) b1
      have z1 := b1.size
      simp only [World.size_alloc] at z1
      have s10 : w.heap.size < w1.heap.size := by omega
      have s11 : w.heap.size + 1 < w1.heap.size := by omega
      have t0 : w.heap.size < w.heap.size + 1 + 1 := by omega
      go_wp2_with fail
      refine (K2.out _).mono ?_
      rintro e w2 ⟨rfl, b2⟩
      obtain ⟨hc2, hf2⟩ := bcell2 b2
      have B2 := up (a := w) (by go_grown) b2
      have z2 := b2.size
      try simp only [World.size_alloc, World.size_setCell] at z2
      have s20 : w.heap.size < w2.heap.size := by omega
      have s21 : w.heap.size + 1 < w2.heap.size := by omega
      go_wp2_with fail
      go_ret2
      exact ⟨rfl, by go_grown⟩

end Go.Proofs.Ytcknknicknolaaa
