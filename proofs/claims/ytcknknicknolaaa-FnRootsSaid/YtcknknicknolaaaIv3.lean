/- Contracts of the listed functions of chapter 2 but RootInterval and the texts, in both programs. -/
import Derived.Test.YtcknknicknolaaaIv2
namespace Go.Proofs.Ytcknknicknolaaa
open Go.RowKit

theorem implAdd (a b c d : Int) (w : World) : Calls Try.prog 16 #[ivV a b, ivV c d] w (NewR w (addIv a b c d)) := by
  have k1 := isValid a b
  have k2 := isValid c d
  unfold addIv
  cases hv : vldB a b
  · rw [if_neg (by simp)]
    rw [hv] at k1
    have K1 := Go.Lib.hid k1
    clear k1 k2 hv
    go_enter Try.func16, Try.ntmps16
    go_wp2_with fail
    refine (K1.out _).mono ?_
    rintro e w1 ⟨rfl, b1⟩
    obtain ⟨hc1, hf1⟩ := bcell2 b1
    have B1 := up (a := w) (by go_grown) b1
    have z1 := b1.size
    simp only [World.size_alloc] at z1
    have s10 : w.heap.size < w1.heap.size := by omega
    have s11 : w.heap.size + 1 < w1.heap.size := by omega
    have s12 : w.heap.size + 2 < w1.heap.size := by omega
    have t0 : w.heap.size < w.heap.size + 1 + 1 + 1 := by omega
    have t1 : w.heap.size + 1 < w.heap.size + 1 + 1 + 1 := by omega
    go_wp2_with fail
    refine bodyPost_ret (v := .tuple #[ivV 0 0, .int .i64 1]) (by simp [results, Try.results16, go_sem, hc1]) rfl ⟨rfl, by go_grown⟩
  · rw [hv] at k1
    cases hu : vldB c d
    · rw [if_neg (by simp)]
      rw [hu] at k2
      have K1 := Go.Lib.hid k1
      have K2 := Go.Lib.hid k2
      clear k1 k2 hv hu
      go_enter Try.func16, Try.ntmps16
      go_wp2_with fail
      refine (K1.out _).mono ?_
      rintro e w1 ⟨rfl, b1⟩
      obtain ⟨hc1, hf1⟩ := bcell2 b1
      have B1 := up (a := w) (by go_grown) b1
      have z1 := b1.size
      simp only [World.size_alloc] at z1
      have s10 : w.heap.size < w1.heap.size := by omega
      have s11 : w.heap.size + 1 < w1.heap.size := by omega
      have s12 : w.heap.size + 2 < w1.heap.size := by omega
      have t0 : w.heap.size < w.heap.size + 1 + 1 + 1 := by omega
      have t1 : w.heap.size + 1 < w.heap.size + 1 + 1 + 1 := by omega
      go_wp2_with fail
      refine (K2.out _).mono ?_
      rintro e w2 ⟨rfl, b2⟩
      obtain ⟨hc2, hf2⟩ := bcell2 b2
      have B2 := up (a := w) (by go_grown) b2
      have z2 := b2.size
      try simp only [World.size_alloc, World.size_setCell] at z2
      have s20 : w.heap.size < w2.heap.size := by omega
      have s21 : w.heap.size + 1 < w2.heap.size := by omega
      have s22 : w.heap.size + 2 < w2.heap.size := by omega
      go_wp2_with fail
      refine bodyPost_ret (v := .tuple #[ivV 0 0, .int .i64 1]) (by simp [results, Try.results16, go_sem, hc1, s12, hc2]) rfl ⟨rfl, by go_grown⟩
    · rw [if_pos ⟨rfl, rfl⟩]
      obtain ⟨a1, a2, a3⟩ := vldB_of hv
      obtain ⟨c1, c2, c3⟩ := vldB_of hu
      rw [hu] at k2
      have K1 := Go.Lib.hid k1
      have K2 := Go.Lib.hid k2
      clear k1 k2 hv hu
      have HP := Go.Lib.hid (fun w0 => plus a b c d w0 a1 a2 a3 c1 c2 c3)
      have HL := Go.Lib.hid (limited (a + c) (b + d))
      generalize limIv (a + c) (b + d) = r at HL ⊢
      obtain ⟨x, y, z⟩ := r
      go_enter Try.func16, Try.ntmps16
      go_wp2_with fail
      refine (K1.out _).mono ?_
      rintro e w1 ⟨rfl, b1⟩
      obtain ⟨hc1, hf1⟩ := bcell2 b1
      have B1 := up (a := w) (by go_grown) b1
      have z1 := b1.size
      simp only [World.size_alloc] at z1
      have s10 : w.heap.size < w1.heap.size := by omega
      have s11 : w.heap.size + 1 < w1.heap.size := by omega
      have s12 : w.heap.size + 2 < w1.heap.size := by omega
      have t0 : w.heap.size < w.heap.size + 1 + 1 + 1 := by omega
      have t1 : w.heap.size + 1 < w.heap.size + 1 + 1 + 1 := by omega
      go_wp2_with fail
      refine (K2.out _).mono ?_
      rintro e w2 ⟨rfl, b2⟩
      obtain ⟨hc2, hf2⟩ := bcell2 b2
      have B2 := up (a := w) (by go_grown) b2
      have z2 := b2.size
      try simp only [World.size_alloc, World.size_setCell] at z2
      have s20 : w.heap.size < w2.heap.size := by omega
      have s21 : w.heap.size + 1 < w2.heap.size := by omega
      have s22 : w.heap.size + 2 < w2.heap.size := by omega
      go_wp2_with fail
      refine (HP.out _).mono ?_
      rintro e w3 ⟨rfl, b3⟩
      obtain ⟨hc3, hf3⟩ := bcell2 b3
      have B3 := up (a := w) (by go_grown) b3
      have z3 := b3.size
      try simp only [World.size_alloc, World.size_setCell] at z3
      have s30 : w.heap.size < w3.heap.size := by omega
      have s31 : w.heap.size + 1 < w3.heap.size := by omega
      have s32 : w.heap.size + 2 < w3.heap.size := by omega
      go_wp2_with fail
      refine (HL.out _).mono ?_
      rintro e w4 ⟨rfl, b4⟩
      obtain ⟨hc4, hf4⟩ := bcell2 b4
      have B4 := up (a := w) (by go_grown) b4
      have z4 := b4.size
      try simp only [World.size_alloc, World.size_setCell] at z4
      have s40 : w.heap.size < w4.heap.size := by omega
      have s41 : w.heap.size + 1 < w4.heap.size := by omega
      have s42 : w.heap.size + 2 < w4.heap.size := by omega
      go_wp2_with fail
      refine bodyPost_ret (v := .tuple #[ivV x y, .int .i64 z]) (by simp [results, Try.results16, go_sem, hc1, s12, hc2, s22, hc3, s32, hc4]) rfl ⟨rfl, by go_grown⟩

theorem specAdd (a b c d : Int) (w : World) : Calls Try.prog 17 #[ivV a b, ivV c d] w (NewR w (addIv a b c d)) := by
  have k1 := specIsInterval a b
  have k2 := specIsInterval c d
  unfold addIv
  cases hv : vldB a b
  · rw [if_neg (by simp)]
    rw [hv] at k1
    have K1 := Go.Lib.hid k1
    clear k1 k2 hv
    go_enter Try.func17, Try.ntmps17
    go_wp2_with fail
    refine (K1.out _).mono ?_
    rintro e w1 ⟨rfl, b1⟩
    obtain ⟨hc1, hf1⟩ := bcell2 b1
    have B1 := up (a := w) (by go_grown) b1
    have z1 := b1.size
    simp only [World.size_alloc] at z1
    have s10 : w.heap.size < w1.heap.size := by omega
    have s11 : w.heap.size + 1 < w1.heap.size := by omega
    have s12 : w.heap.size + 2 < w1.heap.size := by omega
    have t0 : w.heap.size < w.heap.size + 1 + 1 + 1 := by omega
    have t1 : w.heap.size + 1 < w.heap.size + 1 + 1 + 1 := by omega
    go_wp2_with fail
    refine bodyPost_ret (v := .tuple #[ivV 0 0, .int .i64 1]) (by simp [results, Try.results17, go_sem, hc1]) rfl ⟨rfl, by go_grown⟩
  · rw [hv] at k1
    cases hu : vldB c d
    · rw [if_neg (by simp)]
      rw [hu] at k2
      have K1 := Go.Lib.hid k1
      have K2 := Go.Lib.hid k2
      clear k1 k2 hv hu
      go_enter Try.func17, Try.ntmps17
      go_wp2_with fail
      refine (K1.out _).mono ?_
      rintro e w1 ⟨rfl, b1⟩
      obtain ⟨hc1, hf1⟩ := bcell2 b1
      have B1 := up (a := w) (by go_grown) b1
      have z1 := b1.size
      simp only [World.size_alloc] at z1
      have s10 : w.heap.size < w1.heap.size := by omega
      have s11 : w.heap.size + 1 < w1.heap.size := by omega
      have s12 : w.heap.size + 2 < w1.heap.size := by omega
      have t0 : w.heap.size < w.heap.size + 1 + 1 + 1 := by omega
      have t1 : w.heap.size + 1 < w.heap.size + 1 + 1 + 1 := by omega
      go_wp2_with fail
      refine (K2.out _).mono ?_
      rintro e w2 ⟨rfl, b2⟩
      obtain ⟨hc2, hf2⟩ := bcell2 b2
      have B2 := up (a := w) (by go_grown) b2
      have z2 := b2.size
      try simp only [World.size_alloc, World.size_setCell] at z2
      have s20 : w.heap.size < w2.heap.size := by omega
      have s21 : w.heap.size + 1 < w2.heap.size := by omega
      have s22 : w.heap.size + 2 < w2.heap.size := by omega
      go_wp2_with fail
      refine bodyPost_ret (v := .tuple #[ivV 0 0, .int .i64 1]) (by simp [results, Try.results17, go_sem, hc1, s12, hc2]) rfl ⟨rfl, by go_grown⟩
    · rw [if_pos ⟨rfl, rfl⟩]
      obtain ⟨a1, a2, a3⟩ := vldB_of hv
      obtain ⟨c1, c2, c3⟩ := vldB_of hu
      rw [hu] at k2
      have K1 := Go.Lib.hid k1
      have K2 := Go.Lib.hid k2
      clear k1 k2 hv hu
      have HL := Go.Lib.hid (specResult (a + c) (b + d))
      generalize limIv (a + c) (b + d) = r at HL ⊢
      obtain ⟨x, y, z⟩ := r
      go_enter Try.func17, Try.ntmps17
      go_wp2_with fail
      refine (K1.out _).mono ?_
      rintro e w1 ⟨rfl, b1⟩
      obtain ⟨hc1, hf1⟩ := bcell2 b1
      have B1 := up (a := w) (by go_grown) b1
      have z1 := b1.size
      simp only [World.size_alloc] at z1
      have s10 : w.heap.size < w1.heap.size := by omega
      have s11 : w.heap.size + 1 < w1.heap.size := by omega
      have s12 : w.heap.size + 2 < w1.heap.size := by omega
      have t0 : w.heap.size < w.heap.size + 1 + 1 + 1 := by omega
      have t1 : w.heap.size + 1 < w.heap.size + 1 + 1 + 1 := by omega
      go_wp2_with fail
      refine (K2.out _).mono ?_
      rintro e w2 ⟨rfl, b2⟩
      obtain ⟨hc2, hf2⟩ := bcell2 b2
      have B2 := up (a := w) (by go_grown) b2
      have z2 := b2.size
      try simp only [World.size_alloc, World.size_setCell] at z2
      have s20 : w.heap.size < w2.heap.size := by omega
      have s21 : w.heap.size + 1 < w2.heap.size := by omega
      have s22 : w.heap.size + 2 < w2.heap.size := by omega
      go_wp2_with fail
      refine (HL.out _).mono ?_
      rintro e w3 ⟨rfl, b3⟩
      obtain ⟨hc3, hf3⟩ := bcell2 b3
      have B3 := up (a := w) (by go_grown) b3
      have z3 := b3.size
      try simp only [World.size_alloc, World.size_setCell] at z3
      have s30 : w.heap.size < w3.heap.size := by omega
      have s31 : w.heap.size + 1 < w3.heap.size := by omega
      have s32 : w.heap.size + 2 < w3.heap.size := by omega
      go_wp2_with fail
      refine bodyPost_ret (v := .tuple #[ivV x y, .int .i64 z]) (by simp [results, Try.results17, go_sem, hc1, s12, hc2, s22, hc3]) rfl ⟨rfl, by go_grown⟩

theorem implHull (a b c d : Int) (w : World) : Calls Try.prog 35 #[ivV a b, ivV c d] w (NewR w (hullIv a b c d)) := by
  have k1 := isValid a b
  have k2 := isValid c d
  unfold hullIv
  cases hv : vldB a b
  · rw [if_neg (by simp)]
    rw [hv] at k1
    have K1 := Go.Lib.hid k1
    clear k1 k2 hv
    go_enter Try.func35, Try.ntmps35
    go_wp2_with fail
    refine (K1.out _).mono ?_
    rintro e w1 ⟨rfl, b1⟩
    obtain ⟨hc1, hf1⟩ := bcell2 b1
    have B1 := up (a := w) (by go_grown) b1
    have z1 := b1.size
    simp only [World.size_alloc] at z1
    have s10 : w.heap.size < w1.heap.size := by omega
    have s11 : w.heap.size + 1 < w1.heap.size := by omega
    have s12 : w.heap.size + 2 < w1.heap.size := by omega
    have t0 : w.heap.size < w.heap.size + 1 + 1 + 1 := by omega
    have t1 : w.heap.size + 1 < w.heap.size + 1 + 1 + 1 := by omega
    go_wp2_with fail
    refine bodyPost_ret (v := .tuple #[ivV 0 0, .int .i64 1]) (by simp [results, Try.results35, go_sem, hc1]) rfl ⟨rfl, by go_grown⟩
  · rw [hv] at k1
    cases hu : vldB c d
    · rw [if_neg (by simp)]
      rw [hu] at k2
      have K1 := Go.Lib.hid k1
      have K2 := Go.Lib.hid k2
      clear k1 k2 hv hu
      go_enter Try.func35, Try.ntmps35
      go_wp2_with fail
      refine (K1.out _).mono ?_
      rintro e w1 ⟨rfl, b1⟩
      obtain ⟨hc1, hf1⟩ := bcell2 b1
      have B1 := up (a := w) (by go_grown) b1
      have z1 := b1.size
      simp only [World.size_alloc] at z1
      have s10 : w.heap.size < w1.heap.size := by omega
      have s11 : w.heap.size + 1 < w1.heap.size := by omega
      have s12 : w.heap.size + 2 < w1.heap.size := by omega
      have t0 : w.heap.size < w.heap.size + 1 + 1 + 1 := by omega
      have t1 : w.heap.size + 1 < w.heap.size + 1 + 1 + 1 := by omega
      go_wp2_with fail
      refine (K2.out _).mono ?_
      rintro e w2 ⟨rfl, b2⟩
      obtain ⟨hc2, hf2⟩ := bcell2 b2
      have B2 := up (a := w) (by go_grown) b2
      have z2 := b2.size
      try simp only [World.size_alloc, World.size_setCell] at z2
      have s20 : w.heap.size < w2.heap.size := by omega
      have s21 : w.heap.size + 1 < w2.heap.size := by omega
      have s22 : w.heap.size + 2 < w2.heap.size := by omega
      go_wp2_with fail
      refine bodyPost_ret (v := .tuple #[ivV 0 0, .int .i64 1]) (by simp [results, Try.results35, go_sem, hc1, s12, hc2]) rfl ⟨rfl, by go_grown⟩
    · rw [if_pos ⟨rfl, rfl⟩]
      obtain ⟨a1, a2, a3⟩ := vldB_of hv
      obtain ⟨c1, c2, c3⟩ := vldB_of hu
      rw [hu] at k2
      have K1 := Go.Lib.hid k1
      have K2 := Go.Lib.hid k2
      clear k1 k2 hv hu
      go_enter Try.func35, Try.ntmps35
      go_wp2_with fail
      refine (K1.out _).mono ?_
      rintro e w1 ⟨rfl, b1⟩
      obtain ⟨hc1, hf1⟩ := bcell2 b1
      have B1 := up (a := w) (by go_grown) b1
      have z1 := b1.size
      simp only [World.size_alloc] at z1
      have s10 : w.heap.size < w1.heap.size := by omega
      have s11 : w.heap.size + 1 < w1.heap.size := by omega
      have s12 : w.heap.size + 2 < w1.heap.size := by omega
      have t0 : w.heap.size < w.heap.size + 1 + 1 + 1 := by omega
      have t1 : w.heap.size + 1 < w.heap.size + 1 + 1 + 1 := by omega
      go_wp2_with fail
      refine (K2.out _).mono ?_
      rintro e w2 ⟨rfl, b2⟩
      obtain ⟨hc2, hf2⟩ := bcell2 b2
      have B2 := up (a := w) (by go_grown) b2
      have z2 := b2.size
      try simp only [World.size_alloc, World.size_setCell] at z2
      have s20 : w.heap.size < w2.heap.size := by omega
      have s21 : w.heap.size + 1 < w2.heap.size := by omega
      have s22 : w.heap.size + 2 < w2.heap.size := by omega
      go_wp2_with fail
      all_goals first | (exfalso; omega) | (refine bodyPost_ret (v := .tuple #[ivV (min a c) (max b d), .int .i64 0]) (by simp [results, Try.results35, go_sem, hc1, s12, hc2] <;> omega) rfl ⟨rfl, by go_grown⟩)

theorem specHull (a b c d : Int) (w : World) : Calls Try.prog 36 #[ivV a b, ivV c d] w (NewR w (hullIv a b c d)) := by
  have k1 := specIsInterval a b
  have k2 := specIsInterval c d
  unfold hullIv
  cases hv : vldB a b
  · rw [if_neg (by simp)]
    rw [hv] at k1
    have K1 := Go.Lib.hid k1
    clear k1 k2 hv
    go_enter Try.func36, Try.ntmps36
    go_wp2_with fail
    refine (K1.out _).mono ?_
    rintro e w1 ⟨rfl, b1⟩
    obtain ⟨hc1, hf1⟩ := bcell2 b1
    have B1 := up (a := w) (by go_grown) b1
    have z1 := b1.size
    simp only [World.size_alloc] at z1
    have s10 : w.heap.size < w1.heap.size := by omega
    have s11 : w.heap.size + 1 < w1.heap.size := by omega
    have s12 : w.heap.size + 2 < w1.heap.size := by omega
    have t0 : w.heap.size < w.heap.size + 1 + 1 + 1 := by omega
    have t1 : w.heap.size + 1 < w.heap.size + 1 + 1 + 1 := by omega
    go_wp2_with fail
    refine bodyPost_ret (v := .tuple #[ivV 0 0, .int .i64 1]) (by simp [results, Try.results36, go_sem, hc1]) rfl ⟨rfl, by go_grown⟩
  · rw [hv] at k1
    cases hu : vldB c d
    · rw [if_neg (by simp)]
      rw [hu] at k2
      have K1 := Go.Lib.hid k1
      have K2 := Go.Lib.hid k2
      clear k1 k2 hv hu
      go_enter Try.func36, Try.ntmps36
      go_wp2_with fail
      refine (K1.out _).mono ?_
      rintro e w1 ⟨rfl, b1⟩
      obtain ⟨hc1, hf1⟩ := bcell2 b1
      have B1 := up (a := w) (by go_grown) b1
      have z1 := b1.size
      simp only [World.size_alloc] at z1
      have s10 : w.heap.size < w1.heap.size := by omega
      have s11 : w.heap.size + 1 < w1.heap.size := by omega
      have s12 : w.heap.size + 2 < w1.heap.size := by omega
      have t0 : w.heap.size < w.heap.size + 1 + 1 + 1 := by omega
      have t1 : w.heap.size + 1 < w.heap.size + 1 + 1 + 1 := by omega
      go_wp2_with fail
      refine (K2.out _).mono ?_
      rintro e w2 ⟨rfl, b2⟩
      obtain ⟨hc2, hf2⟩ := bcell2 b2
      have B2 := up (a := w) (by go_grown) b2
      have z2 := b2.size
      try simp only [World.size_alloc, World.size_setCell] at z2
      have s20 : w.heap.size < w2.heap.size := by omega
      have s21 : w.heap.size + 1 < w2.heap.size := by omega
      have s22 : w.heap.size + 2 < w2.heap.size := by omega
      go_wp2_with fail
      refine bodyPost_ret (v := .tuple #[ivV 0 0, .int .i64 1]) (by simp [results, Try.results36, go_sem, hc1, s12, hc2]) rfl ⟨rfl, by go_grown⟩
    · rw [if_pos ⟨rfl, rfl⟩]
      obtain ⟨a1, a2, a3⟩ := vldB_of hv
      obtain ⟨c1, c2, c3⟩ := vldB_of hu
      rw [hu] at k2
      have K1 := Go.Lib.hid k1
      have K2 := Go.Lib.hid k2
      clear k1 k2 hv hu
      go_enter Try.func36, Try.ntmps36
      go_wp2_with fail
      refine (K1.out _).mono ?_
      rintro e w1 ⟨rfl, b1⟩
      obtain ⟨hc1, hf1⟩ := bcell2 b1
      have B1 := up (a := w) (by go_grown) b1
      have z1 := b1.size
      simp only [World.size_alloc] at z1
      have s10 : w.heap.size < w1.heap.size := by omega
      have s11 : w.heap.size + 1 < w1.heap.size := by omega
      have s12 : w.heap.size + 2 < w1.heap.size := by omega
      have t0 : w.heap.size < w.heap.size + 1 + 1 + 1 := by omega
      have t1 : w.heap.size + 1 < w.heap.size + 1 + 1 + 1 := by omega
      go_wp2_with fail
      refine (K2.out _).mono ?_
      rintro e w2 ⟨rfl, b2⟩
      obtain ⟨hc2, hf2⟩ := bcell2 b2
      have B2 := up (a := w) (by go_grown) b2
      have z2 := b2.size
      try simp only [World.size_alloc, World.size_setCell] at z2
      have s20 : w.heap.size < w2.heap.size := by omega
      have s21 : w.heap.size + 1 < w2.heap.size := by omega
      have s22 : w.heap.size + 2 < w2.heap.size := by omega
      go_wp2_with fail
      all_goals first | (exfalso; omega) | (refine bodyPost_ret (v := .tuple #[ivV (min a c) (max b d), .int .i64 0]) (by simp [results, Try.results36, go_sem, hc1, s12, hc2] <;> omega) rfl ⟨rfl, by go_grown⟩)

theorem implSquare (a b : Int) (w : World) : Calls Try.prog 27 #[ivV a b] w (NewR w (squareIv a b)) := by
  have k1 := isValid a b
  unfold squareIv
  cases hv : vldB a b
  · rw [if_neg (by simp)]
    rw [hv] at k1
    have K1 := Go.Lib.hid k1
    clear k1 hv
    go_enter Try.func27, Try.ntmps27
    go_wp2_with fail
    refine (K1.out _).mono ?_
    rintro e w1 ⟨rfl, b1⟩
    obtain ⟨hc1, hf1⟩ := bcell2 b1
    have B1 := up (a := w) (by go_grown) b1
    have z1 := b1.size
    simp only [World.size_alloc] at z1
    have s10 : w.heap.size < w1.heap.size := by omega
    have s11 : w.heap.size + 1 < w1.heap.size := by omega
    have t0 : w.heap.size < w.heap.size + 1 + 1 := by omega
    go_wp2_with fail
    refine bodyPost_ret (v := .tuple #[ivV 0 0, .int .i64 1]) (by simp [results, Try.results27, go_sem, hc1]) rfl ⟨rfl, by go_grown⟩
  · rw [if_pos rfl]
    obtain ⟨a1, a2, a3⟩ := vldB_of hv
    rw [hv] at k1
    have K1 := Go.Lib.hid k1
    clear k1 hv
    have HP := Go.Lib.hid (fun w0 => square a b w0 a1 a2 a3)
    generalize (if a ≤ 0 ∧ 0 ≤ b then 0 else min (a * a) (b * b)) = L at HP ⊢
    generalize max (a * a) (b * b) = H at HP ⊢
    have HL := Go.Lib.hid (limited L H)
    generalize limIv L H = r at HL ⊢
    obtain ⟨x, y, z⟩ := r
    go_enter Try.func27, Try.ntmps27
    go_wp2_with fail
    refine (K1.out _).mono ?_
    rintro e w1 ⟨rfl, b1⟩
    obtain ⟨hc1, hf1⟩ := bcell2 b1
    have B1 := up (a := w) (by go_grown) b1
    have z1 := b1.size
    simp only [World.size_alloc] at z1
    have s10 : w.heap.size < w1.heap.size := by omega
    have s11 : w.heap.size + 1 < w1.heap.size := by omega
    have t0 : w.heap.size < w.heap.size + 1 + 1 := by omega
    go_wp2_with fail
    refine (HP.out _).mono ?_
    rintro e w2 ⟨rfl, b2⟩
    obtain ⟨hc2, hf2⟩ := bcell2 b2
    have B2 := up (a := w) (by go_grown) b2
    have z2 := b2.size
    try simp only [World.size_alloc, World.size_setCell] at z2
    have s20 : w.heap.size < w2.heap.size := by omega
    have s21 : w.heap.size + 1 < w2.heap.size := by omega
    go_wp2_with fail
    refine (HL.out _).mono ?_
    rintro e w3 ⟨rfl, b3⟩
    obtain ⟨hc3, hf3⟩ := bcell2 b3
    have B3 := up (a := w) (by go_grown) b3
    have z3 := b3.size
    try simp only [World.size_alloc, World.size_setCell] at z3
    have s30 : w.heap.size < w3.heap.size := by omega
    have s31 : w.heap.size + 1 < w3.heap.size := by omega
    go_wp2_with fail
    refine bodyPost_ret (v := .tuple #[ivV x y, .int .i64 z]) (by simp [results, Try.results27, go_sem, hc1, s11, hc2, s21, hc3]) rfl ⟨rfl, by go_grown⟩

theorem implTimes (a b n : Int) (w : World) : Calls Try.prog 19 #[ivV a b, .int .i64 n] w (NewR w (timesIv a b n)) := by
  have k1 := isValid a b
  unfold timesIv
  cases hv : vldB a b
  · rw [if_neg (by simp)]
    rw [hv] at k1
    have K1 := Go.Lib.hid k1
    clear k1 hv
    go_enter Try.func19, Try.ntmps19
    go_wp2_with fail
    refine (K1.out _).mono ?_
    rintro e w1 ⟨rfl, b1⟩
    obtain ⟨hc1, hf1⟩ := bcell2 b1
    have B1 := up (a := w) (by go_grown) b1
    have z1 := b1.size
    simp only [World.size_alloc] at z1
    have s10 : w.heap.size < w1.heap.size := by omega
    have s11 : w.heap.size + 1 < w1.heap.size := by omega
    have t0 : w.heap.size < w.heap.size + 1 + 1 := by omega
    go_wp2_with fail
    refine bodyPost_ret (v := .tuple #[ivV 0 0, .int .i64 1]) (by simp [results, Try.results19, go_sem, hc1]) rfl ⟨rfl, by go_grown⟩
  · rw [if_pos rfl]
    obtain ⟨a1, a2, a3⟩ := vldB_of hv
    rw [hv] at k1
    have K1 := Go.Lib.hid k1
    clear k1 hv
    by_cases hn : -1000000 ≤ n ∧ n ≤ 1000000
    · rw [if_pos hn]
      obtain ⟨n1, n2⟩ := hn
      have HP := Go.Lib.hid (fun w0 => times a b n w0 a1 a2 a3 n1 n2)
      generalize min (a * n) (b * n) = L at HP ⊢
      generalize max (a * n) (b * n) = H at HP ⊢
      have HL := Go.Lib.hid (limited L H)
      generalize limIv L H = r at HL ⊢
      obtain ⟨x, y, z⟩ := r
      go_enter Try.func19, Try.ntmps19
      go_wp2_with fail
      refine (K1.out _).mono ?_
      rintro e w1 ⟨rfl, b1⟩
      obtain ⟨hc1, hf1⟩ := bcell2 b1
      have B1 := up (a := w) (by go_grown) b1
      have z1 := b1.size
      simp only [World.size_alloc] at z1
      have s10 : w.heap.size < w1.heap.size := by omega
      have s11 : w.heap.size + 1 < w1.heap.size := by omega
      have t0 : w.heap.size < w.heap.size + 1 + 1 := by omega
      go_wp2_with fail
      refine (HP.out _).mono ?_
      rintro e w2 ⟨rfl, b2⟩
      obtain ⟨hc2, hf2⟩ := bcell2 b2
      have B2 := up (a := w) (by go_grown) b2
      have z2 := b2.size
      try simp only [World.size_alloc, World.size_setCell] at z2
      have s20 : w.heap.size < w2.heap.size := by omega
      have s21 : w.heap.size + 1 < w2.heap.size := by omega
      go_wp2_with fail
      refine (HL.out _).mono ?_
      rintro e w3 ⟨rfl, b3⟩
      obtain ⟨hc3, hf3⟩ := bcell2 b3
      have B3 := up (a := w) (by go_grown) b3
      have z3 := b3.size
      try simp only [World.size_alloc, World.size_setCell] at z3
      have s30 : w.heap.size < w3.heap.size := by omega
      have s31 : w.heap.size + 1 < w3.heap.size := by omega
      go_wp2_with fail
      refine bodyPost_ret (v := .tuple #[ivV x y, .int .i64 z]) (by simp [results, Try.results19, go_sem, hc1, s11, hc2, s21, hc3]) rfl ⟨rfl, by go_grown⟩
    · rw [if_neg hn]
      by_cases n1 : n < -1000000
      · go_enter Try.func19, Try.ntmps19
        go_wp2_with fail
        refine (K1.out _).mono ?_
        rintro e w1 ⟨rfl, b1⟩
        obtain ⟨hc1, hf1⟩ := bcell2 b1
        have B1 := up (a := w) (by go_grown) b1
        have z1 := b1.size
        simp only [World.size_alloc] at z1
        have s10 : w.heap.size < w1.heap.size := by omega
        have s11 : w.heap.size + 1 < w1.heap.size := by omega
        have t0 : w.heap.size < w.heap.size + 1 + 1 := by omega
        go_wp2_with fail
        refine bodyPost_ret (v := .tuple #[ivV 0 0, .int .i64 2]) (by simp [results, Try.results19, go_sem, hc1]) rfl ⟨rfl, by go_grown⟩
      · have n2 : 1000000 < n := by omega
        go_enter Try.func19, Try.ntmps19
        go_wp2_with fail
        refine (K1.out _).mono ?_
        rintro e w1 ⟨rfl, b1⟩
        obtain ⟨hc1, hf1⟩ := bcell2 b1
        have B1 := up (a := w) (by go_grown) b1
        have z1 := b1.size
        simp only [World.size_alloc] at z1
        have s10 : w.heap.size < w1.heap.size := by omega
        have s11 : w.heap.size + 1 < w1.heap.size := by omega
        have t0 : w.heap.size < w.heap.size + 1 + 1 := by omega
        go_wp2_with fail
        refine bodyPost_ret (v := .tuple #[ivV 0 0, .int .i64 2]) (by simp [results, Try.results19, go_sem, hc1]) rfl ⟨rfl, by go_grown⟩

end Go.Proofs.Ytcknknicknolaaa
