/- Contracts of the listed functions of chapter 2 (second half). -/
import Derived.Test.YtcknknicknolaaaIv4
namespace Go.Proofs.Ytcknknicknolaaa
open Go.RowKit

set_option maxHeartbeats 4000000 in
theorem specMeet (a b c d : Int) (w : World) : Calls Try.prog 34 #[ivV a b, ivV c d] w (NewR w (meetIv a b c d)) := by
  have k1 := specIsInterval a b
  have k2 := specIsInterval c d
  unfold meetIv
  cases hv : vldB a b
  · rw [if_neg (by simp)]
    rw [hv] at k1
    have K1 := Go.Lib.hid k1
    clear k1 k2 hv
    go_enter Try.func34, Try.ntmps34
    go_wp2_with fail
    refine (K1.out _).mono ?_
    rintro e w1 ⟨rfl, b1⟩
    obtain ⟨hc1, hf1⟩ := bcell2 b1
    have B1 := up (a := w) (by go_grown) b1
    have z1 := b1.size
    simp only [World.size_alloc] at z1
    have s10 : w.heap.size < w1.heap.size := by omega
    have s11 : w.heap.size + 1 < w1.heap.size := by omega
    have s12 : w.heap.size + 2 < w1.heap.size := by omega
    have t0 : w.heap.size < w.heap.size + 1 + 1 + 1 := by omega
    have t1 : w.heap.size + 1 < w.heap.size + 1 + 1 + 1 := by omega
    go_wp2_with fail
    refine bodyPost_ret (v := .tuple #[ivV 0 0, .int .i64 1]) (by simp [results, Try.results34, go_sem, hc1]) rfl ⟨rfl, by go_grown⟩
  · rw [hv] at k1
    cases hu : vldB c d
    · rw [if_neg (by simp)]
      rw [hu] at k2
      have K1 := Go.Lib.hid k1
      have K2 := Go.Lib.hid k2
      clear k1 k2 hv hu
      go_enter Try.func34, Try.ntmps34
      go_wp2_with fail
      refine (K1.out _).mono ?_
      rintro e w1 ⟨rfl, b1⟩
      obtain ⟨hc1, hf1⟩ := bcell2 b1
      have B1 := up (a := w) (by go_grown) b1
      have z1 := b1.size
      simp only [World.size_alloc] at z1
      have s10 : w.heap.size < w1.heap.size := by omega
      have s11 : w.heap.size + 1 < w1.heap.size := by omega
      have s12 : w.heap.size + 2 < w1.heap.size := by omega
      have t0 : w.heap.size < w.heap.size + 1 + 1 + 1 := by omega
      have t1 : w.heap.size + 1 < w.heap.size + 1 + 1 + 1 := by omega
      go_wp2_with fail
      refine (K2.out _).mono ?_
      rintro e w2 ⟨rfl, b2⟩
      obtain ⟨hc2, hf2⟩ := bcell2 b2
      have B2 := up (a := w) (by go_grown) b2
      have z2 := b2.size
      try simp only [World.size_alloc, World.size_setCell] at z2
      have s20 : w.heap.size < w2.heap.size := by omega
      have s21 : w.heap.size + 1 < w2.heap.size := by omega
      have s22 : w.heap.size + 2 < w2.heap.size := by omega
      go_wp2_with fail
      refine bodyPost_ret (v := .tuple #[ivV 0 0, .int .i64 1]) (by simp [results, Try.results34, go_sem, hc1, s12, hc2]) rfl ⟨rfl, by go_grown⟩
    · rw [if_pos ⟨rfl, rfl⟩]
      obtain ⟨a1, a2, a3⟩ := vldB_of hv
      obtain ⟨c1, c2, c3⟩ := vldB_of hu
      rw [hu] at k2
      have K1 := Go.Lib.hid k1
      have K2 := Go.Lib.hid k2
      clear k1 k2 hv hu
      by_cases h1 : a < c
      · by_cases h2 : d < b
        · rw [if_pos (by omega), show max a c = c by omega, show min b d = d by omega]
          go_enter Try.func34, Try.ntmps34
          go_wp2_with fail
          refine (K1.out _).mono ?_
          rintro e w1 ⟨rfl, b1⟩
          obtain ⟨hc1, hf1⟩ := bcell2 b1
          have B1 := up (a := w) (by go_grown) b1
          have z1 := b1.size
          simp only [World.size_alloc] at z1
          have s10 : w.heap.size < w1.heap.size := by omega
          have s11 : w.heap.size + 1 < w1.heap.size := by omega
          have s12 : w.heap.size + 2 < w1.heap.size := by omega
          have t0 : w.heap.size < w.heap.size + 1 + 1 + 1 := by omega
          have t1 : w.heap.size + 1 < w.heap.size + 1 + 1 + 1 := by omega
          go_wp2_with fail
          refine (K2.out _).mono ?_
          rintro e w2 ⟨rfl, b2⟩
          obtain ⟨hc2, hf2⟩ := bcell2 b2
          have B2 := up (a := w) (by go_grown) b2
          have z2 := b2.size
          try simp only [World.size_alloc, World.size_setCell] at z2
          have s20 : w.heap.size < w2.heap.size := by omega
          have s21 : w.heap.size + 1 < w2.heap.size := by omega
          have s22 : w.heap.size + 2 < w2.heap.size := by omega
          go_wp2_with fail
          go_quiet (fail)
          have D2 := below_drewN B2 nq
          have dc : ∀ q o, q < w.heap.size + 1 + 1 + 1 → (w2.drewN nq).cell? ⟨q, o, none⟩ = ((((w.alloc (.cells #[.int .i64 a, .int .i64 b] 25)).alloc (.cells #[.int .i64 c, .int .i64 d] 25)).alloc (.cells #[.int .i64 0, .int .i64 0] 25))).cell? ⟨q, o, none⟩ := fun q o h => (hc2 q o (Nat.lt_of_lt_of_le h z1)).trans (hc1 q o (by simpa using h))
          have df : ∀ q o, q < w.heap.size + 1 + 1 + 1 → (w2.drewN nq).frozen? ⟨q, o, none⟩ = ((((w.alloc (.cells #[.int .i64 a, .int .i64 b] 25)).alloc (.cells #[.int .i64 c, .int .i64 d] 25)).alloc (.cells #[.int .i64 0, .int .i64 0] 25))).frozen? ⟨q, o, none⟩ := fun q o h => (hf2 q o (Nat.lt_of_lt_of_le h z1)).trans (hf1 q o (by simpa using h))
          have ds : (w2.drewN nq).heap.size = w2.heap.size := rfl
          rw [← ds] at s20 s21 s22
          clear hc1 hc2 hf1 hf2 ds
          generalize w2.drewN nq = w3 at D2 dc df s20 s21 s22 ⊢
          clear b1 b2 B1 B2 z1 z2
          go_wp2_with fail
          refine bodyPost_ret (v := .tuple #[ivV c d, .int .i64 0]) (by simp [results, Try.results34, go_sem, dc]) rfl ⟨rfl, by go_grown⟩
        · by_cases hle : b < c
          · rw [if_neg (by omega)]
            go_enter Try.func34, Try.ntmps34
            go_wp2_with fail
            refine (K1.out _).mono ?_
            rintro e w1 ⟨rfl, b1⟩
            obtain ⟨hc1, hf1⟩ := bcell2 b1
            have B1 := up (a := w) (by go_grown) b1
            have z1 := b1.size
            simp only [World.size_alloc] at z1
            have s10 : w.heap.size < w1.heap.size := by omega
            have s11 : w.heap.size + 1 < w1.heap.size := by omega
            have s12 : w.heap.size + 2 < w1.heap.size := by omega
            have t0 : w.heap.size < w.heap.size + 1 + 1 + 1 := by omega
            have t1 : w.heap.size + 1 < w.heap.size + 1 + 1 + 1 := by omega
            go_wp2_with fail
            refine (K2.out _).mono ?_
            rintro e w2 ⟨rfl, b2⟩
            obtain ⟨hc2, hf2⟩ := bcell2 b2
            have B2 := up (a := w) (by go_grown) b2
            have z2 := b2.size
            try simp only [World.size_alloc, World.size_setCell] at z2
            have s20 : w.heap.size < w2.heap.size := by omega
            have s21 : w.heap.size + 1 < w2.heap.size := by omega
            have s22 : w.heap.size + 2 < w2.heap.size := by omega
            go_wp2_with fail
            go_quiet (fail)
            have D2 := below_drewN B2 nq
            have dc : ∀ q o, q < w.heap.size + 1 + 1 + 1 → (w2.drewN nq).cell? ⟨q, o, none⟩ = ((((w.alloc (.cells #[.int .i64 a, .int .i64 b] 25)).alloc (.cells #[.int .i64 c, .int .i64 d] 25)).alloc (.cells #[.int .i64 0, .int .i64 0] 25))).cell? ⟨q, o, none⟩ := fun q o h => (hc2 q o (Nat.lt_of_lt_of_le h z1)).trans (hc1 q o (by simpa using h))
            have df : ∀ q o, q < w.heap.size + 1 + 1 + 1 → (w2.drewN nq).frozen? ⟨q, o, none⟩ = ((((w.alloc (.cells #[.int .i64 a, .int .i64 b] 25)).alloc (.cells #[.int .i64 c, .int .i64 d] 25)).alloc (.cells #[.int .i64 0, .int .i64 0] 25))).frozen? ⟨q, o, none⟩ := fun q o h => (hf2 q o (Nat.lt_of_lt_of_le h z1)).trans (hf1 q o (by simpa using h))
            have ds : (w2.drewN nq).heap.size = w2.heap.size := rfl
            rw [← ds] at s20 s21 s22
            clear hc1 hc2 hf1 hf2 ds
            generalize w2.drewN nq = w3 at D2 dc df s20 s21 s22 ⊢
            clear b1 b2 B1 B2 z1 z2
            go_wp2_with fail
            refine bodyPost_ret (v := .tuple #[ivV 0 0, .int .i64 5]) (by simp [results, Try.results34, go_sem, dc]) rfl ⟨rfl, by go_grown⟩
          · rw [if_pos (by omega), show max a c = c by omega, show min b d = b by omega]
            go_enter Try.func34, Try.ntmps34
            go_wp2_with fail
            refine (K1.out _).mono ?_
            rintro e w1 ⟨rfl, b1⟩
            obtain ⟨hc1, hf1⟩ := bcell2 b1
            have B1 := up (a := w) (by go_grown) b1
            have z1 := b1.size
            simp only [World.size_alloc] at z1
            have s10 : w.heap.size < w1.heap.size := by omega
            have s11 : w.heap.size + 1 < w1.heap.size := by omega
            have s12 : w.heap.size + 2 < w1.heap.size := by omega
            have t0 : w.heap.size < w.heap.size + 1 + 1 + 1 := by omega
            have t1 : w.heap.size + 1 < w.heap.size + 1 + 1 + 1 := by omega
            go_wp2_with fail
            refine (K2.out _).mono ?_
            rintro e w2 ⟨rfl, b2⟩
            obtain ⟨hc2, hf2⟩ := bcell2 b2
            have B2 := up (a := w) (by go_grown) b2
            have z2 := b2.size
            try simp only [World.size_alloc, World.size_setCell] at z2
            have s20 : w.heap.size < w2.heap.size := by omega
            have s21 : w.heap.size + 1 < w2.heap.size := by omega
            have s22 : w.heap.size + 2 < w2.heap.size := by omega
            go_wp2_with fail
            go_quiet (fail)
            have D2 := below_drewN B2 nq
            have dc : ∀ q o, q < w.heap.size + 1 + 1 + 1 → (w2.drewN nq).cell? ⟨q, o, none⟩ = ((((w.alloc (.cells #[.int .i64 a, .int .i64 b] 25)).alloc (.cells #[.int .i64 c, .int .i64 d] 25)).alloc (.cells #[.int .i64 0, .int .i64 0] 25))).cell? ⟨q, o, none⟩ := fun q o h => (hc2 q o (Nat.lt_of_lt_of_le h z1)).trans (hc1 q o (by simpa using h))
            have df : ∀ q o, q < w.heap.size + 1 + 1 + 1 → (w2.drewN nq).frozen? ⟨q, o, none⟩ = ((((w.alloc (.cells #[.int .i64 a, .int .i64 b] 25)).alloc (.cells #[.int .i64 c, .int .i64 d] 25)).alloc (.cells #[.int .i64 0, .int .i64 0] 25))).frozen? ⟨q, o, none⟩ := fun q o h => (hf2 q o (Nat.lt_of_lt_of_le h z1)).trans (hf1 q o (by simpa using h))
            have ds : (w2.drewN nq).heap.size = w2.heap.size := rfl
            rw [← ds] at s20 s21 s22
            clear hc1 hc2 hf1 hf2 ds
            generalize w2.drewN nq = w3 at D2 dc df s20 s21 s22 ⊢
            clear b1 b2 B1 B2 z1 z2
            go_wp2_with fail
            refine bodyPost_ret (v := .tuple #[ivV c b, .int .i64 0]) (by simp [results, Try.results34, go_sem, dc]) rfl ⟨rfl, by go_grown⟩
      · by_cases h2 : d < b
        · by_cases hle : d < a
          · rw [if_neg (by omega)]
            go_enter Try.func34, Try.ntmps34
            go_wp2_with fail
            refine (K1.out _).mono ?_
            rintro e w1 ⟨rfl, b1⟩
            obtain ⟨hc1, hf1⟩ := bcell2 b1
            have B1 := up (a := w) (by go_grown) b1
            have z1 := b1.size
            simp only [World.size_alloc] at z1
            have s10 : w.heap.size < w1.heap.size := by omega
            have s11 : w.heap.size + 1 < w1.heap.size := by omega
            have s12 : w.heap.size + 2 < w1.heap.size := by omega
            have t0 : w.heap.size < w.heap.size + 1 + 1 + 1 := by omega
            have t1 : w.heap.size + 1 < w.heap.size + 1 + 1 + 1 := by omega
            go_wp2_with fail
            refine (K2.out _).mono ?_
            rintro e w2 ⟨rfl, b2⟩
            obtain ⟨hc2, hf2⟩ := bcell2 b2
            have B2 := up (a := w) (by go_grown) b2
            have z2 := b2.size
            try simp only [World.size_alloc, World.size_setCell] at z2
            have s20 : w.heap.size < w2.heap.size := by omega
            have s21 : w.heap.size + 1 < w2.heap.size := by omega
            have s22 : w.heap.size + 2 < w2.heap.size := by omega
            go_wp2_with fail
            go_quiet (fail)
            have D2 := below_drewN B2 nq
            have dc : ∀ q o, q < w.heap.size + 1 + 1 + 1 → (w2.drewN nq).cell? ⟨q, o, none⟩ = ((((w.alloc (.cells #[.int .i64 a, .int .i64 b] 25)).alloc (.cells #[.int .i64 c, .int .i64 d] 25)).alloc (.cells #[.int .i64 0, .int .i64 0] 25))).cell? ⟨q, o, none⟩ := fun q o h => (hc2 q o (Nat.lt_of_lt_of_le h z1)).trans (hc1 q o (by simpa using h))
            have df : ∀ q o, q < w.heap.size + 1 + 1 + 1 → (w2.drewN nq).frozen? ⟨q, o, none⟩ = ((((w.alloc (.cells #[.int .i64 a, .int .i64 b] 25)).alloc (.cells #[.int .i64 c, .int .i64 d] 25)).alloc (.cells #[.int .i64 0, .int .i64 0] 25))).frozen? ⟨q, o, none⟩ := fun q o h => (hf2 q o (Nat.lt_of_lt_of_le h z1)).trans (hf1 q o (by simpa using h))
            have ds : (w2.drewN nq).heap.size = w2.heap.size := rfl
            rw [← ds] at s20 s21 s22
            clear hc1 hc2 hf1 hf2 ds
            generalize w2.drewN nq = w3 at D2 dc df s20 s21 s22 ⊢
            clear b1 b2 B1 B2 z1 z2
            go_wp2_with fail
            refine bodyPost_ret (v := .tuple #[ivV 0 0, .int .i64 5]) (by simp [results, Try.results34, go_sem, dc]) rfl ⟨rfl, by go_grown⟩
          · rw [if_pos (by omega), show max a c = a by omega, show min b d = d by omega]
            go_enter Try.func34, Try.ntmps34
            go_wp2_with fail
            refine (K1.out _).mono ?_
            rintro e w1 ⟨rfl, b1⟩
            obtain ⟨hc1, hf1⟩ := bcell2 b1
            have B1 := up (a := w) (by go_grown) b1
            have z1 := b1.size
            simp only [World.size_alloc] at z1
            have s10 : w.heap.size < w1.heap.size := by omega
            have s11 : w.heap.size + 1 < w1.heap.size := by omega
            have s12 : w.heap.size + 2 < w1.heap.size := by omega
            have t0 : w.heap.size < w.heap.size + 1 + 1 + 1 := by omega
            have t1 : w.heap.size + 1 < w.heap.size + 1 + 1 + 1 := by omega
            go_wp2_with fail
            refine (K2.out _).mono ?_
            rintro e w2 ⟨rfl, b2⟩
            obtain ⟨hc2, hf2⟩ := bcell2 b2
            have B2 := up (a := w) (by go_grown) b2
            have z2 := b2.size
            try simp only [World.size_alloc, World.size_setCell] at z2
            have s20 : w.heap.size < w2.heap.size := by omega
            have s21 : w.heap.size + 1 < w2.heap.size := by omega
            have s22 : w.heap.size + 2 < w2.heap.size := by omega
            go_wp2_with fail
            go_quiet (fail)
            have D2 := below_drewN B2 nq
            have dc : ∀ q o, q < w.heap.size + 1 + 1 + 1 → (w2.drewN nq).cell? ⟨q, o, none⟩ = ((((w.alloc (.cells #[.int .i64 a, .int .i64 b] 25)).alloc (.cells #[.int .i64 c, .int .i64 d] 25)).alloc (.cells #[.int .i64 0, .int .i64 0] 25))).cell? ⟨q, o, none⟩ := fun q o h => (hc2 q o (Nat.lt_of_lt_of_le h z1)).trans (hc1 q o (by simpa using h))
            have df : ∀ q o, q < w.heap.size + 1 + 1 + 1 → (w2.drewN nq).frozen? ⟨q, o, none⟩ = ((((w.alloc (.cells #[.int .i64 a, .int .i64 b] 25)).alloc (.cells #[.int .i64 c, .int .i64 d] 25)).alloc (.cells #[.int .i64 0, .int .i64 0] 25))).frozen? ⟨q, o, none⟩ := fun q o h => (hf2 q o (Nat.lt_of_lt_of_le h z1)).trans (hf1 q o (by simpa using h))
            have ds : (w2.drewN nq).heap.size = w2.heap.size := rfl
            rw [← ds] at s20 s21 s22
            clear hc1 hc2 hf1 hf2 ds
            generalize w2.drewN nq = w3 at D2 dc df s20 s21 s22 ⊢
            clear b1 b2 B1 B2 z1 z2
            go_wp2_with fail
            refine bodyPost_ret (v := .tuple #[ivV a d, .int .i64 0]) (by simp [results, Try.results34, go_sem, dc]) rfl ⟨rfl, by go_grown⟩
        · rw [if_pos (by omega), show max a c = a by omega, show min b d = b by omega]
          go_enter Try.func34, Try.ntmps34
          go_wp2_with fail
          refine (K1.out _).mono ?_
          rintro e w1 ⟨rfl, b1⟩
          obtain ⟨hc1, hf1⟩ := bcell2 b1
          have B1 := up (a := w) (by go_grown) b1
          have z1 := b1.size
          simp only [World.size_alloc] at z1
          have s10 : w.heap.size < w1.heap.size := by omega
          have s11 : w.heap.size + 1 < w1.heap.size := by omega
          have s12 : w.heap.size + 2 < w1.heap.size := by omega
          have t0 : w.heap.size < w.heap.size + 1 + 1 + 1 := by omega
          have t1 : w.heap.size + 1 < w.heap.size + 1 + 1 + 1 := by omega
          go_wp2_with fail
          refine (K2.out _).mono ?_
          rintro e w2 ⟨rfl, b2⟩
          obtain ⟨hc2, hf2⟩ := bcell2 b2
          have B2 := up (a := w) (by go_grown) b2
          have z2 := b2.size
          try simp only [World.size_alloc, World.size_setCell] at z2
          have s20 : w.heap.size < w2.heap.size := by omega
          have s21 : w.heap.size + 1 < w2.heap.size := by omega
          have s22 : w.heap.size + 2 < w2.heap.size := by omega
          go_wp2_with fail
          go_quiet (fail)
          have D2 := below_drewN B2 nq
          have dc : ∀ q o, q < w.heap.size + 1 + 1 + 1 → (w2.drewN nq).cell? ⟨q, o, none⟩ = ((((w.alloc (.cells #[.int .i64 a, .int .i64 b] 25)).alloc (.cells #[.int .i64 c, .int .i64 d] 25)).alloc (.cells #[.int .i64 0, .int .i64 0] 25))).cell? ⟨q, o, none⟩ := fun q o h => (hc2 q o (Nat.lt_of_lt_of_le h z1)).trans (hc1 q o (by simpa using h))
          have df : ∀ q o, q < w.heap.size + 1 + 1 + 1 → (w2.drewN nq).frozen? ⟨q, o, none⟩ = ((((w.alloc (.cells #[.int .i64 a, .int .i64 b] 25)).alloc (.cells #[.int .i64 c, .int .i64 d] 25)).alloc (.cells #[.int .i64 0, .int .i64 0] 25))).frozen? ⟨q, o, none⟩ := fun q o h => (hf2 q o (Nat.lt_of_lt_of_le h z1)).trans (hf1 q o (by simpa using h))
          have ds : (w2.drewN nq).heap.size = w2.heap.size := rfl
          rw [← ds] at s20 s21 s22
          clear hc1 hc2 hf1 hf2 ds
          generalize w2.drewN nq = w3 at D2 dc df s20 s21 s22 ⊢
          clear b1 b2 B1 B2 z1 z2
          go_wp2_with fail
          refine bodyPost_ret (v := .tuple #[ivV a b, .int .i64 0]) (by simp [results, Try.results34, go_sem, dc]) rfl ⟨rfl, by go_grown⟩

end Go.Proofs.Ytcknknicknolaaa
