/- The draw of a rim. -/
import Derived.Test.YtifblmcocikopabDrawHub2
namespace Go.Proofs.Ytifblmcocikopab
open Go.RowKit

set_option maxRecDepth 100000 in
set_option maxHeartbeats 4000000 in
theorem drawRim (g : Nat) (A : Option Addr) (n cap : Nat) (bs : List Int) (w : World) (h : Src w g A n cap bs) (hol : Int) : Calls Try.prog 57 #[.pointer (some ⟨g, 0, none⟩), .int .i64 hol] w (RimEnd w g A n cap bs) := by
  have HN := Go.Lib.hid (fun m w' h' => next g A n cap bs m w' h')
  go_enter Try.func57, Try.ntmps57
  go_wp2_with fail
  have hg := h.lt
  have X0 : Box (w.alloc (.cells #[.int .i64 0, .int .i64 0, .int .i64 0] 32)) w.heap.size [.int .i64 0, .int .i64 0, .int .i64 0] := Box.new rfl rfl
  have S0 := h.below ((Below.refl w.heap.size w).alloc (Nat.le_refl _) (.cells #[.int .i64 0, .int .i64 0, .int .i64 0] 32))
  have K0 := keepAlloc w g (.cells #[.int .i64 0, .int .i64 0, .int .i64 0] 32)
  have q0 : (w.alloc (.cells #[.int .i64 0, .int .i64 0, .int .i64 0] 32)).heap.size = w.heap.size + 1 := by simp
  generalize w.alloc (.cells #[.int .i64 0, .int .i64 0, .int .i64 0] 32) = W0 at X0 S0 K0 q0 ⊢
  refine (HN.out 1700 W0 S0).mono ?_
  rintro _ W1 ⟨r1, rfl, l1, u1, S1, k1⟩
  have K1 := K0.trans k1
  have X1 := X0.keep k1 (.inr (by omega))
  clear k1 K0 S0 X0
  go_wp2_with fail
  refine (HN.out 61 W1 S1).mono ?_
  rintro _ W2 ⟨r2, rfl, l2, u2, S2, k2⟩
  have K2 := K1.trans k2
  have X2 := X1.keep k2 (.inr (by omega))
  clear k2 K1 S1 X1
  go_wp2_with fail
  refine (pickAt g A n cap bs W2 S2 rfl [0, 0, r2 - 30] 3 rfl (by omega) (by omega) (fun x => -1000 ≤ x ∧ x ≤ 1000) (fun x hx => by
    simp only [List.mem_cons, List.not_mem_nil, or_false] at hx
    omega) rfl).mono ?_
  rintro _ W3 ⟨x3, rfl, hx3, S3, k3⟩
  have K3 := K2.trans k3
  have X3 := X2.keep k3 (.inr (by omega))
  clear k3 K2 S2 X2
  obtain ⟨hx0, hx1⟩ := hx3
  have c0 := X3.at_ 0 _ rfl
  have c1 := X3.at_ 1 _ rfl
  have c2 := X3.at_ 2 _ rfl
  have cf := X3.fr
  have cl := X3.lt
  go_upto_region 2 with fail
  refine wp_gen (R := fun w' => Box w' w.heap.size [.int .i64 0, .int .i64 0, .int .i64 0] ∧ Box w' W3.heap.size [.int .i64 hol, .int .i64 ((4500 + r1)), .int .i64 x3] ∧ Src w' g A n cap bs ∧ Keep g (g + 1) w w') ⟨X3.alloc _, Box.new rfl rfl, S3.below ((Below.refl _ _).alloc (Nat.le_refl _) _), K3.trans (keepAlloc _ _ _)⟩ ?_
  rintro W4 ⟨X4, Y4, S4, K4⟩
  have hlt : w.heap.size < W3.heap.size := cl
  clear S3 K3 X3 cf cl c0 c1 c2
  go_wp2_with fail
  refine (HN.out 30 W4 S4).mono ?_
  rintro _ W5 ⟨r5, rfl, l5, u5, S5, k5⟩
  have K5 := K4.trans k5
  have X5 := X4.keep k5 (.inr (by omega))
  have Y5 := Y4.keep k5 (.inr (by omega))
  clear k5 K4 S4 X4 Y4
  by_cases v0 : r5 = 0
  · subst v0
    go_wp2_with fail
    refine (pickAt g A n cap bs W5 S5 rfl [1999, 2000, 7000, 7001] 4 rfl (by omega) (by omega) (fun x => -1000 ≤ x ∧ x ≤ 10000) (fun x hx => by
    simp only [List.mem_cons, List.not_mem_nil, or_false] at hx
    omega) rfl).mono ?_
    rintro _ W6 ⟨y, rfl, hy, S6, k6⟩
    have K6 := K5.trans k6
    have X6 := X5.keep k6 (.inr (by omega))
    have Y6 := Y5.keep k6 (.inr (by omega))
    clear k6 K5 S5 X5 Y5
    have e0 := Y6.at_ 0 _ rfl
    have e1 := Y6.at_ 1 _ rfl
    have e2 := Y6.at_ 2 _ rfl
    have ef := Y6.fr
    have el := Y6.lt
    go_upto_region 9 with fail
    refine wp_gen (R := fun w' => Box w' w.heap.size [.int .i64 0, .int .i64 0, .int .i64 0] ∧ Box w' W3.heap.size [.int .i64 hol, .int .i64 y, .int .i64 x3] ∧ Src w' g A n cap bs ∧ Keep g (g + 1) w w') ⟨X6.other (by simp <;> omega) _, Y6.set _ (by simp), S6.other (by simp <;> omega) _, K6.setNew (by simp <;> omega) _⟩ ?_
    rintro W7 ⟨X7, Y7, S7, K7⟩
    clear S6 K6 X6 Y6 ef el e0 e1 e2
    have c0 := X7.at_ 0 _ rfl
    have c1 := X7.at_ 1 _ rfl
    have c2 := X7.at_ 2 _ rfl
    have cf := X7.fr
    have cl := X7.lt
    have e0 := Y7.at_ 0 _ rfl
    have e1 := Y7.at_ 1 _ rfl
    have e2 := Y7.at_ 2 _ rfl
    have ef := Y7.fr
    have el := Y7.lt
    go_wp2_with fail
    refine bodyPost_ret (v := rimV ⟨hol, y, x3⟩) (by simp [results, Try.results57, go_sem, c0, c1, c2, cf]) rfl ⟨⟨hol, y, x3⟩, rfl, ((S7.other (by simp <;> omega) _).other (by simp <;> omega) _).other (by simp <;> omega) _, ((K7.setNew (by simp) _).setNew (by simp) _).setNew (by simp) _⟩
  · by_cases v1 : r5 = 1
    · subst v1
      go_wp2_with fail
      refine (pickAt g A n cap bs W5 S5 rfl [-101, -100, 100, 101] 4 rfl (by omega) (by omega) (fun x => -1000 ≤ x ∧ x ≤ 10000) (fun x hx => by
    simp only [List.mem_cons, List.not_mem_nil, or_false] at hx
    omega) rfl).mono ?_
      rintro _ W6 ⟨y, rfl, hy, S6, k6⟩
      have K6 := K5.trans k6
      have X6 := X5.keep k6 (.inr (by omega))
      have Y6 := Y5.keep k6 (.inr (by omega))
      clear k6 K5 S5 X5 Y5
      have e0 := Y6.at_ 0 _ rfl
      have e1 := Y6.at_ 1 _ rfl
      have e2 := Y6.at_ 2 _ rfl
      have ef := Y6.fr
      have el := Y6.lt
      go_upto_region 9 with fail
      refine wp_gen (R := fun w' => Box w' w.heap.size [.int .i64 0, .int .i64 0, .int .i64 0] ∧ Box w' W3.heap.size [.int .i64 hol, .int .i64 ((4500 + r1)), .int .i64 y] ∧ Src w' g A n cap bs ∧ Keep g (g + 1) w w') ⟨X6.other (by simp <;> omega) _, Y6.set _ (by simp), S6.other (by simp <;> omega) _, K6.setNew (by simp <;> omega) _⟩ ?_
      rintro W7 ⟨X7, Y7, S7, K7⟩
      clear S6 K6 X6 Y6 ef el e0 e1 e2
      have c0 := X7.at_ 0 _ rfl
      have c1 := X7.at_ 1 _ rfl
      have c2 := X7.at_ 2 _ rfl
      have cf := X7.fr
      have cl := X7.lt
      have e0 := Y7.at_ 0 _ rfl
      have e1 := Y7.at_ 1 _ rfl
      have e2 := Y7.at_ 2 _ rfl
      have ef := Y7.fr
      have el := Y7.lt
      go_wp2_with fail
      refine bodyPost_ret (v := rimV ⟨hol, (4500 + r1), y⟩) (by simp [results, Try.results57, go_sem, c0, c1, c2, cf]) rfl ⟨⟨hol, (4500 + r1), y⟩, rfl, ((S7.other (by simp <;> omega) _).other (by simp <;> omega) _).other (by simp <;> omega) _, ((K7.setNew (by simp) _).setNew (by simp) _).setNew (by simp) _⟩
    · by_cases v2 : r5 = 2
      · subst v2
        go_wp2_with fail
        refine (pickAt g A n cap bs W5 S5 rfl [28, 36] 2 rfl (by omega) (by omega) (fun x => -1000 ≤ x ∧ x ≤ 10000) (fun x hx => by
    simp only [List.mem_cons, List.not_mem_nil, or_false] at hx
    omega) rfl).mono ?_
        rintro _ W6 ⟨y, rfl, hy, S6, k6⟩
        have K6 := K5.trans k6
        have X6 := X5.keep k6 (.inr (by omega))
        have Y6 := Y5.keep k6 (.inr (by omega))
        clear k6 K5 S5 X5 Y5
        have e0 := Y6.at_ 0 _ rfl
        have e1 := Y6.at_ 1 _ rfl
        have e2 := Y6.at_ 2 _ rfl
        have ef := Y6.fr
        have el := Y6.lt
        go_upto_region 9 with fail
        refine wp_gen (R := fun w' => Box w' w.heap.size [.int .i64 0, .int .i64 0, .int .i64 0] ∧ Box w' W3.heap.size [.int .i64 y, .int .i64 ((4500 + r1)), .int .i64 x3] ∧ Src w' g A n cap bs ∧ Keep g (g + 1) w w') ⟨X6.other (by simp <;> omega) _, Y6.set _ (by simp), S6.other (by simp <;> omega) _, K6.setNew (by simp <;> omega) _⟩ ?_
        rintro W7 ⟨X7, Y7, S7, K7⟩
        clear S6 K6 X6 Y6 ef el e0 e1 e2
        have c0 := X7.at_ 0 _ rfl
        have c1 := X7.at_ 1 _ rfl
        have c2 := X7.at_ 2 _ rfl
        have cf := X7.fr
        have cl := X7.lt
        have e0 := Y7.at_ 0 _ rfl
        have e1 := Y7.at_ 1 _ rfl
        have e2 := Y7.at_ 2 _ rfl
        have ef := Y7.fr
        have el := Y7.lt
        go_wp2_with fail
        refine bodyPost_ret (v := rimV ⟨y, (4500 + r1), x3⟩) (by simp [results, Try.results57, go_sem, c0, c1, c2, cf]) rfl ⟨⟨y, (4500 + r1), x3⟩, rfl, ((S7.other (by simp <;> omega) _).other (by simp <;> omega) _).other (by simp <;> omega) _, ((K7.setNew (by simp) _).setNew (by simp) _).setNew (by simp) _⟩
      · have a0 : (r5 == 0) = false := by simpa using v0
        have a1 : (r5 == 1) = false := by simpa using v1
        have a2 : (r5 == 2) = false := by simpa using v2
        have c0 := X5.at_ 0 _ rfl
        have c1 := X5.at_ 1 _ rfl
        have c2 := X5.at_ 2 _ rfl
        have cf := X5.fr
        have cl := X5.lt
        have e0 := Y5.at_ 0 _ rfl
        have e1 := Y5.at_ 1 _ rfl
        have e2 := Y5.at_ 2 _ rfl
        have ef := Y5.fr
        have el := Y5.lt
        go_wp2_with fail
        refine bodyPost_ret (v := rimV ⟨hol, (4500 + r1), x3⟩) (by simp [results, Try.results57, go_sem, c0, c1, c2, cf]) rfl ⟨⟨hol, (4500 + r1), x3⟩, rfl, ((S5.other (by simp <;> omega) _).other (by simp <;> omega) _).other (by simp <;> omega) _, ((K5.setNew (by simp) _).setNew (by simp) _).setNew (by simp) _⟩
end Go.Proofs.Ytifblmcocikopab
