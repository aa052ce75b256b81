/- The draws of hubs, rims and wheels (second part). -/
import Derived.Test.YtifblmcocikopabDrawHub
namespace Go.Proofs.Ytifblmcocikopab
open Go.RowKit

set_option maxRecDepth 100000 in
set_option maxHeartbeats 4000000 in
theorem drawHub (g : Nat) (A : Option Addr) (n cap : Nat) (bs : List Int) (w : World) (h : Src w g A n cap bs) : Calls Try.prog 56 #[.pointer (some ⟨g, 0, none⟩)] w (HubEnd w g A n cap bs NearH) := by
  have HN := Go.Lib.hid (fun m w' h' => next g A n cap bs m w' h')
  go_enter Try.func56, Try.ntmps56
  go_wp2_with fail
  have hg := h.lt
  have X0 : Box (w.alloc (.cells #[.int .i64 0, .int .i64 0, .int .i64 0, .int .i64 0, .int .i64 0] 30)) w.heap.size [.int .i64 0, .int .i64 0, .int .i64 0, .int .i64 0, .int .i64 0] := Box.new rfl rfl
  have S0 := h.below ((Below.refl w.heap.size w).alloc (Nat.le_refl _) (.cells #[.int .i64 0, .int .i64 0, .int .i64 0, .int .i64 0, .int .i64 0] 30))
  have K0 := keepAlloc w g (.cells #[.int .i64 0, .int .i64 0, .int .i64 0, .int .i64 0, .int .i64 0] 30)
  have q0 : (w.alloc (.cells #[.int .i64 0, .int .i64 0, .int .i64 0, .int .i64 0, .int .i64 0] 30)).heap.size = w.heap.size + 1 := by simp
  generalize w.alloc (.cells #[.int .i64 0, .int .i64 0, .int .i64 0, .int .i64 0, .int .i64 0] 30) = W0 at X0 S0 K0 q0 ⊢
  refine (drawHubGood g A n cap bs W0 S0).mono ?_
  rintro _ W1 ⟨h0, rfl, gh, S1, k1⟩
  have K1 := K0.trans k1
  have X1 := X0.keep k1 (.inr (by omega))
  clear k1 K0 S0 X0
  have gn := gh.near
  obtain ⟨gn0, gn1⟩ := gn
  obtain ⟨hn, hl, hr, ha, hb⟩ := h0
  clear gh
  have c0 := X1.at_ 0 _ rfl
  have c1 := X1.at_ 1 _ rfl
  have c2 := X1.at_ 2 _ rfl
  have c3 := X1.at_ 3 _ rfl
  have c4 := X1.at_ 4 _ rfl
  have cf := X1.fr
  have cl := X1.lt
  go_upto_region 2 with fail
  refine wp_gen (R := fun w' => Box w' w.heap.size [.int .i64 0, .int .i64 0, .int .i64 0, .int .i64 0, .int .i64 0] ∧ Box w' W1.heap.size [.int .i64 hn, .int .i64 hl, .int .i64 hr, .int .i64 ha, .int .i64 hb] ∧ Src w' g A n cap bs ∧ Keep g (g + 1) w w') ⟨X1.alloc _, Box.new rfl rfl, S1.below ((Below.refl _ _).alloc (Nat.le_refl _) _), K1.trans (keepAlloc _ _ _)⟩ ?_
  rintro W2 ⟨X2, Y2, S2, K2⟩
  have hlt : w.heap.size < W1.heap.size := cl
  clear S1 K1 X1 cf cl c0 c1 c2 c3 c4
  go_wp2_with fail
  refine (HN.out 30 W2 S2).mono ?_
  rintro _ W3 ⟨r3, rfl, l3, u3, S3, k3⟩
  have K3 := K2.trans k3
  have X3 := X2.keep k3 (.inr (by omega))
  have Y3 := Y2.keep k3 (.inr (by omega))
  clear k3 K2 S2 X2 Y2
  by_cases v0 : r3 = 0
  · subst v0
    go_wp2_with fail
    refine (pickAt g A n cap bs W3 S3 rfl [28, 0, 40, 18] 4 rfl (by omega) (by omega) (fun x => 0 ≤ x ∧ x ≤ 48) (fun x hx => by
    simp only [List.mem_cons, List.not_mem_nil, or_false] at hx
    omega) rfl).mono ?_
    rintro _ W4 ⟨x4, rfl, hx4, S4, k4⟩
    have K4 := K3.trans k4
    have X4 := X3.keep k4 (.inr (by omega))
    have Y4 := Y3.keep k4 (.inr (by omega))
    clear k4 K3 S3 X3 Y3
    have e0 := Y4.at_ 0 _ rfl
    have e1 := Y4.at_ 1 _ rfl
    have e2 := Y4.at_ 2 _ rfl
    have e3 := Y4.at_ 3 _ rfl
    have e4 := Y4.at_ 4 _ rfl
    have ef := Y4.fr
    have el := Y4.lt
    go_upto_region 9 with fail
    refine wp_gen (R := fun w' => Box w' w.heap.size [.int .i64 0, .int .i64 0, .int .i64 0, .int .i64 0, .int .i64 0] ∧ Box w' W1.heap.size [.int .i64 x4, .int .i64 hl, .int .i64 hr, .int .i64 ha, .int .i64 hb] ∧ Src w' g A n cap bs ∧ Keep g (g + 1) w w') ⟨X4.other (by simp <;> omega) _, Y4.set _ (by simp), S4.other (by simp <;> omega) _, K4.setNew (by simp <;> omega) _⟩ ?_
    rintro W5 ⟨X5, Y5, S5, K5⟩
    clear S4 K4 X4 Y4 ef el e0 e1 e2 e3 e4
    have c0 := X5.at_ 0 _ rfl
    have c1 := X5.at_ 1 _ rfl
    have c2 := X5.at_ 2 _ rfl
    have c3 := X5.at_ 3 _ rfl
    have c4 := X5.at_ 4 _ rfl
    have cf := X5.fr
    have cl := X5.lt
    have e0 := Y5.at_ 0 _ rfl
    have e1 := Y5.at_ 1 _ rfl
    have e2 := Y5.at_ 2 _ rfl
    have e3 := Y5.at_ 3 _ rfl
    have e4 := Y5.at_ 4 _ rfl
    have ef := Y5.fr
    have el := Y5.lt
    go_wp2_with fail
    refine bodyPost_ret (v := hubV ⟨x4, hl, hr, ha, hb⟩) (by simp [results, Try.results56, go_sem, c0, c1, c2, c3, c4, cf]) rfl ⟨⟨x4, hl, hr, ha, hb⟩, rfl, ⟨hx4.1, hx4.2⟩, ((((S5.other (by simp <;> omega) _).other (by simp <;> omega) _).other (by simp <;> omega) _).other (by simp <;> omega) _).other (by simp <;> omega) _, ((((K5.setNew (by simp) _).setNew (by simp) _).setNew (by simp) _).setNew (by simp) _).setNew (by simp) _⟩
  · by_cases v1 : r3 = 1
    · subst v1
      go_wp2_with fail
      refine (pickAt g A n cap bs W3 S3 rfl [199, 200, 1200, 1201] 4 rfl (by omega) (by omega) (fun x => 0 ≤ x + 1 ∧ x ≤ 2000) (fun x hx => by
    simp only [List.mem_cons, List.not_mem_nil, or_false] at hx
    omega) rfl).mono ?_
      rintro _ W4 ⟨x4, rfl, hx4, S4, k4⟩
      have K4 := K3.trans k4
      have X4 := X3.keep k4 (.inr (by omega))
      have Y4 := Y3.keep k4 (.inr (by omega))
      clear k4 K3 S3 X3 Y3
      have e0 := Y4.at_ 0 _ rfl
      have e1 := Y4.at_ 1 _ rfl
      have e2 := Y4.at_ 2 _ rfl
      have e3 := Y4.at_ 3 _ rfl
      have e4 := Y4.at_ 4 _ rfl
      have ef := Y4.fr
      have el := Y4.lt
      go_upto_region 9 with fail
      refine wp_gen (R := fun w' => Box w' w.heap.size [.int .i64 0, .int .i64 0, .int .i64 0, .int .i64 0, .int .i64 0] ∧ Box w' W1.heap.size [.int .i64 hn, .int .i64 x4, .int .i64 hr, .int .i64 ha, .int .i64 hb] ∧ Src w' g A n cap bs ∧ Keep g (g + 1) w w') ⟨X4.other (by simp <;> omega) _, Y4.set _ (by simp), S4.other (by simp <;> omega) _, K4.setNew (by simp <;> omega) _⟩ ?_
      rintro W5 ⟨X5, Y5, S5, K5⟩
      clear S4 K4 X4 Y4 ef el e0 e1 e2 e3 e4
      have c0 := X5.at_ 0 _ rfl
      have c1 := X5.at_ 1 _ rfl
      have c2 := X5.at_ 2 _ rfl
      have c3 := X5.at_ 3 _ rfl
      have c4 := X5.at_ 4 _ rfl
      have cf := X5.fr
      have cl := X5.lt
      have e0 := Y5.at_ 0 _ rfl
      have e1 := Y5.at_ 1 _ rfl
      have e2 := Y5.at_ 2 _ rfl
      have e3 := Y5.at_ 3 _ rfl
      have e4 := Y5.at_ 4 _ rfl
      have ef := Y5.fr
      have el := Y5.lt
      go_wp2_with fail
      refine bodyPost_ret (v := hubV ⟨hn, x4, hr, ha, hb⟩) (by simp [results, Try.results56, go_sem, c0, c1, c2, c3, c4, cf]) rfl ⟨⟨hn, x4, hr, ha, hb⟩, rfl, ⟨gn0, gn1⟩, ((((S5.other (by simp <;> omega) _).other (by simp <;> omega) _).other (by simp <;> omega) _).other (by simp <;> omega) _).other (by simp <;> omega) _, ((((K5.setNew (by simp) _).setNew (by simp) _).setNew (by simp) _).setNew (by simp) _).setNew (by simp) _⟩
    · by_cases v2 : r3 = 2
      · subst v2
        go_wp2_with fail
        refine (pickAt g A n cap bs W3 S3 rfl [-1, 0, 500, 501] 4 rfl (by omega) (by omega) (fun x => 0 ≤ x + 1 ∧ x ≤ 2000) (fun x hx => by
    simp only [List.mem_cons, List.not_mem_nil, or_false] at hx
    omega) rfl).mono ?_
        rintro _ W4 ⟨x4, rfl, hx4, S4, k4⟩
        have K4 := K3.trans k4
        have X4 := X3.keep k4 (.inr (by omega))
        have Y4 := Y3.keep k4 (.inr (by omega))
        clear k4 K3 S3 X3 Y3
        have e0 := Y4.at_ 0 _ rfl
        have e1 := Y4.at_ 1 _ rfl
        have e2 := Y4.at_ 2 _ rfl
        have e3 := Y4.at_ 3 _ rfl
        have e4 := Y4.at_ 4 _ rfl
        have ef := Y4.fr
        have el := Y4.lt
        go_upto_region 9 with fail
        refine wp_gen (R := fun w' => Box w' w.heap.size [.int .i64 0, .int .i64 0, .int .i64 0, .int .i64 0, .int .i64 0] ∧ Box w' W1.heap.size [.int .i64 hn, .int .i64 hl, .int .i64 hr, .int .i64 ha, .int .i64 x4] ∧ Src w' g A n cap bs ∧ Keep g (g + 1) w w') ⟨X4.other (by simp <;> omega) _, Y4.set _ (by simp), S4.other (by simp <;> omega) _, K4.setNew (by simp <;> omega) _⟩ ?_
        rintro W5 ⟨X5, Y5, S5, K5⟩
        clear S4 K4 X4 Y4 ef el e0 e1 e2 e3 e4
        have c0 := X5.at_ 0 _ rfl
        have c1 := X5.at_ 1 _ rfl
        have c2 := X5.at_ 2 _ rfl
        have c3 := X5.at_ 3 _ rfl
        have c4 := X5.at_ 4 _ rfl
        have cf := X5.fr
        have cl := X5.lt
        have e0 := Y5.at_ 0 _ rfl
        have e1 := Y5.at_ 1 _ rfl
        have e2 := Y5.at_ 2 _ rfl
        have e3 := Y5.at_ 3 _ rfl
        have e4 := Y5.at_ 4 _ rfl
        have ef := Y5.fr
        have el := Y5.lt
        go_wp2_with fail
        refine bodyPost_ret (v := hubV ⟨hn, hl, hr, ha, x4⟩) (by simp [results, Try.results56, go_sem, c0, c1, c2, c3, c4, cf]) rfl ⟨⟨hn, hl, hr, ha, x4⟩, rfl, ⟨gn0, gn1⟩, ((((S5.other (by simp <;> omega) _).other (by simp <;> omega) _).other (by simp <;> omega) _).other (by simp <;> omega) _).other (by simp <;> omega) _, ((((K5.setNew (by simp) _).setNew (by simp) _).setNew (by simp) _).setNew (by simp) _).setNew (by simp) _⟩
      · have a0 : (r3 == 0) = false := by simpa using v0
        have a1 : (r3 == 1) = false := by simpa using v1
        have a2 : (r3 == 2) = false := by simpa using v2
        have c0 := X3.at_ 0 _ rfl
        have c1 := X3.at_ 1 _ rfl
        have c2 := X3.at_ 2 _ rfl
        have c3 := X3.at_ 3 _ rfl
        have c4 := X3.at_ 4 _ rfl
        have cf := X3.fr
        have cl := X3.lt
        have e0 := Y3.at_ 0 _ rfl
        have e1 := Y3.at_ 1 _ rfl
        have e2 := Y3.at_ 2 _ rfl
        have e3 := Y3.at_ 3 _ rfl
        have e4 := Y3.at_ 4 _ rfl
        have ef := Y3.fr
        have el := Y3.lt
        go_wp2_with fail
        refine bodyPost_ret (v := hubV ⟨hn, hl, hr, ha, hb⟩) (by simp [results, Try.results56, go_sem, c0, c1, c2, c3, c4, cf]) rfl ⟨⟨hn, hl, hr, ha, hb⟩, rfl, ⟨gn0, gn1⟩, ((((S3.other (by simp <;> omega) _).other (by simp <;> omega) _).other (by simp <;> omega) _).other (by simp <;> omega) _).other (by simp <;> omega) _, ((((K3.setNew (by simp) _).setNew (by simp) _).setNew (by simp) _).setNew (by simp) _).setNew (by simp) _⟩
end Go.Proofs.Ytifblmcocikopab
