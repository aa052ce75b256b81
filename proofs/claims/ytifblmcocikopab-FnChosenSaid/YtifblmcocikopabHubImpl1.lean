/- The program's side of chapter 4. -/
import Derived.Test.YtifblmcocikopabHubS2
import Derived.Test.YtifblmcocikopabHubSmall
namespace Go.Proofs.Ytifblmcocikopab
open Go.RowKit
section
end

theorem implRimValid (r : Rm) (w : World) : Calls Try.prog 62 #[rimV r] w (IsB w (rimB r)) := by
  unfold rimB
  have H0 := Go.Lib.hid (fun w0 => implHoles r.n w0)
  have H1 := Go.Lib.hid (fun w0 => implInN r.d 2000 7000 w0)
  have H2 := Go.Lib.hid (fun w0 => implInN r.o (-100) 100 w0)
  generalize holesB r.n = q0 at H0 ⊢
  generalize inB r.d 2000 7000 = q1 at H1 ⊢
  generalize inB r.o (-100) 100 = q2 at H2 ⊢
  cases q0
  · skip
    go_enter Try.func62, Try.ntmps62
    go_wp2_with fail
    refine (H0.out _).mono ?_
    rintro _ _ ⟨rfl, rfl⟩
    go_wp2_with fail
    go_ret
    exact ⟨rfl, by go_grown⟩
  · skip
    cases q1
    · skip
      go_enter Try.func62, Try.ntmps62
      go_wp2_with fail
      refine (H0.out _).mono ?_
      rintro _ _ ⟨rfl, rfl⟩
      go_wp2_with fail
      refine (H1.out _).mono ?_
      rintro _ _ ⟨rfl, rfl⟩
      go_wp2_with fail
      go_ret
      exact ⟨rfl, by go_grown⟩
    · skip
      go_enter Try.func62, Try.ntmps62
      go_wp2_with fail
      refine (H0.out _).mono ?_
      rintro _ _ ⟨rfl, rfl⟩
      go_wp2_with fail
      refine (H1.out _).mono ?_
      rintro _ _ ⟨rfl, rfl⟩
      go_wp2_with fail
      refine (H2.out _).mono ?_
      rintro _ _ ⟨rfl, rfl⟩
      go_wp2_with fail
      go_ret
      exact ⟨rfl, by go_grown⟩
theorem implWithHub (wh : Wh) (w : World) : Calls Try.prog 50 #[wheelV wh] w (IsV w (wheelV wh)) := by
  go_enter Try.func50, Try.ntmps50
  go_wp2_with fail
  refine bodyPost_ret (v := wheelV wh) (by simp [results, Try.results50, go_sem]) rfl ⟨rfl, by go_grown⟩
end Go.Proofs.Ytifblmcocikopab
