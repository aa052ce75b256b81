/- The program's side of chapter 4. -/
import Derived.Test.YtcphhcnomaociabHubS4
import Derived.Test.YtcphhcnomaociabHubSmall
namespace Go.Proofs.Ytcphhcnomaociab
open Go.RowKit

theorem implRimValid (r : Rm) (w : World) : Calls Try.prog 49 #[rimV r] w (IsB w (rimB r)) := by
  unfold rimB
  have H0 := Go.Lib.hid (fun w0 => implHoles r.n w0)
  have H1 := Go.Lib.hid (fun w0 => implInN r.d 2000 7000 w0)
  have H2 := Go.Lib.hid (fun w0 => implInN r.o (-100) 100 w0)
  generalize holesB r.n = q0 at H0 ⊢
  generalize inB r.d 2000 7000 = q1 at H1 ⊢
  generalize inB r.o (-100) 100 = q2 at H2 ⊢
  cases q0
  · skip
    go_enter Try.func49, Try.ntmps49
    go_wp2_with fail
    refine (H0.out _).mono ?_
    rintro _ _ ⟨rfl, rfl⟩
    go_wp2_with fail
    go_ret
    exact ⟨rfl, by go_grown⟩
  · skip
    cases q1
    · skip
      go_enter Try.func49, Try.ntmps49
      go_wp2_with fail
      refine (H0.out _).mono ?_
      rintro _ _ ⟨rfl, rfl⟩
      go_wp2_with fail
      refine (H1.out _).mono ?_
      rintro _ _ ⟨rfl, rfl⟩
      go_wp2_with fail
      go_ret
      exact ⟨rfl, by go_grown⟩
    · skip
      go_enter Try.func49, Try.ntmps49
      go_wp2_with fail
      refine (H0.out _).mono ?_
      rintro _ _ ⟨rfl, rfl⟩
      go_wp2_with fail
      refine (H1.out _).mono ?_
      rintro _ _ ⟨rfl, rfl⟩
      go_wp2_with fail
      refine (H2.out _).mono ?_
      rintro _ _ ⟨rfl, rfl⟩
      go_wp2_with fail
      go_ret
      exact ⟨rfl, by go_grown⟩
theorem implIsRim (r : Rm) (w : World) : Calls Try.prog 24 #[rimV r] w (IsB w (rimB r)) := by
  have HH := Go.Lib.hid (fun w0 => implRimValid r w0)
  generalize (rimB r) = q at HH ⊢
  go_enter Try.func24, Try.ntmps24
  go_wp2_with fail
  refine (HH.out _).mono ?_
  rintro _ w1 ⟨rfl, b1⟩
  have B1 := upB (a := w) (by go_grown) b1
  go_wp2_with fail
  go_ret
  exact ⟨rfl, by go_grown⟩
theorem implWithHub (wh : Wh) (w : World) : Calls Try.prog 37 #[wheelV wh] w (IsV w (wheelV wh)) := by
  go_enter Try.func37, Try.ntmps37
  go_wp2_with fail
  refine bodyPost_ret (v := wheelV wh) (by simp [results, Try.results37, go_sem]) rfl ⟨rfl, by go_grown⟩
theorem implMirror (h : Hb) (w : World) : Calls Try.prog 39 #[hubV h] w (IsV w (hubV (mirrH h))) := by
  go_enter Try.func39, Try.ntmps39
  go_wp2_with fail
  refine bodyPost_ret (v := hubV (mirrH h)) (by simp [results, Try.results39, go_sem, mirrH]) rfl ⟨rfl, by go_grown⟩
end Go.Proofs.Ytcphhcnomaociab
