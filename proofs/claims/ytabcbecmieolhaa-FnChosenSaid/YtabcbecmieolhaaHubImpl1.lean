/- The program's side of chapter 4. -/
import Derived.Test.YtabcbecmieolhaaHubS2
import Derived.Test.YtabcbecmieolhaaHubSmall
namespace Go.Proofs.Ytabcbecmieolhaa
open Go.RowKit

theorem implRimValid (r : Rm) (w : World) : Calls Try.prog 90 #[rimV r] w (IsB w (rimB r)) := by
  unfold rimB
  have H0 := Go.Lib.hid (fun w0 => implHoles r.n w0)
  have H1 := Go.Lib.hid (fun w0 => implInN r.d 2000 7000 w0)
  have H2 := Go.Lib.hid (fun w0 => implInN r.o (-100) 100 w0)
  generalize holesB r.n = q0 at H0 ⊢
  generalize inB r.d 2000 7000 = q1 at H1 ⊢
  generalize inB r.o (-100) 100 = q2 at H2 ⊢
  cases q0
  · skip
    go_enter Try.func90, Try.ntmps90
    go_wp2_with fail
    refine (H0.out _).mono ?_
    rintro _ _ ⟨rfl, rfl⟩
    go_wp2_with fail
    go_ret
    exact ⟨rfl, by go_grown⟩
  · skip
    cases q1
    · skip
      go_enter Try.func90, Try.ntmps90
      go_wp2_with fail
      refine (H0.out _).mono ?_
      rintro _ _ ⟨rfl, rfl⟩
      go_wp2_with fail
      refine (H1.out _).mono ?_
      rintro _ _ ⟨rfl, rfl⟩
      go_wp2_with fail
      go_ret
      exact ⟨rfl, by go_grown⟩
    · skip
      go_enter Try.func90, Try.ntmps90
      go_wp2_with fail
      refine (H0.out _).mono ?_
      rintro _ _ ⟨rfl, rfl⟩
      go_wp2_with fail
      refine (H1.out _).mono ?_
      rintro _ _ ⟨rfl, rfl⟩
      go_wp2_with fail
      refine (H2.out _).mono ?_
      rintro _ _ ⟨rfl, rfl⟩
      go_wp2_with fail
      go_ret
      exact ⟨rfl, by go_grown⟩
theorem implWithHub (wh : Wh) (w : World) : Calls Try.prog 56 #[wheelV wh] w (IsV w (wheelV wh)) := by
  go_enter Try.func56, Try.ntmps56
  go_wp2_with fail
  refine bodyPost_ret (v := wheelV wh) (by simp [results, Try.results56, go_sem]) rfl ⟨rfl, by go_grown⟩
theorem implMirror (h : Hb) (w : World) : Calls Try.prog 58 #[hubV h] w (IsV w (hubV (mirrH h))) := by
  go_enter Try.func58, Try.ntmps58
  go_wp2_with fail
  refine bodyPost_ret (v := hubV (mirrH h)) (by simp [results, Try.results58, go_sem, mirrH]) rfl ⟨rfl, by go_grown⟩
end Go.Proofs.Ytabcbecmieolhaa
