/- The whole draws of chapter 4's plain laws. -/
import Derived.Test.YtcphhcnomaociabDrawHub4
namespace Go.Proofs.Ytcphhcnomaociab
open Go.RowKit

def GotW (w : World) (e : Ending) (w' : World) : Prop := ∃ x : Wh, e = .returned (wheelV x) ∧ Below w.heap.size w w'
def GotH (w : World) (e : Ending) (w' : World) : Prop := ∃ x : Hb, e = .returned (hubV x) ∧ Below w.heap.size w w'
def GotR (w : World) (e : Ending) (w' : World) : Prop := ∃ x : Rm, e = .returned (rimV x) ∧ Below w.heap.size w w'
def GotN (w : World) (e : Ending) (w' : World) : Prop := ∃ x : Int, e = .returned (.int .i64 x) ∧ Below w.heap.size w w'
set_option maxRecDepth 100000 in
set_option maxHeartbeats 4000000 in
theorem drawMirrorWheel (A : Option Addr) (n cap : Nat) (bs : List Int) (w : World) (h : Rd w 0 w.heap.size A n (byts bs)) (hs : ∀ z ∈ bs, 0 ≤ z ∧ z ≤ 255) (hn : n ≤ 140737488355328) : Calls Try.prog 12 #[.slice A n cap] w (GotW w) := by
  go_enter Try.func12, Try.ntmps12
  go_wp2_with fail
  have B0 : Below w.heap.size w (w.alloc (.cells #[.int .i64 0, .int .i64 0, .int .i64 0, .int .i64 0, .int .i64 0, .int .i64 0, .int .i64 0, .int .i64 0, .int .i64 0] 29)) := (Below.refl _ _).alloc (Nat.le_refl _) _
  have X0 : Box (w.alloc (.cells #[.int .i64 0, .int .i64 0, .int .i64 0, .int .i64 0, .int .i64 0, .int .i64 0, .int .i64 0, .int .i64 0, .int .i64 0] 29)) w.heap.size [.int .i64 0, .int .i64 0, .int .i64 0, .int .i64 0, .int .i64 0, .int .i64 0, .int .i64 0, .int .i64 0, .int .i64 0] := Box.new rfl rfl
  generalize w.alloc (.cells #[.int .i64 0, .int .i64 0, .int .i64 0, .int .i64 0, .int .i64 0, .int .i64 0, .int .i64 0, .int .i64 0, .int .i64 0] 29) = W0 at B0 X0 ⊢
  refine (from_ A n cap bs W0 ((h.below B0 (Nat.le_refl _)).mono (Nat.le_refl _) B0.size) hs hn).mono ?_
  rintro _ W1 ⟨g, rfl, hg, S1, b1⟩
  have X1 := X0.below b1
  have B1 := upB B0 b1
  have hl := X0.lt
  clear b1 X0 h hs
  go_wp2_with fail
  refine (drawWheel g A n cap bs W1 S1).mono ?_
  rintro _ W2 ⟨x, rfl, S2, k2⟩
  have X2 := X1.keep k2 (.inl (by omega))
  have B2 := B1.trans (k2.below (by omega) B1.size)
  clear k2 S2 S1 X1 B1
  have c0 := X2.at_ 0 _ rfl
  have c1 := X2.at_ 1 _ rfl
  have c2 := X2.at_ 2 _ rfl
  have c3 := X2.at_ 3 _ rfl
  have c4 := X2.at_ 4 _ rfl
  have c5 := X2.at_ 5 _ rfl
  have c6 := X2.at_ 6 _ rfl
  have c7 := X2.at_ 7 _ rfl
  have c8 := X2.at_ 8 _ rfl
  have cf := X2.fr
  go_wp2_with fail
  refine bodyPost_ret (v := wheelV x) (by simp [results, Try.results12, go_sem, c0, c1, c2, c3, c4, c5, c6, c7, c8, cf]) rfl ⟨x, rfl, by go_grown⟩
set_option maxRecDepth 100000 in
set_option maxHeartbeats 4000000 in
theorem drawMirrorHub (A : Option Addr) (n cap : Nat) (bs : List Int) (w : World) (h : Rd w 0 w.heap.size A n (byts bs)) (hs : ∀ z ∈ bs, 0 ≤ z ∧ z ≤ 255) (hn : n ≤ 140737488355328) : Calls Try.prog 17 #[.slice A n cap] w (GotH w) := by
  go_enter Try.func17, Try.ntmps17
  go_wp2_with fail
  have B0 : Below w.heap.size w (w.alloc (.cells #[.int .i64 0, .int .i64 0, .int .i64 0, .int .i64 0, .int .i64 0] 25)) := (Below.refl _ _).alloc (Nat.le_refl _) _
  have X0 : Box (w.alloc (.cells #[.int .i64 0, .int .i64 0, .int .i64 0, .int .i64 0, .int .i64 0] 25)) w.heap.size [.int .i64 0, .int .i64 0, .int .i64 0, .int .i64 0, .int .i64 0] := Box.new rfl rfl
  generalize w.alloc (.cells #[.int .i64 0, .int .i64 0, .int .i64 0, .int .i64 0, .int .i64 0] 25) = W0 at B0 X0 ⊢
  refine (from_ A n cap bs W0 ((h.below B0 (Nat.le_refl _)).mono (Nat.le_refl _) B0.size) hs hn).mono ?_
  rintro _ W1 ⟨g, rfl, hg, S1, b1⟩
  have X1 := X0.below b1
  have B1 := upB B0 b1
  have hl := X0.lt
  clear b1 X0 h hs
  go_wp2_with fail
  refine (drawHub g A n cap bs W1 S1).mono ?_
  rintro _ W2 ⟨x, rfl, hx, S2, k2⟩
  have X2 := X1.keep k2 (.inl (by omega))
  have B2 := B1.trans (k2.below (by omega) B1.size)
  clear k2 S2 S1 X1 B1
  have c0 := X2.at_ 0 _ rfl
  have c1 := X2.at_ 1 _ rfl
  have c2 := X2.at_ 2 _ rfl
  have c3 := X2.at_ 3 _ rfl
  have c4 := X2.at_ 4 _ rfl
  have cf := X2.fr
  go_wp2_with fail
  refine bodyPost_ret (v := hubV x) (by simp [results, Try.results17, go_sem, c0, c1, c2, c3, c4, cf]) rfl ⟨x, rfl, by go_grown⟩
set_option maxRecDepth 100000 in
set_option maxHeartbeats 4000000 in
theorem drawIsRim (A : Option Addr) (n cap : Nat) (bs : List Int) (w : World) (h : Rd w 0 w.heap.size A n (byts bs)) (hs : ∀ z ∈ bs, 0 ≤ z ∧ z ≤ 255) (hn : n ≤ 140737488355328) : Calls Try.prog 23 #[.slice A n cap] w (GotR w) := by
  go_enter Try.func23, Try.ntmps23
  go_wp2_with fail
  have B0 : Below w.heap.size w (w.alloc (.cells #[.int .i64 0, .int .i64 0, .int .i64 0] 27)) := (Below.refl _ _).alloc (Nat.le_refl _) _
  have X0 : Box (w.alloc (.cells #[.int .i64 0, .int .i64 0, .int .i64 0] 27)) w.heap.size [.int .i64 0, .int .i64 0, .int .i64 0] := Box.new rfl rfl
  generalize w.alloc (.cells #[.int .i64 0, .int .i64 0, .int .i64 0] 27) = W0 at B0 X0 ⊢
  refine (from_ A n cap bs W0 ((h.below B0 (Nat.le_refl _)).mono (Nat.le_refl _) B0.size) hs hn).mono ?_
  rintro _ W1 ⟨g, rfl, hg, S1, b1⟩
  have X1 := X0.below b1
  have B1 := upB B0 b1
  have hl := X0.lt
  clear b1 X0 h hs
  go_wp2_with fail
  refine (drawRim g A n cap bs W1 S1 32).mono ?_
  rintro _ W2 ⟨x, rfl, S2, k2⟩
  have X2 := X1.keep k2 (.inl (by omega))
  have B2 := B1.trans (k2.below (by omega) B1.size)
  clear k2 S2 S1 X1 B1
  have c0 := X2.at_ 0 _ rfl
  have c1 := X2.at_ 1 _ rfl
  have c2 := X2.at_ 2 _ rfl
  have cf := X2.fr
  go_wp2_with fail
  refine bodyPost_ret (v := rimV x) (by simp [results, Try.results23, go_sem, c0, c1, c2, cf]) rfl ⟨x, rfl, by go_grown⟩
theorem drawMostCrosses (A : Option Addr) (n cap : Nat) (bs : List Int) (w : World) (h : Rd w 0 w.heap.size A n (byts bs)) (hs : ∀ z ∈ bs, 0 ≤ z ∧ z ≤ 255) (hn : n ≤ 140737488355328) : Calls Try.prog 20 #[.slice A n cap] w (GotN w) := by
  go_enter Try.func20, Try.ntmps20
  go_wp2_with fail
  refine (from_ A n cap bs w h hs hn).mono ?_
  rintro _ W1 ⟨g, rfl, hg, S1, b1⟩
  go_wp2_with fail
  refine (next g A n cap bs 50 W1 S1).mono ?_
  rintro _ W2 ⟨r2, rfl, l2, u2, S2, K2⟩
  go_wp2_with fail
  refine (pickNew g A n cap bs W2 S2 [12, 16, 18, 20, 24, 32, 36, 40, 48, r2, 28] 11 rfl (by omega) (by omega) (fun _ => True) (fun _ _ => trivial) rfl).mono ?_
  rintro _ W3 ⟨x, rfl, -, S3, K3⟩
  go_wp2_with fail
  go_ret
  exact ⟨x, rfl, b1.trans ((K2.trans K3).below hg b1.size)⟩
end Go.Proofs.Ytcphhcnomaociab
