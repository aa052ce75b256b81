/- The draws of chapter 3. -/
import Derived.Test.YtcphhcnomaociaaDraw3
import Derived.Test.YtcphhcnomaociaaNum
namespace Go.Proofs.Ytcphhcnomaociaa
open Go.RowKit

def StepD (x : Int) : Prop := -100001 ≤ x ∧ x ≤ 100001
def RadD (x : Int) : Prop := -1 ≤ x ∧ x ≤ 10001
/-- What a whole draw of a number hands back. -/
def OneD (w : World) (p : Int → Prop) (e : Ending) (w' : World) : Prop := ∃ x : Int, e = .returned (.int .i64 x) ∧ p x ∧ Below w.heap.size w w'
theorem drawSteps (g : Nat) (A : Option Addr) (n cap : Nat) (bs : List Int) (w0 : World) (S0 : Src w0 g A n cap bs) : Calls Try.prog 48 #[.pointer (some ⟨g, 0, none⟩)] w0 (NumEnd w0 g A n cap bs StepD) := by
  have HN := Go.Lib.hid (fun m w' h' => next g A n cap bs m w' h')
  go_enter Try.func48, Try.ntmps48
  go_wp2_with fail
  refine (HN.out 721 w0 S0).mono ?_
  rintro _ w1 ⟨r1, rfl, l1, u1, S1, K1⟩
  go_wp2_with fail
  refine (HN.out 2001 w1 S1).mono ?_
  rintro _ w2 ⟨r2, rfl, l2, u2, S2, K2⟩
  go_wp2_with fail
  refine (HN.out 200001 w2 S2).mono ?_
  rintro _ w3 ⟨r3, rfl, l3, u3, S3, K3⟩
  go_wp2_with fail
  refine (pickNew g A n cap bs w3 S3 [100000, 100001, -100001] 3 rfl (by omega) (by omega) StepD (fun x hx => by
    simp only [List.mem_cons, List.not_mem_nil, or_false] at hx
    unfold StepD at *
    omega) rfl).mono ?_
  rintro _ w4 ⟨x4, rfl, hx4, S4, K4⟩
  go_wp2_with fail
  refine (pickNew g A n cap bs w4 S4 [r1, r2 - 1000, r3 - 100000, 90, 180, 360, x4] 7 rfl (by omega) (by omega) StepD (fun x hx => by
    simp only [List.mem_cons, List.not_mem_nil, or_false] at hx
    unfold StepD at *
    omega) rfl).mono ?_
  rintro _ w5 ⟨x5, rfl, hx5, S5, K5⟩
  go_wp2_with fail
  go_ret
  exact ⟨x5, rfl, hx5, S5, ((((K1.trans K2).trans K3).trans K4).trans K5)⟩
theorem drawRadius (g : Nat) (A : Option Addr) (n cap : Nat) (bs : List Int) (w0 : World) (S0 : Src w0 g A n cap bs) : Calls Try.prog 43 #[.pointer (some ⟨g, 0, none⟩)] w0 (NumEnd w0 g A n cap bs RadD) := by
  have HN := Go.Lib.hid (fun m w' h' => next g A n cap bs m w' h')
  go_enter Try.func43, Try.ntmps43
  go_wp2_with fail
  refine (HN.out 600 w0 S0).mono ?_
  rintro _ w1 ⟨r1, rfl, l1, u1, S1, K1⟩
  go_wp2_with fail
  refine (HN.out 3200 w1 S1).mono ?_
  rintro _ w2 ⟨r2, rfl, l2, u2, S2, K2⟩
  go_wp2_with fail
  refine (HN.out 10001 w2 S2).mono ?_
  rintro _ w3 ⟨r3, rfl, l3, u3, S3, K3⟩
  go_wp2_with fail
  refine (pickNew g A n cap bs w3 S3 [10000, 10001, -1] 3 rfl (by omega) (by omega) RadD (fun x hx => by
    simp only [List.mem_cons, List.not_mem_nil, or_false] at hx
    unfold RadD at *
    omega) rfl).mono ?_
  rintro _ w4 ⟨x4, rfl, hx4, S4, K4⟩
  go_wp2_with fail
  refine (pickNew g A n cap bs w4 S4 [r1, r2, r3, 0, x4] 5 rfl (by omega) (by omega) RadD (fun x hx => by
    simp only [List.mem_cons, List.not_mem_nil, or_false] at hx
    unfold RadD at *
    omega) rfl).mono ?_
  rintro _ w5 ⟨x5, rfl, hx5, S5, K5⟩
  go_wp2_with fail
  go_ret
  exact ⟨x5, rfl, hx5, S5, ((((K1.trans K2).trans K3).trans K4).trans K5)⟩
theorem drawTurnsOf (A : Option Addr) (n cap : Nat) (bs : List Int) (w : World) (h : Rd w 0 w.heap.size A n (byts bs)) (hs : ∀ z ∈ bs, 0 ≤ z ∧ z ≤ 255) (hn : n ≤ 140737488355328) : Calls Try.prog 21 #[.slice A n cap] w (OneD w StepD) := by
  go_enter Try.func21, Try.ntmps21
  go_wp2_with fail
  refine (from_ A n cap bs w h hs hn).mono ?_
  rintro _ w1 ⟨g, rfl, hg, S1, b1⟩
  go_wp2_with fail
  refine (drawSteps g A n cap bs w1 S1).mono ?_
  rintro _ w2 ⟨x, rfl, hx, S2, K2⟩
  go_wp2_with fail
  go_ret
  exact ⟨x, rfl, hx, b1.trans (K2.below hg b1.size)⟩
theorem drawPointOn (A : Option Addr) (n cap : Nat) (bs : List Int) (w : World) (h : Rd w 0 w.heap.size A n (byts bs)) (hs : ∀ z ∈ bs, 0 ≤ z ∧ z ≤ 255) (hn : n ≤ 140737488355328) : Calls Try.prog 24 #[.slice A n cap] w fun e w' => ∃ x y : Int, e = .returned (.tuple #[.int .i64 x, .int .i64 y]) ∧ RadD x ∧ StepD y ∧ Below w.heap.size w w' := by
  go_enter Try.func24, Try.ntmps24
  go_wp2_with fail
  refine (from_ A n cap bs w h hs hn).mono ?_
  rintro _ w1 ⟨g, rfl, hg, S1, b1⟩
  go_wp2_with fail
  refine (drawRadius g A n cap bs w1 S1).mono ?_
  rintro _ w2 ⟨x, rfl, hx, S2, K2⟩
  go_wp2_with fail
  refine (drawSteps g A n cap bs w2 S2).mono ?_
  rintro _ w3 ⟨y, rfl, hy, S3, K3⟩
  go_wp2_with fail
  go_ret2
  exact ⟨x, y, rfl, hx, hy, b1.trans ((K2.trans K3).below hg b1.size)⟩
theorem drawSquareBetween (A : Option Addr) (n cap : Nat) (bs : List Int) (w : World) (h : Rd w 0 w.heap.size A n (byts bs)) (hs : ∀ z ∈ bs, 0 ≤ z ∧ z ≤ 255) (hn : n ≤ 140737488355328) : Calls Try.prog 34 #[.slice A n cap] w fun e w' => ∃ x y z : Int, e = .returned (.tuple #[.int .i64 x, .int .i64 y, .int .i64 z]) ∧ RadD x ∧ RadD y ∧ StepD z ∧ Below w.heap.size w w' := by
  go_enter Try.func34, Try.ntmps34
  go_wp2_with fail
  refine (from_ A n cap bs w h hs hn).mono ?_
  rintro _ w1 ⟨g, rfl, hg, S1, b1⟩
  go_wp2_with fail
  refine (drawRadius g A n cap bs w1 S1).mono ?_
  rintro _ w2 ⟨x, rfl, hx, S2, K2⟩
  go_wp2_with fail
  refine (drawRadius g A n cap bs w2 S2).mono ?_
  rintro _ w3 ⟨y, rfl, hy, S3, K3⟩
  go_wp2_with fail
  refine (drawSteps g A n cap bs w3 S3).mono ?_
  rintro _ w4 ⟨z, rfl, hz, S4, K4⟩
  go_wp2_with fail
  go_ret3
  exact ⟨x, y, z, rfl, hx, hy, hz, b1.trans (((K2.trans K3).trans K4).below hg b1.size)⟩
theorem drawDistanceBetween (A : Option Addr) (n cap : Nat) (bs : List Int) (w : World) (h : Rd w 0 w.heap.size A n (byts bs)) (hs : ∀ z ∈ bs, 0 ≤ z ∧ z ≤ 255) (hn : n ≤ 140737488355328) : Calls Try.prog 13 #[.slice A n cap] w fun e w' => ∃ x y z : Int, e = .returned (.tuple #[.int .i64 x, .int .i64 y, .int .i64 z]) ∧ RadD x ∧ RadD y ∧ StepD z ∧ Below w.heap.size w w' := by
  go_enter Try.func13, Try.ntmps13
  go_wp2_with fail
  refine (drawSquareBetween A n cap bs w h hs hn).mono ?_
  rintro _ w1 ⟨x, y, z, rfl, hx, hy, hz, b1⟩
  go_wp2_with fail
  go_ret3
  exact ⟨x, y, z, rfl, hx, hy, hz, b1⟩
theorem drawStepsFor (A : Option Addr) (n cap : Nat) (bs : List Int) (w : World) (h : Rd w 0 w.heap.size A n (byts bs)) (hs : ∀ z ∈ bs, 0 ≤ z ∧ z ≤ 255) (hn : n ≤ 140737488355328) : Calls Try.prog 18 #[.slice A n cap] w fun e w' => ∃ x y z : Int, e = .returned (.tuple #[.int .i64 x, .int .i64 y, .int .i64 z]) ∧ RadD x ∧ RadD y ∧ (-10 ≤ z ∧ z ≤ 40000) ∧ Below w.heap.size w w' := by
  go_enter Try.func18, Try.ntmps18
  go_wp2_with fail
  refine (from_ A n cap bs w h hs hn).mono ?_
  rintro _ w1 ⟨g, rfl, hg, S1, b1⟩
  go_wp2_with fail
  refine (drawRadius g A n cap bs w1 S1).mono ?_
  rintro _ w2 ⟨x, rfl, hx, S2, K2⟩
  go_wp2_with fail
  refine (drawRadius g A n cap bs w2 S2).mono ?_
  rintro _ w3 ⟨y, rfl, hy, S3, K3⟩
  have hx2 := hx
  have hy2 := hy
  unfold RadD at hx2 hy2
  obtain ⟨x0, x1⟩ := hx2
  obtain ⟨y0, y1⟩ := hy2
  have HA := Go.Lib.hid (specAbs (x - y) w3 (by omega) (by omega))
  have HN := Go.Lib.hid (next g A n cap bs (x + y + 1) w3 S3)
  have HM := Go.Lib.hid (fun w' h' => next g A n cap bs 4000 w' h')
  have ha : 0 ≤ max (x - y) (-(x - y)) ∧ max (x - y) (-(x - y)) ≤ 10002 := by omega
  generalize max (x - y) (-(x - y)) = q at HA ha
  obtain ⟨q0, q1⟩ := ha
  go_wp2_with fail
  refine HA.out.mono ?_
  rintro _ _ ⟨rfl, rfl⟩
  go_wp2_with fail
  refine HN.out.mono ?_
  rintro _ w4 ⟨r4, rfl, l4, u4, S4, K4⟩
  have u4b : r4 ≤ 20002 := by omega
  go_wp2_with fail
  refine (HM.out w4 S4).mono ?_
  rintro _ w5 ⟨r5, rfl, l5, u5, S5, K5⟩
  go_wp2_with fail
  refine (pickNew g A n cap bs w5 S5 [q + r4, r5, 0, 20000, 20001, x + y] 6 rfl (by omega) (by omega) (fun z => -10 ≤ z ∧ z ≤ 40000) (fun z hz => by
    simp only [List.mem_cons, List.not_mem_nil, or_false] at hz
    omega) rfl).mono ?_
  rintro _ w6 ⟨z, rfl, hz, S6, K6⟩
  go_wp2_with fail
  go_ret3
  exact ⟨x, y, z, rfl, hx, hy, hz, b1.trans (((((K2.trans K3).trans K4).trans K5).trans K6).below hg b1.size)⟩
end Go.Proofs.Ytcphhcnomaociaa
