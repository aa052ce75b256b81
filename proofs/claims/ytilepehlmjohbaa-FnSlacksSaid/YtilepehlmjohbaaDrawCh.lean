/- Draws of numbers for chapter 10. -/
import Derived.Test.YtilepehlmjohbaaMgSlacks5
import Derived.Test.YtilepehlmjohbaaMgSlacks4
import Derived.Test.YtilepehlmjohbaaTenB
namespace Go.Proofs.Ytilepehlmjohbaa
open Go.RowKit
set_option linter.unusedSimpArgs false
set_option linter.unusedVariables false

def AnyN (_ : Int) : Prop := True
set_option maxRecDepth 100000 in
set_option maxHeartbeats 8000000 in
theorem drawStayN (g : Nat) (A : Option Addr) (n cap : Nat) (bs : List Int) (w : World) (h : Src w g A n cap bs) :
    Calls Try.prog 74 #[.pointer (some ⟨g, 0, none⟩)] w (NumEnd w g A n cap bs AnyN) := by
  have HN := Go.Lib.hid (fun (m : Int) (w0 : World) (s : Src w0 g A n cap bs) => next g A n cap bs m w0 s)
  have HP := Go.Lib.hid (fun (w0 : World) (s : Src w0 g A n cap bs) (zs : List Int) (m : Nat) (hm : zs.length = m) (h0 : 0 < m) (h1 : m ≤ 1000) t cs (hc : cs = (ints zs).toArray) => pickNew g A n cap bs w0 s zs m hm h0 (by omega) (fun x => True) (fun _ _ => trivial) (t := t) hc)
  have HS := Go.Lib.hid h
  have HK := Go.Lib.hid (Keep.refl g (g + 1) w)
  clear h
  go_enter Try.func74, Try.ntmps74
  go_wp2_with fail
  refine (HN.out _ _ HS.out).mono ?_
  rintro _ v1 ⟨r1, rfl, p1, m1, s1, k1⟩
  have HK := Go.Lib.hid (HK.out.trans k1)
  have HS := Go.Lib.hid s1
  clear s1 k1
  have hw1 : IntKind.i64.wrap (4000 + r1) = 4000 + r1 := IntWalk.i64_in _ (by omega)
  go_wp2_with fail
  refine (HN.out _ _ HS.out).mono ?_
  rintro _ v2 ⟨r2, rfl, p2, m2, s2, k2⟩
  have HK := Go.Lib.hid (HK.out.trans k2)
  have HS := Go.Lib.hid s2
  clear s2 k2
  have hw2 : IntKind.i64.wrap (3000 + r2) = 3000 + r2 := IntWalk.i64_in _ (by omega)
  go_wp2_with fail
  refine (HP.out _ HS.out [2999, 6001, 4100] 3 rfl (by omega) (by omega) _ _ rfl).mono ?_
  rintro _ v3 ⟨r3, rfl, -, s3, k3⟩
  have HK := Go.Lib.hid (HK.out.trans k3)
  have HS := Go.Lib.hid s3
  clear s3 k3
  go_wp2_with fail
  refine (HP.out _ HS.out [4000 + r1, 4200, 3000 + r2, 3000, 6000, r3] 6 rfl (by omega) (by omega) _ _ rfl).mono ?_
  rintro _ v4 ⟨r4, rfl, -, s4, k4⟩
  have HK := Go.Lib.hid (HK.out.trans k4)
  have HS := Go.Lib.hid s4
  clear s4 k4
  go_wp2_with fail
  go_ret
  exact ⟨_, rfl, trivial, HS.out, HK.out⟩
set_option maxRecDepth 100000 in
set_option maxHeartbeats 8000000 in
theorem drawLinksN (g : Nat) (A : Option Addr) (n cap : Nat) (bs : List Int) (w : World) (h : Src w g A n cap bs) :
    Calls Try.prog 54 #[.pointer (some ⟨g, 0, none⟩)] w (NumEnd w g A n cap bs AnyN) := by
  have HN := Go.Lib.hid (fun (m : Int) (w0 : World) (s : Src w0 g A n cap bs) => next g A n cap bs m w0 s)
  have HP := Go.Lib.hid (fun (w0 : World) (s : Src w0 g A n cap bs) (zs : List Int) (m : Nat) (hm : zs.length = m) (h0 : 0 < m) (h1 : m ≤ 1000) t cs (hc : cs = (ints zs).toArray) => pickNew g A n cap bs w0 s zs m hm h0 (by omega) (fun x => True) (fun _ _ => trivial) (t := t) hc)
  have HS := Go.Lib.hid h
  have HK := Go.Lib.hid (Keep.refl g (g + 1) w)
  clear h
  go_enter Try.func54, Try.ntmps54
  go_wp2_with fail
  refine (HN.out _ _ HS.out).mono ?_
  rintro _ v1 ⟨r1, rfl, p1, m1, s1, k1⟩
  have HK := Go.Lib.hid (HK.out.trans k1)
  have HS := Go.Lib.hid s1
  clear s1 k1
  have hw1 : IntKind.i64.wrap (50 + r1) = 50 + r1 := IntWalk.i64_in _ (by omega)
  have hw2 : IntKind.i64.wrap (2 * (50 + r1)) = 2 * (50 + r1) := IntWalk.i64_in _ (by omega)
  go_wp2_with fail
  refine (HN.out _ _ HS.out).mono ?_
  rintro _ v2 ⟨r2, rfl, p2, m2, s2, k2⟩
  have HK := Go.Lib.hid (HK.out.trans k2)
  have HS := Go.Lib.hid s2
  clear s2 k2
  have hw3 : IntKind.i64.wrap (20 + r2) = 20 + r2 := IntWalk.i64_in _ (by omega)
  have hw4 : IntKind.i64.wrap (2 * (20 + r2)) = 2 * (20 + r2) := IntWalk.i64_in _ (by omega)
  go_wp2_with fail
  refine (HP.out _ HS.out [38, 202, 111] 3 rfl (by omega) (by omega) _ _ rfl).mono ?_
  rintro _ v3 ⟨r3, rfl, -, s3, k3⟩
  have HK := Go.Lib.hid (HK.out.trans k3)
  have HS := Go.Lib.hid s3
  clear s3 k3
  go_wp2_with fail
  refine (HP.out _ HS.out [2 * (50 + r1), 110, 2 * (20 + r2), 40, 200, r3] 6 rfl (by omega) (by omega) _ _ rfl).mono ?_
  rintro _ v4 ⟨r4, rfl, -, s4, k4⟩
  have HK := Go.Lib.hid (HK.out.trans k4)
  have HS := Go.Lib.hid s4
  clear s4 k4
  go_wp2_with fail
  go_ret
  exact ⟨_, rfl, trivial, HS.out, HK.out⟩
def Dv3i (w : World) (e : Ending) (w' : World) : Prop := ∃ a b c : Int, e = .returned (.tuple #[.int .i64 a, .int .i64 b, .int .i64 c]) ∧ Below w.heap.size w w'
def Dv2i (w : World) (e : Ending) (w' : World) : Prop := ∃ a b : Int, e = .returned (.tuple #[.int .i64 a, .int .i64 b]) ∧ Below w.heap.size w w'
set_option maxRecDepth 100000 in
set_option maxHeartbeats 8000000 in
theorem drawNeedOf (A : Option Addr) (n cap : Nat) (bs : List Int) (w : World) (h : Rd w 0 w.heap.size A n (byts bs)) (hs : ∀ z ∈ bs, 0 ≤ z ∧ z ≤ 255) (hn : n ≤ 140737488355328) :
    Calls Try.prog 46 #[.slice A n cap] w (Dv3i w) := by
  have HRD := Go.Lib.hid (fun w0 (b : Below w.heap.size w w0) => (h.below b (Nat.le_refl _)).mono (Nat.le_refl _) b.size)
  have HFR := Go.Lib.hid (fun w0 (b : Below w.heap.size w w0) => from_ A n cap bs w0 (HRD.out w0 b) hs hn)
  have HB0 := Go.Lib.hid (Below.refl w.heap.size w)
  go_enter Try.func46, Try.ntmps46
  go_wp2_with fail
  refine (HFR.out _ HB0.out).mono ?_
  rintro _ w1 ⟨g, rfl, hg, s1, b1⟩
  have HG := Go.Lib.hid hg
  have HB1 := Go.Lib.hid b1
  have HS := Go.Lib.hid s1
  have HK := Go.Lib.hid (Keep.refl g (g + 1) w1)
  have HN := Go.Lib.hid (fun (m : Int) (w0 : World) (s : Src w0 g A n cap bs) => next g A n cap bs m w0 s)
  have HP := Go.Lib.hid (fun (w0 : World) (s : Src w0 g A n cap bs) (zs : List Int) (m : Nat) (hm : zs.length = m) (h0 : 0 < m) (h1 : m ≤ 1000) t cs (hc : cs = (ints zs).toArray) => pickNew g A n cap bs w0 s zs m hm h0 (by omega) (fun x => True) (fun _ _ => trivial) (t := t) hc)
  have HST := Go.Lib.hid (fun w0 s0 => drawStayN g A n cap bs w0 s0)
  have HLK := Go.Lib.hid (fun w0 s0 => drawLinksN g A n cap bs w0 s0)
  clear hg s1 b1
  go_wp2_with fail
  refine (HST.out _ HS.out).mono ?_
  rintro _ v1 ⟨r1, rfl, -, s1, k1⟩
  have HK := Go.Lib.hid (HK.out.trans k1)
  have HS := Go.Lib.hid s1
  clear s1 k1
  go_wp2_with fail
  refine (HN.out _ _ HS.out).mono ?_
  rintro _ v2 ⟨r2, rfl, p2, m2, s2, k2⟩
  have HK := Go.Lib.hid (HK.out.trans k2)
  have HS := Go.Lib.hid s2
  clear s2 k2
  have hw1 : IntKind.i64.wrap (20 + r2) = 20 + r2 := IntWalk.i64_in _ (by omega)
  go_wp2_with fail
  refine (HP.out _ HS.out [20 + r2, 50, 34, 19, 61] 5 rfl (by omega) (by omega) _ _ rfl).mono ?_
  rintro _ v3 ⟨r3, rfl, -, s3, k3⟩
  have HK := Go.Lib.hid (HK.out.trans k3)
  have HS := Go.Lib.hid s3
  clear s3 k3
  go_wp2_with fail
  refine (HN.out _ _ HS.out).mono ?_
  rintro _ v4 ⟨r4, rfl, p4, m4, s4, k4⟩
  have HK := Go.Lib.hid (HK.out.trans k4)
  have HS := Go.Lib.hid s4
  clear s4 k4
  have hw2 : IntKind.i64.wrap (9 + r4) = 9 + r4 := IntWalk.i64_in _ (by omega)
  go_wp2_with fail
  refine (HP.out _ HS.out [9 + r4, 11, 32, 8, 53] 5 rfl (by omega) (by omega) _ _ rfl).mono ?_
  rintro _ v5 ⟨r5, rfl, -, s5, k5⟩
  have HK := Go.Lib.hid (HK.out.trans k5)
  have HS := Go.Lib.hid s5
  clear s5 k5
  go_wp2_with fail
  go_ret3
  exact ⟨_, _, _, rfl, HB1.out.trans (HK.out.below HG.out HB1.out.size)⟩
set_option maxRecDepth 100000 in
set_option maxHeartbeats 8000000 in
theorem drawLinksFor (A : Option Addr) (n cap : Nat) (bs : List Int) (w : World) (h : Rd w 0 w.heap.size A n (byts bs)) (hs : ∀ z ∈ bs, 0 ≤ z ∧ z ≤ 255) (hn : n ≤ 140737488355328) :
    Calls Try.prog 14 #[.slice A n cap] w (Dv3i w) := by
  have HRD := Go.Lib.hid (fun w0 (b : Below w.heap.size w w0) => (h.below b (Nat.le_refl _)).mono (Nat.le_refl _) b.size)
  have HFR := Go.Lib.hid (fun w0 (b : Below w.heap.size w w0) => from_ A n cap bs w0 (HRD.out w0 b) hs hn)
  have HB0 := Go.Lib.hid (Below.refl w.heap.size w)
  have HD := Go.Lib.hid (fun w0 b => drawNeedOf A n cap bs w0 (HRD.out w0 b) hs hn)
  go_enter Try.func14, Try.ntmps14
  go_wp2_with fail
  refine (HD.out _ HB0.out).mono ?_
  rintro _ w2 ⟨a, b, c, rfl, b2⟩
  have HB2 := Go.Lib.hid b2
  clear b2
  go_wp2_with fail
  go_ret3
  exact ⟨_, _, _, rfl, HB2.out⟩
set_option maxRecDepth 100000 in
set_option maxHeartbeats 8000000 in
theorem drawStayFor (A : Option Addr) (n cap : Nat) (bs : List Int) (w : World) (h : Rd w 0 w.heap.size A n (byts bs)) (hs : ∀ z ∈ bs, 0 ≤ z ∧ z ≤ 255) (hn : n ≤ 140737488355328) :
    Calls Try.prog 19 #[.slice A n cap] w (Dv3i w) := by
  have HRD := Go.Lib.hid (fun w0 (b : Below w.heap.size w w0) => (h.below b (Nat.le_refl _)).mono (Nat.le_refl _) b.size)
  have HFR := Go.Lib.hid (fun w0 (b : Below w.heap.size w w0) => from_ A n cap bs w0 (HRD.out w0 b) hs hn)
  have HB0 := Go.Lib.hid (Below.refl w.heap.size w)
  have HD := Go.Lib.hid (fun w0 b => drawNeedOf A n cap bs w0 (HRD.out w0 b) hs hn)
  go_enter Try.func19, Try.ntmps19
  go_wp2_with fail
  refine (HFR.out _ HB0.out).mono ?_
  rintro _ w1 ⟨g, rfl, hg, s1, b1⟩
  have HG := Go.Lib.hid hg
  have HB1 := Go.Lib.hid b1
  have HS := Go.Lib.hid s1
  have HK := Go.Lib.hid (Keep.refl g (g + 1) w1)
  have HN := Go.Lib.hid (fun (m : Int) (w0 : World) (s : Src w0 g A n cap bs) => next g A n cap bs m w0 s)
  have HP := Go.Lib.hid (fun (w0 : World) (s : Src w0 g A n cap bs) (zs : List Int) (m : Nat) (hm : zs.length = m) (h0 : 0 < m) (h1 : m ≤ 1000) t cs (hc : cs = (ints zs).toArray) => pickNew g A n cap bs w0 s zs m hm h0 (by omega) (fun x => True) (fun _ _ => trivial) (t := t) hc)
  have HST := Go.Lib.hid (fun w0 s0 => drawStayN g A n cap bs w0 s0)
  have HLK := Go.Lib.hid (fun w0 s0 => drawLinksN g A n cap bs w0 s0)
  clear hg s1 b1
  go_wp2_with fail
  refine (HD.out _ HB1.out).mono ?_
  rintro _ w2 ⟨a, b, c, rfl, b2⟩
  have HS := Go.Lib.hid (HS.out.below b2)
  have HB1 := Go.Lib.hid (upB HB1.out b2)
  have HK := Go.Lib.hid (Keep.refl g (g + 1) w2)
  clear b2
  go_wp2_with fail
  refine (HLK.out _ HS.out).mono ?_
  rintro _ v1 ⟨r1, rfl, -, s1, k1⟩
  have HK := Go.Lib.hid (HK.out.trans k1)
  have HS := Go.Lib.hid s1
  clear s1 k1
  go_wp2_with fail
  go_ret3
  exact ⟨_, _, _, rfl, HB1.out.trans (HK.out.below HG.out HB1.out.size)⟩
set_option maxRecDepth 100000 in
set_option maxHeartbeats 8000000 in
theorem drawCutLinks (A : Option Addr) (n cap : Nat) (bs : List Int) (w : World) (h : Rd w 0 w.heap.size A n (byts bs)) (hs : ∀ z ∈ bs, 0 ≤ z ∧ z ≤ 255) (hn : n ≤ 140737488355328) :
    Calls Try.prog 22 #[.slice A n cap] w (Dv2i w) := by
  have HRD := Go.Lib.hid (fun w0 (b : Below w.heap.size w w0) => (h.below b (Nat.le_refl _)).mono (Nat.le_refl _) b.size)
  have HFR := Go.Lib.hid (fun w0 (b : Below w.heap.size w w0) => from_ A n cap bs w0 (HRD.out w0 b) hs hn)
  have HB0 := Go.Lib.hid (Below.refl w.heap.size w)
  go_enter Try.func22, Try.ntmps22
  go_wp2_with fail
  refine (HFR.out _ HB0.out).mono ?_
  rintro _ w1 ⟨g, rfl, hg, s1, b1⟩
  have HG := Go.Lib.hid hg
  have HB1 := Go.Lib.hid b1
  have HS := Go.Lib.hid s1
  have HK := Go.Lib.hid (Keep.refl g (g + 1) w1)
  have HN := Go.Lib.hid (fun (m : Int) (w0 : World) (s : Src w0 g A n cap bs) => next g A n cap bs m w0 s)
  have HP := Go.Lib.hid (fun (w0 : World) (s : Src w0 g A n cap bs) (zs : List Int) (m : Nat) (hm : zs.length = m) (h0 : 0 < m) (h1 : m ≤ 1000) t cs (hc : cs = (ints zs).toArray) => pickNew g A n cap bs w0 s zs m hm h0 (by omega) (fun x => True) (fun _ _ => trivial) (t := t) hc)
  have HST := Go.Lib.hid (fun w0 s0 => drawStayN g A n cap bs w0 s0)
  have HLK := Go.Lib.hid (fun w0 s0 => drawLinksN g A n cap bs w0 s0)
  clear hg s1 b1
  go_wp2_with fail
  refine (HLK.out _ HS.out).mono ?_
  rintro _ v1 ⟨r1, rfl, -, s1, k1⟩
  have HK := Go.Lib.hid (HK.out.trans k1)
  have HS := Go.Lib.hid s1
  clear s1 k1
  go_wp2_with fail
  refine (HLK.out _ HS.out).mono ?_
  rintro _ v2 ⟨r2, rfl, -, s2, k2⟩
  have HK := Go.Lib.hid (HK.out.trans k2)
  have HS := Go.Lib.hid s2
  clear s2 k2
  go_wp2_with fail
  go_ret2
  exact ⟨_, _, rfl, HB1.out.trans (HK.out.below HG.out HB1.out.size)⟩
end Go.Proofs.Ytilepehlmjohbaa
