/- The draws of the texts of hubs. -/
import Derived.Test.YtcphhcnomaociabDoorDrawHub2
import Derived.Test.YtcphhcnomaociabDoorHubText
import Derived.Test.YtcphhcnomaociabDoorDraw7
namespace Go.Proofs.YtcphhcnomaociabDoor
open Go.RowKit

def GotHub (w : World) (e : Ending) (w' : World) : Prop := ∃ x : Hb, e = .returned (hubV x) ∧ Below w.heap.size w w'
set_option maxRecDepth 100000 in
set_option maxHeartbeats 4000000 in
theorem drawHubText (A : Option Addr) (n cap : Nat) (bs : List Int) (w : World) (h : Rd w 0 w.heap.size A n (byts bs)) (hs : ∀ z ∈ bs, 0 ≤ z ∧ z ≤ 255) (hn : n ≤ 140737488355328) : Calls Tryd.prog 7 #[.slice A n cap] w (GotHub w) := by
  go_enter Tryd.func7, Tryd.ntmps7
  go_wp2_with fail
  have B0 : Below w.heap.size w (w.alloc (.cells #[.int .i64 0, .int .i64 0, .int .i64 0, .int .i64 0, .int .i64 0] 25)) := (Below.refl _ _).alloc (Nat.le_refl _) _
  have X0 : Box (w.alloc (.cells #[.int .i64 0, .int .i64 0, .int .i64 0, .int .i64 0, .int .i64 0] 25)) w.heap.size [.int .i64 0, .int .i64 0, .int .i64 0, .int .i64 0, .int .i64 0] := Box.new rfl rfl
  generalize w.alloc (.cells #[.int .i64 0, .int .i64 0, .int .i64 0, .int .i64 0, .int .i64 0] 25) = W0 at B0 X0 ⊢
  refine (from_ A n cap bs W0 ((h.below B0 (Nat.le_refl _)).mono (Nat.le_refl _) B0.size) hs hn).mono ?_
  rintro _ W1 ⟨g, rfl, hg, S1, b1⟩
  have X1 := X0.below b1
  have B1 := upB B0 b1
  have hl := X0.lt
  clear b1 X0 h hs
  go_wp2_with fail
  refine (drawHub g A n cap bs W1 S1).mono ?_
  rintro _ W2 ⟨x, rfl, hx, S2, k2⟩
  have X2 := X1.keep k2 (.inl (by omega))
  have B2 := B1.trans (k2.below (by omega) B1.size)
  clear k2 S2 S1 X1 B1
  have c0 := X2.at_ 0 _ rfl
  have c1 := X2.at_ 1 _ rfl
  have c2 := X2.at_ 2 _ rfl
  have c3 := X2.at_ 3 _ rfl
  have c4 := X2.at_ 4 _ rfl
  have cf := X2.fr
  go_wp2_with fail
  refine bodyPost_ret (v := hubV x) (by simp [results, Tryd.results7, go_sem, c0, c1, c2, c3, c4, cf]) rfl ⟨x, rfl, by go_grown⟩
set_option maxRecDepth 100000 in
set_option maxHeartbeats 4000000 in
theorem drawReadHub (A : Option Addr) (n cap : Nat) (bs : List Int) (w : World) (h : Rd w 0 w.heap.size A n (byts bs)) (hs : ∀ z ∈ bs, 0 ≤ z ∧ z ≤ 255) (hn : n ≤ 140737488355328) : Calls Tryd.prog 10 #[.slice A n cap] w (StrEnd w 400) := by
  have HN := Go.Lib.hid (fun g m w' h' => next g A n cap bs m w' h')
  go_enter Tryd.func10, Tryd.ntmps10
  go_wp2_with fail
  refine (from_ A n cap bs w h hs hn).mono ?_
  rintro _ w1 ⟨g, rfl, hg, hS1, hb1⟩
  have hgw : w.heap.size ≤ g := hg
  go_wp2_with fail
  refine (drawHubGood g A n cap bs w1 hS1).mono ?_
  rintro _ w4 ⟨x, rfl, hx, hS4, hK4⟩
  have B4 := Go.Lib.hid (hb1.trans (hK4.below hg hb1.size))
  have hl := hubT_len hx
  have HT := Go.Lib.hid (fun w0 => specHubT x w0 hx)
  clear hK4 hb1 hS1 hx
  generalize hubT x = tl at hl HT
  go_wp2_with fail
  refine (HT.out _).mono ?_
  rintro _ w5 ⟨rfl, b5⟩
  have hS5 := hS4.below b5
  have B5 := Go.Lib.hid (B4.out.trans (b5.mono B4.out.size))
  obtain ⟨t, ht⟩ : ∃ t : ByteArray, t = ⟨tl.toArray⟩ := ⟨_, rfl⟩
  have hts : t.size ≤ 300 := by rw [ht]; show tl.length ≤ 300; exact hl
  rw [← ht]
  clear B4 hS4 b5 hl ht HT
  go_wp2_with fail
  refine (HN.out g 3 w5 hS5).mono ?_
  rintro _ w6 ⟨r6, rfl, hr60, hr61, hS6, hK6⟩
  have B6 := Go.Lib.hid (B5.out.trans (hK6.below hgw B5.out.size))
  clear hK6 B5 hS5
  by_cases h0 : r6 = 0
  · subst h0
    go_wp2_with fail
    refine (damage g A n cap bs t w6 hS6 (by omega)).mono ?_
    rintro _ w7 ⟨y, rfl, hy, hS7, hK7⟩
    go_wp2_with fail
    go_ret
    exact ⟨y, rfl, by omega, B6.out.trans (hK7.below hgw B6.out.size)⟩
  · have a0 : (r6 == 0) = false := by simpa using h0
    go_wp2_with fail
    go_ret
    exact ⟨t, rfl, by omega, B6.out⟩
end Go.Proofs.YtcphhcnomaociabDoor
