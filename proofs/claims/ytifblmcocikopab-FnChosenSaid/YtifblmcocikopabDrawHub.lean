/- The draws of hubs, rims and wheels. -/
import Derived.Test.YtifblmcocikopabDraw3
import Derived.Test.YtifblmcocikopabHubS
import Derived.Test.YtifblmcocikopabBox
namespace Go.Proofs.Ytifblmcocikopab
open Go.RowKit

/-- What a draw of a hub, a rim or a wheel hands back. -/
def HubEnd (w : World) (g : Nat) (A : Option Addr) (n cap : Nat) (bs : List Int) (p : Hb → Prop) (e : Ending) (w' : World) : Prop :=
  ∃ x : Hb, e = .returned (hubV x) ∧ p x ∧ Src w' g A n cap bs ∧ Keep g (g + 1) w w'
def RimEnd (w : World) (g : Nat) (A : Option Addr) (n cap : Nat) (bs : List Int) (e : Ending) (w' : World) : Prop :=
  ∃ x : Rm, e = .returned (rimV x) ∧ Src w' g A n cap bs ∧ Keep g (g + 1) w w'
def WheelEnd (w : World) (g : Nat) (A : Option Addr) (n cap : Nat) (bs : List Int) (e : Ending) (w' : World) : Prop :=
  ∃ x : Wh, e = .returned (wheelV x) ∧ Src w' g A n cap bs ∧ Keep g (g + 1) w w'
def GoodH (x : Hb) : Prop := hubB x = true
def NearH (x : Hb) : Prop := 0 ≤ x.n ∧ x.n ≤ 48
theorem GoodH.near {x : Hb} (h : GoodH x) : NearH x := by
  have := holes_bd (hubB_of h).1
  exact ⟨by omega, by omega⟩
theorem goodH_mk {n l r a b : Int} (hn : holesB n = true) (hl : 200 ≤ l ∧ l ≤ 1200) (hr : 200 ≤ r ∧ r ≤ 1200) (ha : 0 ≤ a ∧ a ≤ 500) (hb : 0 ≤ b ∧ b ≤ 500) : GoodH ⟨n, l, r, a, b⟩ := by
  show hubB _ = true
  unfold hubB
  simp only [Bool.and_eq_true, inB_iff]
  exact ⟨hn, hl, hr, ha, hb⟩
theorem pickAt (g : Nat) (A : Option Addr) (n cap : Nat) (bs : List Int) (w : World) (h : Src w g A n cap bs) {q : Nat} (hq : w.heap.size = q) (zs : List Int) (m : Nat) (hm : zs.length = m) (h0 : 0 < m) (hbig : m ≤ 140737488355328) (p : Int → Prop) (hp : ∀ x ∈ zs, p x) {t : TypeId} {cs : Array Value} (hc : cs = (ints zs).toArray) :
    Calls Try.prog 25 #[.pointer (some ⟨g, 0, none⟩), .slice (some ⟨q, 0, none⟩) m m] (w.alloc (.cells cs t)) (NumEnd w g A n cap bs p) := by
  subst hq
  exact pickNew g A n cap bs w h zs m hm h0 hbig p hp hc
set_option maxRecDepth 100000 in
set_option maxHeartbeats 2000000 in
theorem drawHubGood (g : Nat) (A : Option Addr) (n cap : Nat) (bs : List Int) (w : World) (h : Src w g A n cap bs) : Calls Try.prog 66 #[.pointer (some ⟨g, 0, none⟩)] w (HubEnd w g A n cap bs GoodH) := by
  have HN := Go.Lib.hid (fun m w' h' => next g A n cap bs m w' h')
  go_enter Try.func66, Try.ntmps66
  go_wp2_with fail
  have hg := h.lt
  have X0 : Box (w.alloc (.cells #[.int .i64 0, .int .i64 0, .int .i64 0, .int .i64 0, .int .i64 0] 30)) w.heap.size [.int .i64 0, .int .i64 0, .int .i64 0, .int .i64 0, .int .i64 0] := Box.new rfl rfl
  have S0 := h.below ((Below.refl w.heap.size w).alloc (Nat.le_refl _) (.cells #[.int .i64 0, .int .i64 0, .int .i64 0, .int .i64 0, .int .i64 0] 30))
  have K0 := keepAlloc w g (.cells #[.int .i64 0, .int .i64 0, .int .i64 0, .int .i64 0, .int .i64 0] 30)
  have q0 : (w.alloc (.cells #[.int .i64 0, .int .i64 0, .int .i64 0, .int .i64 0, .int .i64 0] 30)).heap.size = w.heap.size + 1 := by simp
  generalize w.alloc (.cells #[.int .i64 0, .int .i64 0, .int .i64 0, .int .i64 0, .int .i64 0] 30) = W0 at X0 S0 K0 q0 ⊢
  refine (pickAt g A n cap bs W0 S0 q0 [32, 36, 24, 20, 16, 12, 48] 7 rfl (by omega) (by omega) (fun x => holesB x = true) (fun x hx => by
    simp only [List.mem_cons, List.not_mem_nil, or_false] at hx
    rcases hx with rfl | rfl | rfl | rfl | rfl | rfl | rfl <;> rfl) rfl).mono ?_
  rintro _ W1 ⟨x1, rfl, hx1, S1, k1⟩
  have K1 := K0.trans k1
  have X1 := X0.keep k1 (.inr (by omega))
  clear k1 K0 S0 X0
  go_wp2_with fail
  refine (HN.out 220 W1 S1).mono ?_
  rintro _ W2 ⟨r2, rfl, l2, u2, S2, k2⟩
  have K2 := K1.trans k2
  have X2 := X1.keep k2 (.inr (by omega))
  clear k2 K1 S1 X1
  go_wp2_with fail
  refine (HN.out 220 W2 S2).mono ?_
  rintro _ W3 ⟨r3, rfl, l3, u3, S3, k3⟩
  have K3 := K2.trans k3
  have X3 := X2.keep k3 (.inr (by omega))
  clear k3 K2 S2 X2
  go_wp2_with fail
  refine (HN.out 200 W3 S3).mono ?_
  rintro _ W4 ⟨r4, rfl, l4, u4, S4, k4⟩
  have K4 := K3.trans k4
  have X4 := X3.keep k4 (.inr (by omega))
  clear k4 K3 S3 X3
  go_wp2_with fail
  refine (HN.out 250 W4 S4).mono ?_
  rintro _ W5 ⟨r5, rfl, l5, u5, S5, k5⟩
  have K5 := K4.trans k5
  have X5 := X4.keep k5 (.inr (by omega))
  clear k5 K4 S4 X4
  have c0 := X5.at_ 0 _ rfl
  have c1 := X5.at_ 1 _ rfl
  have c2 := X5.at_ 2 _ rfl
  have c3 := X5.at_ 3 _ rfl
  have c4 := X5.at_ 4 _ rfl
  have cf := X5.fr
  have cl := X5.lt
  clear HN h
  go_wp2_with fail
  trace_state
  refine bodyPost_ret (v := hubV ⟨x1, (380 + r2), (380 + r3), (200 + r4), (150 + r5)⟩) (by simp [results, Try.results66, go_sem, c0, c1, c2, c3, c4, cf]) rfl ⟨⟨x1, (380 + r2), (380 + r3), (200 + r4), (150 + r5)⟩, rfl, goodH_mk hx1 (by omega) (by omega) (by omega) (by omega), ((((S5.other (by simp <;> omega) _).other (by simp <;> omega) _).other (by simp <;> omega) _).other (by simp <;> omega) _).other (by simp <;> omega) _, ((((K5.setNew (by simp) _).setNew (by simp) _).setNew (by simp) _).setNew (by simp) _).setNew (by simp) _⟩
end Go.Proofs.Ytifblmcocikopab
