/- The draw of a text of a measure. -/
import Derived.Test.YtcknknicknolaabDoorDamage
import Derived.Test.YtcknknicknolaabDoorMeas
namespace Go.Proofs.YtcknknicknolaabDoor
open Go.RowKit

theorem measPosW (z : Int) (w : World) (h0 : 0 ≤ z) (h1 : z ≤ 1000000000000000) :
    Calls Tryd.prog 46 #[.int .i64 z] w (NewStr w (measL z)) := by
  have l1 := dec_len (z / 10).toNat (by omega)
  have l2 := dec_len (z % 10).toNat (by omega)
  have k1 := add_str (Go.Lib.decDigits (z / 10).toNat) [46] (by simp; omega)
  have k2 := add_str (Go.Lib.decDigits (z / 10).toNat ++ [46]) (Go.Lib.decDigits (z % 10).toNat) (by simp; omega)
  go_enter Tryd.func46, Tryd.ntmps46
  go_wp2_with fail
  refine (dec (z / 10) _ (by omega) (by omega)).mono ?_
  rintro e w1 ⟨rfl, hb1⟩
  go_wp2_with fail
  refine (dec (z % 10) _ (by omega) (by omega)).mono ?_
  rintro e w2 ⟨rfl, hb2⟩
  go_wp2_with fail
  go_ret
  exact ⟨by rw [measL_pos (by omega), measP_split z h0]; simp, hb1.trans (hb2.mono hb1.size)⟩
theorem specMeasureW (z : Int) (w : World) (h0 : -1000000000000000 ≤ z) (h1 : z ≤ 1000000000000000) :
    Calls Tryd.prog 46 #[.int .i64 z] w (NewStr w (measL z)) := by
  by_cases hn : z < 0
  · have l1 := measP_len (-z).toNat (by omega)
    have k1 := add_str [45] (measL (-z)) (by rw [measL_pos (by omega)]; simp; omega)
    go_enter Tryd.func46, Tryd.ntmps46
    go_wp2_with fail
    refine (measPosW (-z) _ (by omega) (by omega)).mono ?_
    rintro e w1 ⟨rfl, hb1⟩
    go_wp2_with fail
    go_ret
    exact ⟨by rw [measL_neg hn, measL_pos (by omega)]; rfl, hb1⟩
  · exact measPosW z w (by omega) h1
theorem measL_lenW (z : Int) (h : -1000000000000000 ≤ z) (h2 : z ≤ 1000000000000000) : (measL z).length ≤ 42 := by
  unfold measL
  split
  · have := measP_len (-z).toNat (by omega)
    simp only [List.length_cons]; omega
  · have := measP_len z.toNat (by omega)
    omega
theorem idx6 {r : Int} (h0 : 0 ≤ r) (h1 : r < 6 ∨ r = 0) : ∃ k : Nat, r = k ∧ k < 6 ∧ (0 : Int) ≤ (k : Int) ∧ (k : Int) < 6 := ⟨r.toNat, by omega, by omega, by omega, by omega⟩
/-- What the whole draw of a text hands back. -/
def StrEnd (w : World) (m : Nat) (e : Ending) (w' : World) : Prop := ∃ x : ByteArray, e = .returned (.string x) ∧ x.size ≤ m ∧ Below w.heap.size w w'
set_option maxRecDepth 100000 in
set_option maxHeartbeats 2000000 in
theorem drawReadMeasure (A : Option Addr) (n cap : Nat) (bs : List Int) (w : World) (h : Rd w 0 w.heap.size A n (byts bs)) (hs : ∀ z ∈ bs, 0 ≤ z ∧ z ≤ 255) (hn : n ≤ 140737488355328) :
    Calls Tryd.prog 13 #[.slice A n cap] w (StrEnd w 100) := by
  have HN := Go.Lib.hid (fun g m w' h' => next g A n cap bs m w' h')
  go_enter Tryd.func13, Tryd.ntmps13
  go_wp2_with fail
  refine (from_ A n cap bs w h hs hn).mono ?_
  rintro e w1 ⟨g, rfl, hg, hS1, hb1⟩
  have hgw : w.heap.size ≤ g := hg
  go_wp2_with fail
  refine (HN.out g 10000 w1 hS1).mono ?_
  rintro e w2 ⟨r, rfl, hr0, hr1, hS2, hK2⟩
  go_wp2_with fail
  refine (HN.out g 30 w2 hS2).mono ?_
  rintro e w3 ⟨r3, rfl, hr30, hr31, hS3, hK3⟩
  go_wp2_with fail
  refine (pickNew g A n cap bs w3 hS3 [r - 500, r3 - 15, 1000000000000, 1000000000001] 4 rfl (by omega) (by omega) (fun x => -1000 ≤ x ∧ x ≤ 1000000000001) (fun x hx => by
    simp only [List.mem_cons, List.not_mem_nil, or_false] at hx
    omega) rfl).mono ?_
  rintro e w4 ⟨x, rfl, ⟨hx0, hx1⟩, hS4, hK4⟩
  have B4 := Go.Lib.hid (hb1.trans (((hK2.trans hK3).trans hK4).below hg hb1.size))
  clear hK2 hK3 hK4 hb1 hS1 hS2 hS3
  go_wp2_with fail
  refine (specMeasureW x w4 (by omega) (by omega)).mono ?_
  rintro e w5 ⟨rfl, b5⟩
  have hS5 := hS4.below b5
  have B5 := Go.Lib.hid (B4.out.trans (b5.mono B4.out.size))
  have hl := measL_lenW x (by omega) (by omega)
  generalize measL x = tl at hl ⊢
  obtain ⟨t, ht⟩ : ∃ t : ByteArray, t = ⟨tl.toArray⟩ := ⟨_, rfl⟩
  have hts : t.size ≤ 42 := by rw [ht]; show tl.length ≤ 42; exact hl
  rw [← ht]
  clear B4 hS4 b5 hl ht
  go_wp2_with fail
  refine (HN.out g 4 w5 hS5).mono ?_
  rintro e w6 ⟨r6, rfl, hr60, hr61, hS6, hK6⟩
  have B6 := Go.Lib.hid (B5.out.trans (hK6.below hgw B5.out.size))
  clear hK6 B5 hS5
  by_cases h0 : r6 = 0
  · subst h0
    go_wp2_with fail
    refine (damage g A n cap bs t w6 hS6 (by omega)).mono ?_
    rintro e w7 ⟨y, rfl, hy, hS7, hK7⟩
    go_wp2_with fail
    go_ret
    exact ⟨y, rfl, by omega, B6.out.trans (hK7.below hgw B6.out.size)⟩
  · by_cases h1 : r6 = 1
    · subst h1
      have HA := Go.Lib.hid (fun o => hS6.below ((Below.refl w6.heap.size w6).alloc (Nat.le_refl _) o))
      have HK := Go.Lib.hid (fun o => keepAlloc w6 g o)
      have hg6 := hS6.lt
      go_wp2_with fail
      refine (HN.out g 6 _ (HA.out _)).mono ?_
      rintro e w7 ⟨r7, rfl, hr70, hr71, hS7, hK7⟩
      obtain ⟨k, rfl, hk, hki0, hki1⟩ := idx6 hr70 hr71
      obtain ⟨y, hy, hysz⟩ := lit_at _ _ 6 rfl rfl hg6 hK7 k hk
      have hK := Go.Lib.hid ((HK.out _).trans hK7)
      clear hK7
      go_wp2_with fail
      go_ret
      exact ⟨y, rfl, by omega, B6.out.trans (hK.out.below hgw B6.out.size)⟩
    · have a0 : (r6 == 0) = false := by simpa using h0
      have a1 : (r6 == 1) = false := by simpa using h1
      go_wp2_with fail
      go_ret
      exact ⟨t, rfl, by omega, B6.out⟩
end Go.Proofs.YtcknknicknolaabDoor
