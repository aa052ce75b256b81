/- Draws of lacings. -/
import Derived.Test.YtlmbcidijbohiaaDraw
import Derived.Test.YtlmbcidijbohiaaDraw2
import Derived.Test.YtlmbcidijbohiaaDrawB
import Derived.Test.YtlmbcidijbohiaaDraw3
import Derived.Test.YtlmbcidijbohiaaLacX
import Derived.Test.YtlmbcidijbohiaaPlainLac4
namespace Go.Proofs.Ytlmbcidijbohiaa
open Go.RowKit
set_option linter.unusedSimpArgs false
set_option linter.unusedVariables false

def Sz (x : Int) : Prop := x = 6 ∨ x = 8 ∨ x = 10 ∨ x = 12 ∨ x = 16 ∨ x = 18
theorem Sz.holes {x : Int} (h : Sz x) : holes6 x = true := by
  unfold Sz at h
  simp [holes6]
  omega
theorem size6 (g : Nat) (A : Option Addr) (n cap : Nat) (bs : List Int) (w : World) (h : Src w g A n cap bs) :
    Calls Try.prog 65 #[.pointer (some ⟨g, 0, none⟩)] w (NumEnd w g A n cap bs Sz) := by
  have HP := Go.Lib.hid (fun t cs (hc : cs = (ints [6, 8, 10, 12, 16, 18]).toArray) => pickNew g A n cap bs w h [6, 8, 10, 12, 16, 18] 6 rfl (by omega) (by omega) Sz (by intro x hx; simp at hx; unfold Sz; omega) (t := t) hc)
  go_enter Try.func65, Try.ntmps65
  go_wp2_with fail
  refine (HP.out _ _ rfl).mono ?_
  rintro _ w1 ⟨x, rfl, hx, hS, hK⟩
  go_wp2_with fail
  go_ret
  exact ⟨x, rfl, hx, hS, hK⟩

/-- What a draw of a list holds. -/
structure StL (w : World) (g : Nat) (A : Option Addr) (n cap : Nat) (bs : List Int) (zs : List Int) (B : Option Addr) (c : Nat) (W : World) : Prop where
  src : Src W g A n cap bs
  kp : Keep g (g + 1) w W
  ow : Ow W w.heap.size W.heap.size 2 B zs.length c (ints zs)
section
variable {w W W1 : World} {g : Nat} {A : Option Addr} {n cap : Nat} {bs : List Int} {zs : List Int} {B : Option Addr} {c : Nat}
theorem StL.next (h : StL w g A n cap bs zs B c W) (hg : g < w.heap.size) (s : Src W1 g A n cap bs) (k : Keep g (g + 1) W W1) : StL w g A n cap bs zs B c W1 :=
  ⟨s, h.kp.trans k, (h.ow.keep k (Nat.le_refl _) (.inr hg)).raise k.size⟩
theorem StL.new {ys : List Int} {D : Option Addr} {d : Nat} (s : Src W g A n cap bs) (k : Keep g (g + 1) w W) (b : Below W.heap.size W W1) (o : Ow W1 W.heap.size W1.heap.size 2 D ys.length d (ints ys)) : StL w g A n cap bs ys D d W1 :=
  ⟨s.below b, k.trans (Keep.of_below b (Nat.le_refl _) _ _), o.lower k.size⟩
end
/-- A number and a list that have been drawn. -/
def DrawL (w : World) (g : Nat) (A : Option Addr) (n cap : Nat) (bs : List Int) (e : Ending) (w' : World) : Prop :=
  ∃ (m : Int) (zs : List Int) (B : Option Addr) (c : Nat), e = .returned (.tuple #[.int .i64 m, .slice B zs.length c]) ∧ (0 ≤ m ∧ m ≤ 24 ∧ zs.length ≤ 100) ∧ StL w g A n cap bs zs B c w'

set_option maxRecDepth 100000 in
set_option maxHeartbeats 8000000 in
theorem drawL (g : Nat) (A : Option Addr) (n cap : Nat) (bs : List Int) (w : World) (h : Src w g A n cap bs) :
    Calls Try.prog 47 #[.pointer (some ⟨g, 0, none⟩)] w (DrawL w g A n cap bs) := by
  have hg := h.lt
  have HZ := Go.Lib.hid (size6 g A n cap bs w h)
  have HN := Go.Lib.hid (fun (m : Int) (w0 : World) (s : Src w0 g A n cap bs) => next g A n cap bs m w0 s)
  have HG := Go.Lib.hid hg
  go_enter Try.func47, Try.ntmps47
  go_wp2_with fail
  refine HZ.out.mono ?_
  rintro _ w1 ⟨m, rfl, hm, s1, k1⟩
  have HM := Go.Lib.hid hm
  have hm6 : 6 ≤ m ∧ m ≤ 18 ∧ m % 2 = 0 := by unfold Sz at hm; omega
  obtain ⟨m0, m1, m2⟩ := hm6
  have M2 := Go.Lib.hid m2
  have q1 : m.tdiv 2 = m / 2 := Int.tdiv_eq_ediv_of_nonneg (by omega)
  have hq3 : 3 ≤ m / 2 := by omega
  have S1 := Go.Lib.hid s1
  have K1 := Go.Lib.hid k1
  clear hm m2 h hg s1 k1 HZ
  go_wp2_with fail
  refine (HN.out _ _ S1.out).mono ?_
  rintro _ w2 ⟨r, rfl, hr0, hr1, s2, k2⟩
  have hr2 : r ≤ m / 2 - 1 := by omega
  have S2 := Go.Lib.hid s2
  have K2 := Go.Lib.hid (K1.out.trans k2)
  clear s2 k2 S1 K1 hr1
  have HU := Go.Lib.hid (specUsual m r w2)
  go_wp2_with fail
  refine HU.out.mono ?_
  rintro _ w3 ⟨B, c, he, ho, hb⟩
  have hU : usualR m r = (usualI m r, 0) := by unfold usualR; rw [if_pos HM.out.holes, if_pos ⟨hr0, hr2⟩]
  rw [hU] at he ho
  dsimp only at he ho
  subst he
  have hL := usual_lac HM.out.holes hr0 hr2
  have ST := Go.Lib.hid (StL.new S2.out K2.out hb ho)
  have HL := Go.Lib.hid hL
  clear ho hb hU hL HU S2 K2
  generalize usualI m r = zs at *
  go_wp2_with fail
  refine (HN.out _ _ ST.out.src).mono ?_
  rintro _ w4 ⟨k, rfl, hk0, hk1, s4, k4⟩
  have ST4 := Go.Lib.hid (ST.out.next HG.out s4 k4)
  have hk5 : k ≤ 4 := by omega
  clear s4 k4 ST hk1
  go_wp2_with fail
  go_loopw [5, 7] (fun o i wr => ∃ (ys : List Int) (D : Option Addr) (d : Nat) (j : Int), o = .slice D ys.length d ∧ i = .int .i64 j ∧ 0 ≤ j ∧ j ≤ 4 ∧ Lac m ys ∧ StL w g A n cap bs ys D d wr) (fun _ i _ => (intOf i).toNat)
  case atStart => exact ⟨zs, B, c, k, rfl, rfl, hk0, hk5, HL.out, ST4.out⟩
  case round =>
    obtain ⟨ys, D, d, j, rfl, rfl, hj0, hj4, hL, hst⟩ := hrel
    clear ST4 HL
    have HL := Go.Lib.hid hL
    have ST := Go.Lib.hid hst
    have hlen := hL.len
    clear hL hst
    by_cases hj : 2 < j
    case pos =>
      go_wp2_with fail
      refine (HN.out _ _ ST.out.src).mono ?_
      rintro _ w5 ⟨a, rfl, ha0, ha1, s5, k5⟩
      have ST5 := Go.Lib.hid (ST.out.next HG.out s5 k5)
      clear s5 k5 ST
      go_wp2_with fail
      refine (HN.out _ _ ST5.out.src).mono ?_
      rintro _ w6 ⟨b, rfl, hb0, hb1, s6, k6⟩
      have st6 := ST5.out.next HG.out s6 k6
      have ST6 := Go.Lib.hid st6
      have HSW := Go.Lib.hid (specSwap m D d ys a b w6 _ _ st6.ow.rd st6.ow.le)
      clear s6 k6 ST5 st6
      have hpa : placeB m a = true := placeB_iff.2 ⟨ha0, by omega⟩
      have hpb : placeB m b = true := placeB_iff.2 ⟨hb0, by omega⟩
      have hS : swapR m ys a b = (swapI ys a.toNat b.toNat, 0) := by simp [swapR, HL.out, hpa, hpb]
      rw [hS] at HSW
      have HL7 := Go.Lib.hid (swap_lac HL.out (show a.toNat < ys.length by omega) (show b.toNat < ys.length by omega))
      clear hS hpa hpb
      generalize swapI ys a.toNat b.toNat = us at *
      go_wp2_with fail
      refine HSW.out.mono ?_
      rintro _ w7 ⟨E, e, rfl, ho, hb⟩
      dsimp only at ho
      have ST7 := Go.Lib.hid (StL.new ST6.out.src ST6.out.kp hb ho)
      clear ho hb
      go_wp2_with fail
      go_roundw
      case rel => exact ⟨us, E, e, j - 1, rfl, rfl, by omega, by omega, HL7.out, ST7.out⟩
      case measure => simp [intOf]; omega
    case neg =>
      go_wp2_with fail
      refine (HN.out _ _ ST.out.src).mono ?_
      rintro _ w5 ⟨v, rfl, hv0, -, s5, k5⟩
      have st5 := ST.out.next HG.out s5 k5
      have ST5 := Go.Lib.hid st5
      clear s5 k5 ST
      have hyl : 6 ≤ ys.length := by omega
      by_cases h0 : v = 0
      case pos =>
        obtain ⟨gd, hD, hgd, -, -⟩ := st5.ow.form (show 0 < ys.length by omega)
        subst hD
        have hx1 : w5.cell? ⟨gd, 1, none⟩ = some (.int .i64 (ys.getD 1 0)) := (st5.ow.cell (by omega)).trans (ints_at ys 1 (by omega))
        have hx0 : w5.cell? ⟨gd, 0, none⟩ = some (.int .i64 (ys.getD 0 0)) := (st5.ow.cell (by omega)).trans (ints_at ys 0 (by omega))
        have f0 := st5.ow.free 0
        have hgg : g < gd := Nat.lt_of_lt_of_le HG.out hgd
        have HE := Go.Lib.hid (show StL w g A n cap bs (ys.set 0 (ys.getD 1 0)) (some ⟨gd, 0, none⟩) d (w5.setCell ⟨gd, 0, none⟩ (.int .i64 (ys.getD 1 0))) from
          ⟨st5.src.other (p := ⟨gd, 0, none⟩) hgg _, st5.kp.setNew (p := ⟨gd, 0, none⟩) hgd _, by
            have := st5.ow.set_ (k := 0) (.int .i64 (ys.getD 1 0))
            rw [ints_set] at this
            simpa [World.setCell] using this⟩)
        clear st5
        generalize ys.getD 1 0 = x1 at *
        subst h0
        have hyz : (1 : Int) < ys.length := by omega
        go_wp2_with fail
        go_ret2
        exact ⟨m, _, _, d, by rw [List.length_set]; rfl, ⟨by omega, by omega, by rw [List.length_set]; omega⟩, HE.out⟩
      case neg =>
      have hb0 : (v == 0) = false := by simpa using h0
      by_cases h1 : v = 1
      case pos =>
        have hown := st5.ow.1
        have hbs := st5.kp.size
        obtain ⟨i0, hi, hz0, hz1, hz2⟩ := info_parts infoI64
        subst h1
        clear st5 h0
        go_wp2_with (at_builtin; refine wpList_append_own_at _ rfl _ _ 24 rfl w.heap.size 2 i0 (.int .i64 0) 1 8 Try.underlying24 hi hz0 hz1 hz2 rfl (by decide) _ _ _ rfl (hown.alloc _) ⟨w5.heap.size, 0, none⟩ 1 1 [.int .i64 m] rfl rfl (cell_one_new _ _ _) (by simp [Value.oneCell']) (by unfold maxLen; omega) (by omega) (by simp; omega) ?_; intro v' w6 hown' hgrow hnil hat; clear hnil hat; obtain ⟨A', cap', rfl, ho⟩ := row_ow hown')
        have hgrow2 := show World.grownBy _ w6 (Value.slice D ys.length d).ownBlock from hgrow
        have b6 : Below w.heap.size w5 w6 := ((Below.refl w.heap.size w5).alloc hbs _).grown hgrow2 (by simp; omega) (fun j ej => by
          rcases hown.2 with ⟨e1, _⟩ | ⟨g1, cap1, cur, e1, hb, _, _⟩
          · rw [e1] at ej; simp [Value.ownBlock] at ej
          · rw [e1] at ej
            obtain rfl : g1 = j := by simpa [Value.ownBlock] using ej
            exact hb)
        have HE := Go.Lib.hid (show StL w g A n cap bs (ys ++ [m]) A' cap' w6 from ⟨ST5.out.src.below' b6 HG.out, ST5.out.kp.then_below b6, by
          have e : ints (ys ++ [m]) = ints ys ++ [.int .i64 m] := by simp [ints]
          rw [e, List.length_append]; exact ho⟩)
        clear hown hown' hgrow hgrow2 ho b6
        go_wp2_with fail
        go_ret2
        exact ⟨m, ys ++ [m], A', cap', by rw [List.length_append]; rfl, ⟨by omega, by omega, by rw [List.length_append]; simp; omega⟩, HE.out⟩
      case neg =>
      have hb1 : (v == 1) = false := by simpa using h1
      by_cases h2 : v = 2
      case pos =>
        have HP := Go.Lib.hid (fun t cs (hc : cs = (ints [9, 14, 24, 0]).toArray) => pickNew g A n cap bs w5 st5.src [9, 14, 24, 0] 4 rfl (by omega) (by omega) (fun x => 0 ≤ x ∧ x ≤ 24) (by intro x hx; simp at hx; omega) (t := t) hc)
        subst h2
        clear st5 h0 h1
        go_wp2_with fail
        refine (HP.out _ _ rfl).mono ?_
        rintro _ w6 ⟨x, rfl, ⟨hx0, hx1⟩, s6, k6⟩
        have HE := Go.Lib.hid (ST5.out.next HG.out s6 k6)
        clear s6 k6
        go_wp2_with fail
        go_ret2
        exact ⟨x, ys, D, d, rfl, ⟨hx0, hx1, by omega⟩, HE.out⟩
      case neg =>
        have hb2 : (v == 2) = false := by simpa using h2
        clear st5 h0 h1 h2
        go_wp2_with fail
        go_ret2
        exact ⟨m, ys, D, d, rfl, ⟨by omega, by omega, by omega⟩, ST5.out⟩
end Go.Proofs.Ytlmbcidijbohiaa
