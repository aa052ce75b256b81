/- The program's HubText. -/
import Derived.Test.YtcphhcnomaociabDoorHubText
import Derived.Test.YtcphhcnomaociabDoorHubSmall
import Derived.Test.YtcphhcnomaociabDoorTab
import Derived.Test.YtcphhcnomaociabDoorShelf
import Derived.Deep.LoopGhost
import Derived.Deep.AppendLies
namespace Go.Proofs.YtcphhcnomaociabDoor
open Go.RowKit

/-- What MeasureText tells of a measure of a hub. -/
theorem measSmall (z : Int) (w : World) (ht : Tab w) (h0 : 0 ≤ z) (h1 : z ≤ 1200) :
    Calls Tryd.prog 20 #[.int .i64 z] w fun e w' => e = .returned (.tuple #[.string (strOf (measL z)), .int .i64 0]) ∧ Below w.heap.size w w' :=
  (implMeasureText z w ht).mono fun e w' h => ⟨by rw [h.2, okVal_small h0 h1]; rfl, h.1⟩
/-- The first k parts, gathered. -/
def GathT (w : World) (L : List ByteArray) (k : Nat) (v : Value) (wr : World) : Prop :=
  ∃ q c, v = .slice (some ⟨q, 0, none⟩) k c ∧ Ow wr w.heap.size wr.heap.size 9 (some ⟨q, 0, none⟩) k c (bas (L.take k)) ∧ Below w.heap.size w wr ∧ Tab wr
theorem GathT.start {w W : World} {L : List ByteArray} {x : ByteArray} (h1 : L.take 1 = [x]) (hb : Below w.heap.size w W) (ht : Tab W) :
    GathT w L 1 (.slice (some ⟨W.heap.size, 0, none⟩) 1 1) (W.alloc (.cells #[.string x] 9)) := by
  refine ⟨_, _, rfl, ⟨⟨by rw [bas_len, h1]; rfl, .inr ⟨W.heap.size, 1, #[.string x], rfl, hb.size, heap_alloc_new W _, Nat.le_refl _, by decide, by simp, by rw [h1]; rfl⟩⟩, fun g hg => ?_⟩, hb.alloc hb.size _, ht.below ((Below.refl _ _).alloc (Nat.le_refl _) _)⟩
  rw [← show W.heap.size = g by simpa [Value.ownBlock] using hg]
  simp
theorem GathT.next {w wr w1 w3 : World} {L : List ByteArray} {k q c g c3 : Nat} {x : ByteArray} {o : Obj} (ho : Ow wr w.heap.size wr.heap.size 9 (some ⟨q, 0, none⟩) k c (bas (L.take k))) (hb : Below w.heap.size w wr) (hb1 : Below wr.heap.size wr w1) (ht : Tab w)
    (htk : bas (L.take (k + 1)) = bas (L.take k) ++ [.string x])
    (hown : w3.ownsRow w.heap.size 9 1 (.slice (some ⟨g, 0, none⟩) (k + 1) c3) (k + 1) (bas (L.take k) ++ [.string x])) (hgrow : (w1.alloc o).grownBy w3 (some q)) (hlt : g < w3.heap.size) :
    GathT w L (k + 1) (.slice (some ⟨g, 0, none⟩) (k + 1) c3) w3 := by
  have hb2 : Below w.heap.size w w1 := hb.trans (hb1.mono hb.size)
  have hq := ho.1.lt q rfl
  have hb4 : Below w.heap.size w1 w3 := ((Below.refl _ _).alloc hb2.size _).grown hgrow (by have := hb2.size; simp; omega) (fun j hj => by cases hj; exact hq.1)
  have hb3 : Below w.heap.size w w3 := hb2.trans hb4
  refine ⟨_, _, rfl, ⟨by rw [htk]; exact hown, fun g' hg' => by rw [← show g = g' by simpa [Value.ownBlock] using hg']; exact hlt⟩, hb3, ht.below hb3⟩
theorem hubZs_eq (h : Hb) : hubZs h = [strOf (Go.Lib.decDigits h.n.toNat), strOf (measL h.l), strOf (measL h.r), strOf (measL h.a), strOf (measL h.b)] := rfl
theorem bas_step (L : List ByteArray) (k : Nat) (x : ByteArray) (h : L.take (k + 1) = L.take k ++ [x]) : bas (L.take (k + 1)) = bas (L.take k) ++ [.string x] := by rw [h]; simp [bas]
theorem joinHub (q c : Nat) (h : Hb) (wr : World) {lo : Nat} (ho : Ow wr lo wr.heap.size 9 (some ⟨q, 0, none⟩) 5 c (bas (hubZs h))) (hlo : lo ≤ wr.heap.size) (hb : hubB h = true) :
    Calls Tryd.prog 21 #[.slice (some ⟨q, 0, none⟩) 5 c, .string ⟨#[47]⟩] wr (NewStr wr (hubT h)) := by
  have hq := ho.1.lt q rfl
  have hl := hubT_len hb
  have hm : (hubZs h).map (·.data.toList) = hubPs h := hubZs_texts h
  have hcell : ∀ (j : Nat) x, (hubZs h)[j]? = some x → wr.cell? ⟨q, 0 + j, none⟩ = some (.string x) := by
    intro j x hx
    have hj : j < 5 := by
      rcases Nat.lt_or_ge j 5 with h | h
      · exact h
      · rw [List.getElem?_eq_none (by simpa [hubZs, hubPs] using h)] at hx; cases hx
    obtain ⟨b, o, e, -, -, cc⟩ := ho.rd.at_ hj
    injection e with e
    injection e with e1 e2
    subst e1
    subst e2
    exact cc j _ (by simp [bas, hx])
  have hj := Tryd.strings_Join q 0 c (hubZs h) ⟨#[47]⟩ wr hcell hq.2 (by simp [hubZs, hubPs]) (ho.le) (by rw [hm]; show (hubT h).length ≤ _; omega)
  rw [hm] at hj
  exact hj
set_option maxRecDepth 100000 in
set_option maxHeartbeats 4000000 in
theorem implHubText (h : Hb) (w : World) (ht : Tab w) : Calls Tryd.prog 8 #[hubV h] w (HubTEnd w h) := by
  have HTW := Go.Lib.hid ht
  have HH := Go.Lib.hid (fun w0 => implHubValid h w0)
  have hv : ∀ e w', HubTEnd w h e w' ↔ Below w.heap.size w w' ∧ e = .returned (.tuple (if hubB h then #[.string ⟨(hubT h).toArray⟩, .int .i64 0] else #[.string ⟨#[]⟩, .int .i64 1])) := fun _ _ => Iff.rfl
  clear ht
  cases hb : hubB h
  · rw [hb] at HH
    have HV : Hid (∀ w', Below w.heap.size w w' → HubTEnd w h (.returned (.tuple #[.string ⟨#[]⟩, .int .i64 1])) w') := fun w' hw => (hv _ _).2 ⟨hw, by rw [hb]; rfl⟩
    clear hv hb
    go_enter Tryd.func8, Tryd.ntmps8
    go_wp2_with fail
    refine (HH.out _).mono ?_
    rintro _ w1 ⟨rfl, b1⟩
    have B1 := upB (a := w) (by go_grown) b1
    go_wp2_with fail
    go_ret2
    exact HV.out _ B1
  · have hubOk := Go.Lib.hid hb
    obtain ⟨hn, ⟨l0, l1⟩, ⟨r0, r1⟩, ⟨a0, a1⟩, b0, b1⟩ := hubB_of hb
    obtain ⟨n0, n1, -⟩ := holes_bd hn
    rw [hb] at HH
    have HV : Hid (∀ w', Below w.heap.size w w' → HubTEnd w h (.returned (.tuple #[.string ⟨(hubT h).toArray⟩, .int .i64 0])) w') := fun w' hw => (hv _ _).2 ⟨hw, by rw [hb]; rfl⟩
    have HF := Go.Lib.hid (fun w0 (ht : Tab w0) => format h.n w0 ht (by omega) (by omega))
    have HM := Go.Lib.hid (fun z w0 (ht : Tab w0) (h0 : 0 ≤ z) (h1 : z ≤ 1200) => measSmall z w0 ht h0 h1)
    have l0 : 0 ≤ h.l := by omega
    have r0 : 0 ≤ h.r := by omega
    have a1 : h.a ≤ 1200 := by omega
    have b1 : h.b ≤ 1200 := by omega
    obtain ⟨i0, hi, hz0, hz1, hz2⟩ := info_parts infoStr
    clear hv hb hn n0 n1
    go_enter Tryd.func8, Tryd.ntmps8
    go_wp2_with fail
    refine calls_gen (R := fun w' => Box w' w.heap.size [.int .i64 h.n, .int .i64 h.l, .int .i64 h.r, .int .i64 h.a, .int .i64 h.b] ∧ Below w.heap.size w w') ⟨Box.new rfl rfl, by go_grown⟩ ?_
    rintro W0 ⟨K0, B0⟩
    refine (HH.out _).mono ?_
    rintro _ W1 ⟨rfl, b1⟩
    have K1 := K0.below b1
    have B1 := upB B0 b1
    clear b1 K0 B0
    have p0 := K1.at_ 0 _ rfl
    have p1 := K1.at_ 1 _ rfl
    have p2 := K1.at_ 2 _ rfl
    have p3 := K1.at_ 3 _ rfl
    have p4 := K1.at_ 4 _ rfl
    have pf := K1.fr
    have pl := K1.lt
    go_wp2_with fail
    clear p0 p1 p2 p3 p4 pf pl
    refine (HF.out _ (HTW.out.below B1)).mono ?_
    rintro _ W2 ⟨rfl, b2⟩
    have K2 := K1.below b2
    have B2 := upB B1 b2
    clear b2 K1 B1
    have p0 := K2.at_ 0 _ rfl
    have p1 := K2.at_ 1 _ rfl
    have p2 := K2.at_ 2 _ rfl
    have p3 := K2.at_ 3 _ rfl
    have p4 := K2.at_ 4 _ rfl
    have pf := K2.fr
    have pl := K2.lt
    go_upto_region 4 with fail
    clear p0 p1 p2 p3 p4 pf pl
    refine wp_gen (R := fun w' => Box w' w.heap.size [.int .i64 h.n, .int .i64 h.l, .int .i64 h.r, .int .i64 h.a, .int .i64 h.b] ∧ GathT w (hubZs h) 1 (.slice (some ⟨W2.heap.size, 0, none⟩) 1 1) w') ⟨K2.alloc _, GathT.start rfl B2 (HTW.out.below B2)⟩ ?_
    rintro W3 ⟨K3, G3⟩
    clear K2 B2
    have G3 := Go.Lib.hid G3
    have p0 := K3.at_ 0 _ rfl
    have p1 := K3.at_ 1 _ rfl
    have p2 := K3.at_ 2 _ rfl
    have p3 := K3.at_ 3 _ rfl
    have p4 := K3.at_ 4 _ rfl
    have pf := K3.fr
    have pl := K3.lt
    go_wp2_with fail
    go_loopw [4, 25] (fun v i wr => ∃ k : Nat, k ≤ 4 ∧ i = .int .i64 k ∧ GathT w (hubZs h) (k + 1) v wr) (fun _ i _ => 4 - (intOf i).toNat)
    case atStart => exact ⟨0, by omega, rfl, G3.out⟩
    case round =>
      clear G3 K3 p0 p1 p2 p3 p4 pf pl HH HF
      obtain ⟨k, hk, rfl, q, c, rfl, ho, hb, ht2⟩ := hrel
      have hq := (ho.1.lt q rfl).1
      obtain rfl | rfl | rfl | rfl | rfl : k = 0 ∨ k = 1 ∨ k = 2 ∨ k = 3 ∨ k = 4 := by omega
      · have HX := Go.Lib.hid (HM.out h.l)
        have ix : ∀ w0, (Instr.index 44 (.agg #[.int .i64 h.l, .int .i64 h.r, .int .i64 h.a, .int .i64 h.b]) (.int .i64 0)).run Tryd.prog w0 = .ok (.int .i64 h.l) w0 := fun _ => by kernel_rfl
        have htk := Go.Lib.hid (bas_step (hubZs h) 1 (strOf (measL h.l)) rfl)
        go_wp2_with fail
        refine (HX.out _ ht2 l0 l1).mono ?_
        rintro _ w1 ⟨rfl, hb1⟩
        have ho1 := (ho.below hb1 (Nat.le_refl _)).1
        have hws : w.heap.size ≤ w1.heap.size := Nat.le_trans hb.size hb1.size
        generalize strOf (measL h.l) = x at htk
        go_wp2_with (at_builtin; refine wpList_append_lies _ rfl _ _ 43 rfl w.heap.size 9 i0 (.string ⟨#[]⟩) 1 16 Tryd.underlying43 hi hz0 hz1 hz2 rfl (by omega) _ 1 _ rfl (ho1.alloc _) ⟨w1.heap.size, 0, none⟩ 1 1 [.string x] rfl rfl (World.news_of_block (heap_alloc_new w1 _)) (by simp [Value.oneCell']) (by omega) (by unfold maxLen; omega) (by omega) (by simp; omega) _ rfl ?_; intro g cap3 w3 hown hgrow hat hlt3)
        have HN := Go.Lib.hid (GathT.next ho hb hb1 HTW.out htk.out hown hgrow hlt3)
        clear hown hgrow hat hlt3 ho hb hb1 ho1 ht2
        go_wp2
        go_roundw
        case rel => exact ⟨1, by omega, by go_num, HN.out⟩
        case measure => simp [intOf]
      · have HX := Go.Lib.hid (HM.out h.r)
        have ix : ∀ w0, (Instr.index 44 (.agg #[.int .i64 h.l, .int .i64 h.r, .int .i64 h.a, .int .i64 h.b]) (.int .i64 1)).run Tryd.prog w0 = .ok (.int .i64 h.r) w0 := fun _ => by kernel_rfl
        have htk := Go.Lib.hid (bas_step (hubZs h) 2 (strOf (measL h.r)) rfl)
        go_wp2_with fail
        refine (HX.out _ ht2 r0 r1).mono ?_
        rintro _ w1 ⟨rfl, hb1⟩
        have ho1 := (ho.below hb1 (Nat.le_refl _)).1
        have hws : w.heap.size ≤ w1.heap.size := Nat.le_trans hb.size hb1.size
        generalize strOf (measL h.r) = x at htk
        go_wp2_with (at_builtin; refine wpList_append_lies _ rfl _ _ 43 rfl w.heap.size 9 i0 (.string ⟨#[]⟩) 1 16 Tryd.underlying43 hi hz0 hz1 hz2 rfl (by omega) _ 2 _ rfl (ho1.alloc _) ⟨w1.heap.size, 0, none⟩ 1 1 [.string x] rfl rfl (World.news_of_block (heap_alloc_new w1 _)) (by simp [Value.oneCell']) (by omega) (by unfold maxLen; omega) (by omega) (by simp; omega) _ rfl ?_; intro g cap3 w3 hown hgrow hat hlt3)
        have HN := Go.Lib.hid (GathT.next ho hb hb1 HTW.out htk.out hown hgrow hlt3)
        clear hown hgrow hat hlt3 ho hb hb1 ho1 ht2
        go_wp2
        go_roundw
        case rel => exact ⟨2, by omega, by go_num, HN.out⟩
        case measure => simp [intOf]
      · have HX := Go.Lib.hid (HM.out h.a)
        have ix : ∀ w0, (Instr.index 44 (.agg #[.int .i64 h.l, .int .i64 h.r, .int .i64 h.a, .int .i64 h.b]) (.int .i64 2)).run Tryd.prog w0 = .ok (.int .i64 h.a) w0 := fun _ => by kernel_rfl
        have htk := Go.Lib.hid (bas_step (hubZs h) 3 (strOf (measL h.a)) rfl)
        go_wp2_with fail
        refine (HX.out _ ht2 a0 a1).mono ?_
        rintro _ w1 ⟨rfl, hb1⟩
        have ho1 := (ho.below hb1 (Nat.le_refl _)).1
        have hws : w.heap.size ≤ w1.heap.size := Nat.le_trans hb.size hb1.size
        generalize strOf (measL h.a) = x at htk
        go_wp2_with (at_builtin; refine wpList_append_lies _ rfl _ _ 43 rfl w.heap.size 9 i0 (.string ⟨#[]⟩) 1 16 Tryd.underlying43 hi hz0 hz1 hz2 rfl (by omega) _ 3 _ rfl (ho1.alloc _) ⟨w1.heap.size, 0, none⟩ 1 1 [.string x] rfl rfl (World.news_of_block (heap_alloc_new w1 _)) (by simp [Value.oneCell']) (by omega) (by unfold maxLen; omega) (by omega) (by simp; omega) _ rfl ?_; intro g cap3 w3 hown hgrow hat hlt3)
        have HN := Go.Lib.hid (GathT.next ho hb hb1 HTW.out htk.out hown hgrow hlt3)
        clear hown hgrow hat hlt3 ho hb hb1 ho1 ht2
        go_wp2
        go_roundw
        case rel => exact ⟨3, by omega, by go_num, HN.out⟩
        case measure => simp [intOf]
      · have HX := Go.Lib.hid (HM.out h.b)
        have ix : ∀ w0, (Instr.index 44 (.agg #[.int .i64 h.l, .int .i64 h.r, .int .i64 h.a, .int .i64 h.b]) (.int .i64 3)).run Tryd.prog w0 = .ok (.int .i64 h.b) w0 := fun _ => by kernel_rfl
        have htk := Go.Lib.hid (bas_step (hubZs h) 4 (strOf (measL h.b)) rfl)
        go_wp2_with fail
        refine (HX.out _ ht2 b0 b1).mono ?_
        rintro _ w1 ⟨rfl, hb1⟩
        have ho1 := (ho.below hb1 (Nat.le_refl _)).1
        have hws : w.heap.size ≤ w1.heap.size := Nat.le_trans hb.size hb1.size
        generalize strOf (measL h.b) = x at htk
        go_wp2_with (at_builtin; refine wpList_append_lies _ rfl _ _ 43 rfl w.heap.size 9 i0 (.string ⟨#[]⟩) 1 16 Tryd.underlying43 hi hz0 hz1 hz2 rfl (by omega) _ 4 _ rfl (ho1.alloc _) ⟨w1.heap.size, 0, none⟩ 1 1 [.string x] rfl rfl (World.news_of_block (heap_alloc_new w1 _)) (by simp [Value.oneCell']) (by omega) (by unfold maxLen; omega) (by omega) (by simp; omega) _ rfl ?_; intro g cap3 w3 hown hgrow hat hlt3)
        have HN := Go.Lib.hid (GathT.next ho hb hb1 HTW.out htk.out hown hgrow hlt3)
        clear hown hgrow hat hlt3 ho hb hb1 ho1 ht2
        go_wp2
        go_roundw
        case rel => exact ⟨4, by omega, by go_num, HN.out⟩
        case measure => simp [intOf]
      · have ht3 : (hubZs h).take 5 = hubZs h := rfl
        rw [ht3] at ho
        have HJ := Go.Lib.hid (joinHub q c h wr ho hb.size)
        clear ht3 ho ht2
        go_wp2_with fail
        refine (HJ.out hubOk.out).mono ?_
        rintro _ w1 ⟨rfl, hb1⟩
        go_wp2_with fail
        go_ret2
        exact HV.out _ (hb.trans (hb1.mono hb.size))
end Go.Proofs.YtcphhcnomaociabDoor
