/- The program: how many others a spoke crosses. -/
import Derived.Test.YtlmbcidijbohiaaLacI2
namespace Go.Proofs.Ytlmbcidijbohiaa
open Go.RowKit
attribute [local go_sem] Oper.semAt_some

theorem KeepsOthers.drewN (W : World) (m : Nat) : KeepsOthers W (W.drewN m) := ⟨Nat.le_refl _, fun _ _ h _ => h⟩

set_option maxRecDepth 100000 in
set_option maxHeartbeats 4000000 in
theorem implCount (n : Int) (A : Option Addr) (c : Nat) (zs : List Int) (k : Nat) (w : World) (lo hi : Nat) (h0 : Rd w lo hi A zs.length (ints zs)) (hL : Lac n zs) (hk : k < zs.length) :
    Calls Try.prog 61 #[.int .i64 n, .slice A zs.length c, .int .i64 k] w fun e w' => e = .returned (.int .i64 (countAt n zs k)) ∧ Below w.heap.size w w' := by
  have h := Go.Lib.hid h0.here
  clear h0
  obtain ⟨s, hs0⟩ : ∃ s, w.heap.size = s := ⟨_, rfl⟩
  have HS := Go.Lib.hid hs0
  clear hs0
  have hlen := hL.len
  obtain ⟨r0, r1, -⟩ := hL.rim
  have HC := Go.Lib.hid (fun (l : Nat) (w0 : World) (h1 : Rd w0 0 w0.heap.size A zs.length (ints zs)) (hl : l < zs.length) (hkl : l ≠ k) => implCross n A c zs k l w0 _ _ h1 hL hk hl hkl)
  clear hL
  refine (callsIn_wide (n := 5)).1 ?_
  refine callsIn_of_wp_marks Try.func61 rfl trivial ?_ rfl
  simp only [Try.ntmps61, List.size_toArray, List.length_cons, List.length_nil, Nat.reduceAdd, Nat.reduceSub, Array.replicate_succ, Array.replicate_zero, List.push_toArray, List.append_toArray, List.nil_append, List.cons_append]
  refine (wpIn_wide (n := 5)).2 ?_
  go_upto_region 2 with fail
  refine wp_gen (R := fun W => W.heap.size = s + 1 + 1 + 1 + 1 ∧ Below s w W ∧ Box W s [.int .i64 n] ∧ Box W (s + 1) [.slice A zs.length c] ∧ Box W (s + 1 + 1) [.int .i64 k] ∧ Box W (s + 1 + 1 + 1) [.int .i64 0]) ?_ ?_
  · have e := HS.out
    subst e
    refine ⟨by simp, (((((Below.refl _ w).alloc (Nat.le_refl _) _).alloc (by simp) _).alloc (by simp; omega) _).alloc (by simp; omega) _), ?_, ?_, ?_, ?_⟩
    · exact (((Box.new rfl rfl).alloc _).alloc _).alloc _
    · exact ((Box.new (by simp) rfl).alloc _).alloc _
    · exact (Box.new (by simp) rfl).alloc _
    · exact Box.new (by simp) rfl
  rw [HS.out]
  rintro wa ⟨za, ba, a0, a1, a2, a3⟩
  have c0 := a0.at_ 0 _ rfl
  go_wp2_with fail
  refine (implPlaces _ _).mono ?_
  rintro _ _ ⟨rfl, rfl⟩
  go_wp2_with fail
  refine wp_gen (R := fun W => W.heap.size = s + 1 + 1 + 1 + 1 + 1 ∧ Below s w W ∧ Box W s [.int .i64 n] ∧ Box W (s + 1) [.slice A zs.length c] ∧ Box W (s + 1 + 1) [.int .i64 k] ∧ Box W (s + 1 + 1 + 1) [.int .i64 0] ∧ Box W (s + 1 + 1 + 1 + 1) [.int .i64 zs.length]) ?_ ?_
  · exact ⟨by simp [za], ba.alloc (by omega) _, a0.alloc _, a1.alloc _, a2.alloc _, a3.alloc _, Box.new za.symm (by rw [hlen])⟩
  clear a0 a1 a2 a3 c0 za ba
  rintro wb ⟨zb, bb, b0, b1, b2, b3, bN⟩
  refine (wpIn_wide (n := 4)).1 ?_
  refine wpIn_rangeFunc_ownG rfl (by omega) (gf := 66) (lb := #[.pointer (some ⟨s + 1 + 1 + 1 + 1, 0, none⟩)]) rfl trivial (enters_of Try.func66 (by kernel_rfl) rfl)
    (places_stops 3 (by omega) (s + 1 + 1 + 1 + 1) zs.length (by omega) wb (by omega) (bN.at_ 0 _ rfl)) (fun _ _ => trivial) (fun _ _ _ _ _ _ _ _ => trivial) (Below.refl _ _) (fun _ => rfl)
    (fun pre W => Rnd wb.heap.size s w (fun W => (Box W s [.int .i64 n] ∧ Box W (s + 1) [.slice A zs.length c] ∧ Box W (s + 1 + 1) [.int .i64 k] ∧ Box W (s + 1 + 1 + 1) [.int .i64 ((pre.map Fin.val).countP (othersB n zs k) : Nat)]) ∧ pre.length ≤ pre.length) W)
    (fun co pre W => False)
    (Rnd.own (by omega) fun pre => ((Lo.box (by omega) (by simp)).and ((Lo.box (by omega) (by simp)).and ((Lo.box (by omega) (by simp)).and (Lo.box (by omega) (by simp))))).and Lo.pure)
    (fun _ _ _ _ _ hs _ _ => hs)
    ⟨bb, Nat.le_refl _, ⟨b0, b1, b2, b3⟩, Nat.le_refl _⟩ ?a1 ?assign ?body ?done ?stop
  case assign =>
    intro l x W K hK
    gi_wp2
    exact hK
  case body =>
    rintro l pre x W ⟨hb, hs, ⟨e0, e1, e2, e3⟩, -⟩ hlt
    have d0 := e0.at_ 0 _ rfl
    have d1 := e1.at_ 0 _ rfl
    have d2 := e2.at_ 0 _ rfl
    have d3 := e3.at_ 0 _ rfl
    have f3 := e3.fr 0
    have hle : (pre.map Fin.val).countP (othersB n zs k) ≤ zs.length := Nat.le_trans List.countP_le_length (by simp; omega)
    have HX := Go.Lib.hid (show ((pre ++ [x]).map Fin.val).countP (othersB n zs k) = (pre.map Fin.val).countP (othersB n zs k) + if othersB n zs k x.1 then 1 else 0 by simp [List.countP_append])
    have hrd := h.out.below (w' := W) (by rw [HS.out]; exact hb) (Nat.le_refl _)
    generalize (pre.map Fin.val).countP (othersB n zs k) = q at *
    by_cases hx : x.1 = k
    case pos =>
      have hO : othersB n zs k x.1 = false := by simp [othersB, hx]
      rw [hO] at HX
      have hxb : ((x.1 : Int) != (k : Int)) = false := by simp [hx]
      have HB := Go.Lib.hid hb
      clear hrd hx hO hb
      gi_wp2_with fail
      refine ⟨trivial, ?_⟩
      gi_wp2_with fail
      refine ⟨KeepsFrom.refl _ _, trivial, HB.out, hs, ⟨e0, e1, e2, ?_⟩, Nat.le_refl _⟩
      rw [HX.out]; exact e3
    case neg =>
      have hxb : ((x.1 : Int) != (k : Int)) = true := by simp; omega
      have HP := Go.Lib.hid (HC.out x.1 W ((hrd.mono (Nat.le_refl _) (by rw [HS.out]; exact Nat.le_trans (by omega) hs))) x.2 hx)
      have hO : othersB n zs k x.1 = crossB n zs k x.1 := by simp [othersB, hx]
      rw [hO] at HX
      have HB := Go.Lib.hid hb
      clear hrd hx hO hb
      by_cases hc : crossB n zs k x.1 = true
      case pos =>
        rw [hc] at HX HP
        clear hc
        gi_wp2_with fail
        refine ⟨trivial, (Calls.round HP.out).mono ?_⟩
        rintro _ _ ⟨rfl, m, rfl⟩
        clear HP
        gi_wp2_with fail
        refine ⟨((KeepsOthers.drewN W m).trans (KeepsOthers.setCell _ _ _)).from _, trivial, Rnd.set (J := fun _ => True) ⟨below_drewN HB.out m, hs, trivial⟩ (by omega) _ ⟨⟨(e0.drewN m).other (by simp; omega) _, (e1.drewN m).other (by simp; omega) _, (e2.drewN m).other (by simp) _, ?_⟩, Nat.le_refl _⟩⟩
        rw [HX.out]; exact (e3.drewN m).set (k := 0) _ (by simp)
      case neg =>
        rw [Bool.not_eq_true] at hc
        rw [hc] at HX HP
        clear hc
        gi_wp2_with fail
        refine ⟨trivial, (Calls.round HP.out).mono ?_⟩
        rintro _ _ ⟨rfl, m, rfl⟩
        clear HP
        gi_wp2_with fail
        refine ⟨(KeepsOthers.drewN W m).from _, trivial, below_drewN HB.out m, hs, ⟨e0.drewN m, e1.drewN m, e2.drewN m, ?_⟩, Nat.le_refl _⟩
        rw [HX.out]; exact e3.drewN m
  case done =>
    rintro D ys W hD hys ⟨hb, hs, ⟨-, -, -, e3⟩, -⟩ hK
    have d3 := e3.at_ 0 _ rfl
    have HR : Hid ((ys.map Fin.val).countP (othersB n zs k) = countAt n zs k) := Go.Lib.hid (by
      have hys' : ys.map Fin.val = List.range zs.length := hys
      rw [hys']; rfl)
    rw [HR.out] at d3
    clear hys
    go_wp2_with fail
    have r2 : Rnd wb.heap.size s w (fun W => True) W := ⟨hb, hs, trivial⟩
    have r3 := r2.shut (by omega) Lo.pure hD hK (o' := .deferred none)
    exact leave1 hK (results_tmp rfl _ _ _) ⟨rfl, by rw [HS.out]; exact r3.b⟩
  case stop =>
    rintro D co pre W hD _ hI hK
    exact hI.elim
end Go.Proofs.Ytlmbcidijbohiaa
