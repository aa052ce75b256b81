/- The model's SpokeCounts: rows of its own. -/
import Derived.Test.YtabcbecmieolhaaSpoke1
import Derived.Test.YtabcbecmieolhaaGrid
namespace Go.Proofs.Ytabcbecmieolhaa
open Go.RowKit

def cntA (x : Wh) : List (List Int) × Int := if wheelB x then (countsL x, 0) else ([], 1)
/-- Behind SpokeCounts: rows of the call's own, and the code. -/
def RowsEnd (p : List (List Int) × Int) (w : World) (e : Ending) (w' : World) : Prop :=
  ∃ A cap a c G g, e = .returned (.tuple #[.slice A p.1.length cap, .int .i64 p.2]) ∧ GridAt w' w.heap.size w'.heap.size A p.1.length p.1 a c G g ∧ Below w.heap.size w w'
theorem RowsEnd.of {p : List (List Int) × Int} {zss : List (List Int)} {k : Int} {w w' : World} {A : Option Addr} {cap : Nat} {a : Nat → Option Addr} {c G : Nat → Nat} {g : Nat} {e : Ending} (hp : p = (zss, k)) (he : e = .returned (.tuple #[.slice A zss.length cap, .int .i64 k]))
    (hg : GridAt w' w.heap.size w'.heap.size A zss.length zss a c G g) (hb : Below w.heap.size w w') : RowsEnd p w e w' := by
  subst hp
  exact ⟨A, cap, a, c, G, g, he, hg, hb⟩
theorem grid0 (w : World) (lo hi : Nat) (A : Option Addr) : GridAt w lo hi A 0 [] (fun _ => none) (fun _ => 0) (fun _ => 0) 0 :=
  ⟨rfl, fun h => by omega, fun i h => by omega, fun i _ h => by omega, by omega, fun i h => by omega⟩
theorem grid1 (W : World) (a b : Int) (t t' : TypeId) (q : Nat) (hq : W.heap.size = q) : GridAt ((W.alloc (.cells #[.int .i64 a, .int .i64 b] t)).alloc (.cells #[.slice (some ⟨q, 0, none⟩) 2 2] t')) q (q + 2) (some ⟨q + 1, 0, none⟩) 1 [[a, b]] (fun i => some ⟨q + i, 0, none⟩) (fun _ => 2) (fun i => q + i) (q + 1) := by
  have b0 : Box (W.alloc (.cells #[.int .i64 a, .int .i64 b] t)) q [.int .i64 a, .int .i64 b] := Box.new hq.symm rfl
  have b1 := b0.alloc (.cells #[.slice (some ⟨q, 0, none⟩) 2 2] t')
  refine ⟨rfl, fun _ => ⟨rfl, by omega, Box.new (by simp [hq]) rfl⟩, fun i hi _ => ?_, fun i j hi hj hne => by omega, by omega, fun i hi => ?_⟩
  · obtain rfl : i = 0 := by omega
    exact ⟨rfl, by omega, b1⟩
  · obtain rfl : i = 0 := by omega
    simp [rowAt]
theorem grid2 (W : World) (a b c d : Int) (t t' : TypeId) (q : Nat) (hq : W.heap.size = q) : GridAt (((W.alloc (.cells #[.int .i64 a, .int .i64 b] t)).alloc (.cells #[.int .i64 c, .int .i64 d] t)).alloc (.cells #[.slice (some ⟨q, 0, none⟩) 2 2, .slice (some ⟨q + 1, 0, none⟩) 2 2] t')) q (q + 3) (some ⟨q + 2, 0, none⟩) 2 [[a, b], [c, d]] (fun i => some ⟨q + i, 0, none⟩) (fun _ => 2) (fun i => q + i) (q + 2) := by
  have b0 : Box (W.alloc (.cells #[.int .i64 a, .int .i64 b] t)) q [.int .i64 a, .int .i64 b] := Box.new hq.symm rfl
  have b1 := b0.alloc (.cells #[.int .i64 c, .int .i64 d] t)
  have c1 : Box ((W.alloc (.cells #[.int .i64 a, .int .i64 b] t)).alloc (.cells #[.int .i64 c, .int .i64 d] t)) (q + 1) [.int .i64 c, .int .i64 d] := Box.new (by simp [hq]) rfl
  have b2 := b1.alloc (.cells #[.slice (some ⟨q, 0, none⟩) 2 2, .slice (some ⟨q + 1, 0, none⟩) 2 2] t')
  have c2 := c1.alloc (.cells #[.slice (some ⟨q, 0, none⟩) 2 2, .slice (some ⟨q + 1, 0, none⟩) 2 2] t')
  refine ⟨rfl, fun _ => ⟨rfl, by omega, Box.new (by simp [hq]) rfl⟩, fun i hi _ => ?_, fun i j hi hj hne _ _ => by omega, by omega, fun i hi => ?_⟩
  · rcases Nat.lt_or_ge i 1 with h | h
    · obtain rfl : i = 0 := by omega
      exact ⟨rfl, by omega, b2⟩
    · obtain rfl : i = 1 := by omega
      exact ⟨rfl, by omega, c2⟩
  · rcases Nat.lt_or_ge i 1 with h | h
    · obtain rfl : i = 0 := by omega
      simp [rowAt]
    · obtain rfl : i = 1 := by omega
      simp [rowAt]
set_option maxRecDepth 100000 in
set_option maxHeartbeats 4000000 in
theorem specSpokeCounts (x : Wh) (w : World) : Calls Try.prog 21 #[wheelV x] w (RowsEnd (cntA x) w) := by
  have HW := Go.Lib.hid (fun w0 => specIsWheel x w0)
  cases hb : wheelB x
  · rw [hb] at HW
    have HV : Hid (cntA x = ([], 1)) := by unfold cntA; rw [hb]; rfl
    clear hb
    go_enter Try.func21, Try.ntmps21
    go_wp2_with fail
    refine calls_gen (R := fun w' => Box w' w.heap.size [.int .i64 x.h.n, .int .i64 x.h.l, .int .i64 x.h.r, .int .i64 x.h.a, .int .i64 x.h.b, .int .i64 x.r.n, .int .i64 x.r.d, .int .i64 x.r.o, .int .i64 x.c] ∧ Below w.heap.size w w') ⟨Box.new rfl rfl, by go_grown⟩ ?_
    rintro W1 ⟨K1_0, B1⟩
    refine (HW.out _).mono ?_
    rintro _ W2 ⟨rfl, b2⟩
    have K2_0 := K1_0.below b2
    have B2 := upB B1 b2
    clear b2 K1_0 B1
    have k2_0_0 := K2_0.at_ 0 _ rfl
    have k2_0_1 := K2_0.at_ 1 _ rfl
    have k2_0_2 := K2_0.at_ 2 _ rfl
    have k2_0_3 := K2_0.at_ 3 _ rfl
    have k2_0_4 := K2_0.at_ 4 _ rfl
    have k2_0_5 := K2_0.at_ 5 _ rfl
    have k2_0_6 := K2_0.at_ 6 _ rfl
    have k2_0_7 := K2_0.at_ 7 _ rfl
    have k2_0_8 := K2_0.at_ 8 _ rfl
    have k2_0_f := K2_0.fr
    have k2_0_l := K2_0.lt
    go_wp2_with fail
    go_ret2
    exact RowsEnd.of HV.out rfl (grid0 _ _ _ _) B2
  · rw [hb] at HW
    have HL := Go.Lib.hid (fun r w0 => specLen5 x r w0 hb)
    have hv : cntA x = (countsL x, 0) := by unfold cntA; rw [hb]; rfl
    unfold countsL at hv
    obtain ⟨⟨n0, n1, -⟩, -⟩ := wheel_bd hb
    have hd : x.h.n.tdiv 2 = x.h.n / 2 := Int.tdiv_eq_ediv_of_nonneg (by omega)
    have e1 : IntKind.i64.wrap (x.h.n / 2) = x.h.n / 2 := IntWalk.i64_in _ (by omega)
    have e2 : IntKind.i64.wrap (2 * (x.h.n / 2)) = 2 * (x.h.n / 2) := IntWalk.i64_in _ (by omega)
    clear n0 n1 hb
    obtain ⟨a, ha⟩ : ∃ a, a = spLen x false := ⟨_, rfl⟩
    obtain ⟨b, hbb⟩ : ∃ b, b = spLen x true := ⟨_, rfl⟩
    rw [← ha, ← hbb] at hv
    have HA := Go.Lib.hid ha
    have HB := Go.Lib.hid hbb
    clear ha hbb
    generalize x.h.n / 2 = m at *
    by_cases hab : a = b
    · rw [if_pos hab] at hv
      have HV := Go.Lib.hid hv
      have hq : (a == b) = true := by simp [hab]
      clear hv
      go_enter Try.func21, Try.ntmps21
      go_wp2_with fail
      refine calls_gen (R := fun w' => Box w' w.heap.size [.int .i64 x.h.n, .int .i64 x.h.l, .int .i64 x.h.r, .int .i64 x.h.a, .int .i64 x.h.b, .int .i64 x.r.n, .int .i64 x.r.d, .int .i64 x.r.o, .int .i64 x.c] ∧ Below w.heap.size w w') ⟨Box.new rfl rfl, by go_grown⟩ ?_
      rintro W1 ⟨K1_0, B1⟩
      refine (HW.out _).mono ?_
      rintro _ W2 ⟨rfl, b2⟩
      have K2_0 := K1_0.below b2
      have B2 := upB B1 b2
      clear b2 K1_0 B1
      have k2_0_0 := K2_0.at_ 0 _ rfl
      have k2_0_1 := K2_0.at_ 1 _ rfl
      have k2_0_2 := K2_0.at_ 2 _ rfl
      have k2_0_3 := K2_0.at_ 3 _ rfl
      have k2_0_4 := K2_0.at_ 4 _ rfl
      have k2_0_5 := K2_0.at_ 5 _ rfl
      have k2_0_6 := K2_0.at_ 6 _ rfl
      have k2_0_7 := K2_0.at_ 7 _ rfl
      have k2_0_8 := K2_0.at_ 8 _ rfl
      have k2_0_f := K2_0.fr
      have k2_0_l := K2_0.lt
      go_upto_region 3 with fail
      clear k2_0_0 k2_0_1 k2_0_2 k2_0_3 k2_0_4 k2_0_5 k2_0_6 k2_0_7 k2_0_8 k2_0_f k2_0_l
      have C := Go.Lib.hid (WB.mk (w := w) (x := x) K2_0 B2)
      clear K2_0 B2
      generalize w.heap.size = Q0 at C ⊢
      have e0 := C.out.cells
      go_region_held3 (fun w' => w'.cell? ⟨Q0, 0, none⟩ = some (.int .i64 x.h.n) ∧ w'.cell? ⟨Q0, 1, none⟩ = some (.int .i64 x.h.l) ∧ w'.cell? ⟨Q0, 2, none⟩ = some (.int .i64 x.h.r) ∧ w'.cell? ⟨Q0, 3, none⟩ = some (.int .i64 x.h.a) ∧ w'.cell? ⟨Q0, 4, none⟩ = some (.int .i64 x.h.b) ∧ w'.cell? ⟨Q0, 5, none⟩ = some (.int .i64 x.r.n) ∧ w'.cell? ⟨Q0, 6, none⟩ = some (.int .i64 x.r.d) ∧ w'.cell? ⟨Q0, 7, none⟩ = some (.int .i64 x.r.o) ∧ w'.cell? ⟨Q0, 8, none⟩ = some (.int .i64 x.c))
        (first | with_reducible exact C.out.cells | with_reducible exact C.out.drew.cells)
        (first | (go_at_call 52; refine (HL.out _ _).mono ?_; rintro _ V1 ⟨rfl, b1⟩; (first | have C := Go.Lib.hid (C.out.next b1) | have C := Go.Lib.hid (C.out.drew.next b1))))
      clear e0
      go_upto_region 4 with fail
      have HA2 := HA.out
      have HB2 := HB.out
      rw [← HA2, ← HB2]
      clear HA2 HB2
      refine wp_gen (R := fun w' => Below w.heap.size w w') C.out.below ?_
      clear C
      rintro V BV
      clear e1 hd
      go_wp2_with fail
      subst hab
      have BS := BV.size
      go_ret2
      exact RowsEnd.of HV.out rfl ((grid1 V _ _ _ _ _ rfl).mono BS (by simp)) (by go_grown)
    · rw [if_neg hab] at hv
      have hq : (a == b) = false := by simp [hab]
      by_cases hlt : a < b
      · have hgt : ¬ b < a := by omega
        rw [show min a b = a by omega, show max a b = b by omega] at hv
        have HV := Go.Lib.hid hv
        clear hv hab
        go_enter Try.func21, Try.ntmps21
        go_wp2_with fail
        refine calls_gen (R := fun w' => Box w' w.heap.size [.int .i64 x.h.n, .int .i64 x.h.l, .int .i64 x.h.r, .int .i64 x.h.a, .int .i64 x.h.b, .int .i64 x.r.n, .int .i64 x.r.d, .int .i64 x.r.o, .int .i64 x.c] ∧ Below w.heap.size w w') ⟨Box.new rfl rfl, by go_grown⟩ ?_
        rintro W1 ⟨K1_0, B1⟩
        refine (HW.out _).mono ?_
        rintro _ W2 ⟨rfl, b2⟩
        have K2_0 := K1_0.below b2
        have B2 := upB B1 b2
        clear b2 K1_0 B1
        have k2_0_0 := K2_0.at_ 0 _ rfl
        have k2_0_1 := K2_0.at_ 1 _ rfl
        have k2_0_2 := K2_0.at_ 2 _ rfl
        have k2_0_3 := K2_0.at_ 3 _ rfl
        have k2_0_4 := K2_0.at_ 4 _ rfl
        have k2_0_5 := K2_0.at_ 5 _ rfl
        have k2_0_6 := K2_0.at_ 6 _ rfl
        have k2_0_7 := K2_0.at_ 7 _ rfl
        have k2_0_8 := K2_0.at_ 8 _ rfl
        have k2_0_f := K2_0.fr
        have k2_0_l := K2_0.lt
        go_upto_region 3 with fail
        clear k2_0_0 k2_0_1 k2_0_2 k2_0_3 k2_0_4 k2_0_5 k2_0_6 k2_0_7 k2_0_8 k2_0_f k2_0_l
        have C := Go.Lib.hid (WB.mk (w := w) (x := x) K2_0 B2)
        clear K2_0 B2
        generalize w.heap.size = Q0 at C ⊢
        have e0 := C.out.cells
        go_region_held3 (fun w' => w'.cell? ⟨Q0, 0, none⟩ = some (.int .i64 x.h.n) ∧ w'.cell? ⟨Q0, 1, none⟩ = some (.int .i64 x.h.l) ∧ w'.cell? ⟨Q0, 2, none⟩ = some (.int .i64 x.h.r) ∧ w'.cell? ⟨Q0, 3, none⟩ = some (.int .i64 x.h.a) ∧ w'.cell? ⟨Q0, 4, none⟩ = some (.int .i64 x.h.b) ∧ w'.cell? ⟨Q0, 5, none⟩ = some (.int .i64 x.r.n) ∧ w'.cell? ⟨Q0, 6, none⟩ = some (.int .i64 x.r.d) ∧ w'.cell? ⟨Q0, 7, none⟩ = some (.int .i64 x.r.o) ∧ w'.cell? ⟨Q0, 8, none⟩ = some (.int .i64 x.c))
          (first | with_reducible exact C.out.cells | with_reducible exact C.out.drew.cells)
          (first | (go_at_call 52; refine (HL.out _ _).mono ?_; rintro _ V1 ⟨rfl, b1⟩; (first | have C := Go.Lib.hid (C.out.next b1) | have C := Go.Lib.hid (C.out.drew.next b1))))
        clear e0
        go_upto_region 4 with fail
        have HA2 := HA.out
        have HB2 := HB.out
        rw [← HA2, ← HB2]
        clear HA2 HB2
        refine wp_gen (R := fun w' => Below w.heap.size w w') C.out.below ?_
        clear C
        rintro V BV
        clear e1 hd
        go_wp2_with fail
        have BS := BV.size
        go_ret2
        exact RowsEnd.of HV.out rfl ((grid2 V _ _ _ _ _ _ _ rfl).mono BS (by simp)) (by go_grown)
      · have hgt : b < a := by omega
        rw [show min a b = b by omega, show max a b = a by omega] at hv
        have HV := Go.Lib.hid hv
        clear hv hab
        go_enter Try.func21, Try.ntmps21
        go_wp2_with fail
        refine calls_gen (R := fun w' => Box w' w.heap.size [.int .i64 x.h.n, .int .i64 x.h.l, .int .i64 x.h.r, .int .i64 x.h.a, .int .i64 x.h.b, .int .i64 x.r.n, .int .i64 x.r.d, .int .i64 x.r.o, .int .i64 x.c] ∧ Below w.heap.size w w') ⟨Box.new rfl rfl, by go_grown⟩ ?_
        rintro W1 ⟨K1_0, B1⟩
        refine (HW.out _).mono ?_
        rintro _ W2 ⟨rfl, b2⟩
        have K2_0 := K1_0.below b2
        have B2 := upB B1 b2
        clear b2 K1_0 B1
        have k2_0_0 := K2_0.at_ 0 _ rfl
        have k2_0_1 := K2_0.at_ 1 _ rfl
        have k2_0_2 := K2_0.at_ 2 _ rfl
        have k2_0_3 := K2_0.at_ 3 _ rfl
        have k2_0_4 := K2_0.at_ 4 _ rfl
        have k2_0_5 := K2_0.at_ 5 _ rfl
        have k2_0_6 := K2_0.at_ 6 _ rfl
        have k2_0_7 := K2_0.at_ 7 _ rfl
        have k2_0_8 := K2_0.at_ 8 _ rfl
        have k2_0_f := K2_0.fr
        have k2_0_l := K2_0.lt
        go_upto_region 3 with fail
        clear k2_0_0 k2_0_1 k2_0_2 k2_0_3 k2_0_4 k2_0_5 k2_0_6 k2_0_7 k2_0_8 k2_0_f k2_0_l
        have C := Go.Lib.hid (WB.mk (w := w) (x := x) K2_0 B2)
        clear K2_0 B2
        generalize w.heap.size = Q0 at C ⊢
        have e0 := C.out.cells
        go_region_held3 (fun w' => w'.cell? ⟨Q0, 0, none⟩ = some (.int .i64 x.h.n) ∧ w'.cell? ⟨Q0, 1, none⟩ = some (.int .i64 x.h.l) ∧ w'.cell? ⟨Q0, 2, none⟩ = some (.int .i64 x.h.r) ∧ w'.cell? ⟨Q0, 3, none⟩ = some (.int .i64 x.h.a) ∧ w'.cell? ⟨Q0, 4, none⟩ = some (.int .i64 x.h.b) ∧ w'.cell? ⟨Q0, 5, none⟩ = some (.int .i64 x.r.n) ∧ w'.cell? ⟨Q0, 6, none⟩ = some (.int .i64 x.r.d) ∧ w'.cell? ⟨Q0, 7, none⟩ = some (.int .i64 x.r.o) ∧ w'.cell? ⟨Q0, 8, none⟩ = some (.int .i64 x.c))
          (first | with_reducible exact C.out.cells | with_reducible exact C.out.drew.cells)
          (first | (go_at_call 52; refine (HL.out _ _).mono ?_; rintro _ V1 ⟨rfl, b1⟩; (first | have C := Go.Lib.hid (C.out.next b1) | have C := Go.Lib.hid (C.out.drew.next b1))))
        clear e0
        go_upto_region 4 with fail
        have HA2 := HA.out
        have HB2 := HB.out
        rw [← HA2, ← HB2]
        clear HA2 HB2
        refine wp_gen (R := fun w' => Below w.heap.size w w') C.out.below ?_
        clear C
        rintro V BV
        clear e1 hd
        go_wp2_with fail
        have BS := BV.size
        go_ret2
        exact RowsEnd.of HV.out rfl ((grid2 V _ _ _ _ _ _ _ rfl).mono BS (by simp)) (by go_grown)
end Go.Proofs.Ytabcbecmieolhaa
