/- The program's SquareOfSpoke, SpokeLength, TensionShare, SpokeCounts. -/
import Derived.Test.YtifblmcocikopabSpA
import Derived.Test.YtifblmcocikopabSpoke5
namespace Go.Proofs.Ytifblmcocikopab
open Go.RowKit
section
end

theorem implNearQ (n d : Int) (w : World) (hd : 0 < d) (hd2 : d ≤ 1000000000000) (h0 : 0 ≤ n) (h1 : n ≤ 2000000000000000000) : Calls Try.prog 64 #[.int .i64 n, .int .i64 d] w (Just (.int .i64 (nearQ n d)) w) := by
  have HD := Go.Lib.hid (implDown (n + d / 2) d w (by omega) (by omega) (by omega) (by omega))
  have hv : nearQ n d = (n + d / 2) / d := by
    unfold nearQ
    rw [← Int.ediv_ediv_of_nonneg (by omega)]
    congr 1
    omega
  have HV := Go.Lib.hid hv
  have h2 : d.tdiv 2 = d / 2 := Int.tdiv_eq_ediv_of_nonneg (by omega)
  have e1 : IntKind.i64.wrap (d / 2) = d / 2 := IntWalk.i64_in _ (by omega)
  have e2 : IntKind.i64.wrap (n + d / 2) = n + d / 2 := IntWalk.i64_in _ (by omega)
  clear hv hd hd2 h0 h1
  go_enter Try.func64, Try.ntmps64
  go_wp2_with fail
  refine HD.out.mono ?_
  rintro _ _ ⟨rfl, rfl⟩
  go_wp2_with fail
  go_ret
  exact ⟨by rw [HV.out]; rfl, rfl⟩
set_option maxRecDepth 100000 in
set_option maxHeartbeats 4000000 in
theorem implSpokeLength (x : Wh) (r : Bool) (w : World) : Calls Try.prog 16 #[wheelV x, .bool r] w (IsV w (pairI (lenA x r))) := by
  have HW := Go.Lib.hid (fun w0 => implIsWheel x w0)
  cases hb : wheelB x
  · rw [hb] at HW
    have HV : Hid (lenA x r = (0, 1)) := by unfold lenA; rw [hb]; rfl
    clear hb
    go_enter Try.func16, Try.ntmps16
    go_wp2_with fail
    refine calls_gen (R := fun w' => Box w' w.heap.size [.int .i64 x.h.n, .int .i64 x.h.l, .int .i64 x.h.r, .int .i64 x.h.a, .int .i64 x.h.b, .int .i64 x.r.n, .int .i64 x.r.d, .int .i64 x.r.o, .int .i64 x.c] ∧ Below w.heap.size w w') ⟨Box.new rfl rfl, by go_grown⟩ ?_
    rintro W1 ⟨K1_0, B1⟩
    refine (HW.out _).mono ?_
    rintro _ W2 ⟨rfl, b2⟩
    have K2_0 := K1_0.below b2
    have B2 := upB B1 b2
    clear b2 K1_0 B1
    have k2_0_0 := K2_0.at_ 0 _ rfl
    have k2_0_1 := K2_0.at_ 1 _ rfl
    have k2_0_2 := K2_0.at_ 2 _ rfl
    have k2_0_3 := K2_0.at_ 3 _ rfl
    have k2_0_4 := K2_0.at_ 4 _ rfl
    have k2_0_5 := K2_0.at_ 5 _ rfl
    have k2_0_6 := K2_0.at_ 6 _ rfl
    have k2_0_7 := K2_0.at_ 7 _ rfl
    have k2_0_8 := K2_0.at_ 8 _ rfl
    have k2_0_f := K2_0.fr
    have k2_0_l := K2_0.lt
    go_wp2_with fail
    go_ret2
    exact ⟨by rw [HV.out]; rfl, B2⟩
  · rw [hb] at HW
    have HV : Hid (lenA x r = (spLen x r, 0)) := by unfold lenA; rw [hb]; rfl
    have HC := Go.Lib.hid (fun w0 => implLen x r w0 hb)
    clear hb
    go_enter Try.func16, Try.ntmps16
    go_wp2_with fail
    refine calls_gen (R := fun w' => Box w' w.heap.size [.int .i64 x.h.n, .int .i64 x.h.l, .int .i64 x.h.r, .int .i64 x.h.a, .int .i64 x.h.b, .int .i64 x.r.n, .int .i64 x.r.d, .int .i64 x.r.o, .int .i64 x.c] ∧ Below w.heap.size w w') ⟨Box.new rfl rfl, by go_grown⟩ ?_
    rintro W1 ⟨K1_0, B1⟩
    refine (HW.out _).mono ?_
    rintro _ W2 ⟨rfl, b2⟩
    have K2_0 := K1_0.below b2
    have B2 := upB B1 b2
    clear b2 K1_0 B1
    have k2_0_0 := K2_0.at_ 0 _ rfl
    have k2_0_1 := K2_0.at_ 1 _ rfl
    have k2_0_2 := K2_0.at_ 2 _ rfl
    have k2_0_3 := K2_0.at_ 3 _ rfl
    have k2_0_4 := K2_0.at_ 4 _ rfl
    have k2_0_5 := K2_0.at_ 5 _ rfl
    have k2_0_6 := K2_0.at_ 6 _ rfl
    have k2_0_7 := K2_0.at_ 7 _ rfl
    have k2_0_8 := K2_0.at_ 8 _ rfl
    have k2_0_f := K2_0.fr
    have k2_0_l := K2_0.lt
    go_wp2_with fail
    refine (HC.out _).mono ?_
    rintro _ W3 ⟨rfl, b3⟩
    have K3_0 := K2_0.below b3
    clear k2_0_0 k2_0_1 k2_0_2 k2_0_3 k2_0_4 k2_0_5 k2_0_6 k2_0_7 k2_0_8 k2_0_f k2_0_l
    have B3 := upB B2 b3
    clear b3 K2_0 B2
    go_wp2_with fail
    go_ret2
    exact ⟨by rw [HV.out]; rfl, B3⟩
end Go.Proofs.Ytifblmcocikopab
