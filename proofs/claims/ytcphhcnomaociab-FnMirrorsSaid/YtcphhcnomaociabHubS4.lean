/- The contract of the model's MirrorWheel. -/
import Derived.Test.YtcphhcnomaociabHubS3
import Derived.Test.YtcphhcnomaociabBox
namespace Go.Proofs.Ytcphhcnomaociab
open Go.RowKit

set_option maxRecDepth 100000 in
set_option maxHeartbeats 4000000 in
theorem specMirrorWheel (wh : Wh) (w : World) : Calls Try.prog 14 #[wheelV wh] w (IsV w (wheelR (mirrWA wh))) := by
  have HH := Go.Lib.hid (fun w0 => specIsWheel wh w0)
  have HM := Go.Lib.hid (fun w0 => specMirror wh.h w0)
  have hv : mirrWA wh = if wheelB wh then (mirrW wh, 0) else (zeroW, 1) := rfl
  cases hb : wheelB wh
  · rw [hb] at HH hv
    have HV : Hid (mirrWA wh = (zeroW, 1)) := hv
    clear hv hb
    go_enter Try.func14, Try.ntmps14
    go_wp2_with fail
    refine (HH.out _).mono ?_
    rintro _ w1 ⟨rfl, b1⟩
    obtain ⟨hc1, hf1⟩ := cells2 b1
    have B1 := upB (a := w) (by go_grown) b1
    have z1 := b1.size
    try simp only [World.size_alloc] at z1
    have s10 : w.heap.size < w1.heap.size := by omega
    try have s11 : w.heap.size + 1 < w1.heap.size := by omega
    go_wp2_with fail
    refine bodyPost_ret (v := .tuple #[wheelV zeroW, .int .i64 1]) (by simp [results, Try.results14, go_sem, hc1, s10, s11, zeroW, zeroH, zeroR]) rfl ⟨by rw [HV.out], by go_grown⟩
  · skip
    have hr := rimB_of (wheelB_of hb).2.1
    obtain ⟨-, -, o0, o1⟩ := hr
    rw [hb] at HH hv
    have HV : Hid (mirrWA wh = (mirrW wh, 0)) := hv
    clear hv hb
    go_enter Try.func14, Try.ntmps14
    go_wp2_with fail
    refine (HH.out _).mono ?_
    rintro _ w1 ⟨rfl, b1⟩
    have K0 : Box w1 w.heap.size [.int .i64 wh.h.n, .int .i64 wh.h.l, .int .i64 wh.h.r, .int .i64 wh.h.a, .int .i64 wh.h.b, .int .i64 wh.r.n, .int .i64 wh.r.d, .int .i64 wh.r.o, .int .i64 wh.c] := Box.below (Box.alloc (Box.new rfl rfl) _) b1
    have K1 : Box w1 (w.heap.size + 1) [.int .i64 0, .int .i64 0, .int .i64 0, .int .i64 0, .int .i64 0, .int .i64 0, .int .i64 0, .int .i64 0, .int .i64 0] := Box.below (Box.new (by simp) rfl) b1
    have B1 := Go.Lib.hid (upB (a := w) (by go_grown) b1)
    clear b1
    have p0 := K0.at_ 0 _ rfl
    have p1 := K0.at_ 1 _ rfl
    have p2 := K0.at_ 2 _ rfl
    have p3 := K0.at_ 3 _ rfl
    have p4 := K0.at_ 4 _ rfl
    have p5 := K0.at_ 5 _ rfl
    have p6 := K0.at_ 6 _ rfl
    have p7 := K0.at_ 7 _ rfl
    have p8 := K0.at_ 8 _ rfl
    have pf := K0.fr
    have pl := K0.lt
    go_wp2_with fail
    refine (HM.out _).mono ?_
    rintro _ w2 ⟨rfl, b2⟩
    have L0 := K0.below b2
    have L1 := K1.below b2
    have B2 := Go.Lib.hid (upB B1.out b2)
    clear b2 B1 K0 K1 p0 p1 p2 p3 p4 p5 p6 p7 p8 pf pl
    have p0 := L0.at_ 0 _ rfl
    have p1 := L0.at_ 1 _ rfl
    have p2 := L0.at_ 2 _ rfl
    have p3 := L0.at_ 3 _ rfl
    have p4 := L0.at_ 4 _ rfl
    have p5 := L0.at_ 5 _ rfl
    have p6 := L0.at_ 6 _ rfl
    have p7 := L0.at_ 7 _ rfl
    have p8 := L0.at_ 8 _ rfl
    have pf := L0.fr
    have pl := L0.lt
    go_upto_region 4 with fail
    refine wp_gen (R := fun w' => Box w' w.heap.size [.int .i64 wh.h.n, .int .i64 wh.h.r, .int .i64 wh.h.l, .int .i64 wh.h.b, .int .i64 wh.h.a, .int .i64 wh.r.n, .int .i64 wh.r.d, .int .i64 wh.r.o, .int .i64 wh.c] ∧ Box w' (w.heap.size + 1) [.int .i64 0, .int .i64 0, .int .i64 0, .int .i64 0, .int .i64 0, .int .i64 0, .int .i64 0, .int .i64 0, .int .i64 0] ∧ Below w.heap.size w w') ⟨((((L0.set _ (by simp)).set _ (by simp)).set _ (by simp)).set _ (by simp)).set _ (by simp), ((((L1.other (by simp) _).other (by simp) _).other (by simp) _).other (by simp) _).other (by simp) _, by have := B2.out; go_grown⟩ ?_
    rintro w3 ⟨M0, M1, B3⟩
    clear L0 L1 B2 p0 p1 p2 p3 p4 p5 p6 p7 p8 pf pl
    have p0 := M0.at_ 0 _ rfl
    have p1 := M0.at_ 1 _ rfl
    have p2 := M0.at_ 2 _ rfl
    have p3 := M0.at_ 3 _ rfl
    have p4 := M0.at_ 4 _ rfl
    have p5 := M0.at_ 5 _ rfl
    have p6 := M0.at_ 6 _ rfl
    have p7 := M0.at_ 7 _ rfl
    have p8 := M0.at_ 8 _ rfl
    have pf := M0.fr
    have pl := M0.lt
    go_upto_region 5 with fail
    refine wp_gen (R := fun w' => Box w' w.heap.size [.int .i64 wh.h.n, .int .i64 wh.h.r, .int .i64 wh.h.l, .int .i64 wh.h.b, .int .i64 wh.h.a, .int .i64 wh.r.n, .int .i64 wh.r.d, .int .i64 (-wh.r.o), .int .i64 wh.c] ∧ Box w' (w.heap.size + 1) [.int .i64 0, .int .i64 0, .int .i64 0, .int .i64 0, .int .i64 0, .int .i64 0, .int .i64 0, .int .i64 0, .int .i64 0] ∧ Below w.heap.size w w') ⟨M0.set _ (by simp), M1.other (by simp) _, by go_grown⟩ ?_
    rintro w4 ⟨N0, N1, B4⟩
    clear M0 M1 B3 p0 p1 p2 p3 p4 p5 p6 p7 p8 pf pl
    have p0 := N0.at_ 0 _ rfl
    have p1 := N0.at_ 1 _ rfl
    have p2 := N0.at_ 2 _ rfl
    have p3 := N0.at_ 3 _ rfl
    have p4 := N0.at_ 4 _ rfl
    have p5 := N0.at_ 5 _ rfl
    have p6 := N0.at_ 6 _ rfl
    have p7 := N0.at_ 7 _ rfl
    have p8 := N0.at_ 8 _ rfl
    have pf := N0.fr
    have pl := N0.lt
    have r0 := N1.at_ 0 _ rfl
    have r1 := N1.at_ 1 _ rfl
    have r2 := N1.at_ 2 _ rfl
    have r3 := N1.at_ 3 _ rfl
    have r4 := N1.at_ 4 _ rfl
    have r5 := N1.at_ 5 _ rfl
    have r6 := N1.at_ 6 _ rfl
    have r7 := N1.at_ 7 _ rfl
    have r8 := N1.at_ 8 _ rfl
    have rf := N1.fr
    have rl := N1.lt
    go_wp2_with fail
    refine bodyPost_ret (v := .tuple #[wheelV (mirrW wh), .int .i64 0]) (by simp [results, Try.results14, go_sem, mirrW, mirrH, mirrR, *]) rfl ⟨by rw [HV.out], by go_grown⟩
end Go.Proofs.Ytcphhcnomaociab
