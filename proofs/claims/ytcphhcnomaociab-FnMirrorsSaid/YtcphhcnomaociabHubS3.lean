/- Contracts of the model's answers on hubs and wheels. -/
import Derived.Test.YtcphhcnomaociabHubS2
namespace Go.Proofs.Ytcphhcnomaociab
open Go.RowKit

theorem specMostCrosses (n : Int) (w : World) : Calls Try.prog 22 #[.int .i64 n] w (IsV w (pairI (mostA n))) := by
  have HH := Go.Lib.hid (fun w0 => specHoles n w0)
  have hv : mostA n = if holesB n then (n / 4 - 1, 0) else (0, 2) := rfl
  cases hb : holesB n
  · rw [hb] at HH hv
    have HV := Go.Lib.hid hv
    clear hv hb
    go_enter Try.func22, Try.ntmps22
    go_wp2_with fail
    refine (HH.out _).mono ?_
    rintro _ w1 ⟨rfl, b1⟩
    go_wp2_with fail
    go_ret2
    exact ⟨by rw [HV.out]; rfl, b1⟩
  · have hd := holes_bd hb
    obtain ⟨hd0, hd1, -⟩ := hd
    rw [hb] at HH hv
    have HV := Go.Lib.hid hv
    have hq : n.tdiv 4 = n / 4 := Int.tdiv_eq_ediv_of_nonneg (by omega)
    clear hv hb
    go_enter Try.func22, Try.ntmps22
    go_wp2_with fail
    refine (HH.out _).mono ?_
    rintro _ w1 ⟨rfl, b1⟩
    go_wp2_with fail
    go_ret2
    exact ⟨by rw [HV.out]; rfl, b1⟩
set_option maxHeartbeats 2000000 in
theorem specDishOf (wh : Wh) (w : World) : Calls Try.prog 16 #[wheelV wh] w (IsV w (pairI (dishA wh))) := by
  have HH := Go.Lib.hid (fun w0 => specIsWheel wh w0)
  have hv : dishA wh = if wheelB wh then (wh.h.b - wh.h.a - 2 * wh.r.o, 0) else (0, 1) := rfl
  cases hb : wheelB wh
  · rw [hb] at HH hv
    have HV := Go.Lib.hid hv
    clear hv hb
    go_enter Try.func16, Try.ntmps16
    go_wp2_with fail
    refine (HH.out _).mono ?_
    rintro _ w1 ⟨rfl, b1⟩
    obtain ⟨hc1, hf1⟩ := cells2 b1
    have B1 := upB (a := w) (by go_grown) b1
    have z1 := b1.size
    try simp only [World.size_alloc] at z1
    have s10 : w.heap.size < w1.heap.size := by omega
    try have s11 : w.heap.size + 1 < w1.heap.size := by omega
    go_wp2_with fail
    go_ret2
    exact ⟨by rw [HV.out]; rfl, by go_grown⟩
  · obtain ⟨h1, h2, -⟩ := wheelB_of hb
    have hd := hubB_of h1
    have hr := rimB_of h2
    obtain ⟨-, -, -, ⟨a0, a1⟩, b0, b1⟩ := hd
    obtain ⟨-, -, o0, o1⟩ := hr
    rw [hb] at HH hv
    have HV := Go.Lib.hid hv
    clear hv hb h1 h2
    go_enter Try.func16, Try.ntmps16
    go_wp2_with fail
    refine (HH.out _).mono ?_
    rintro _ w1 ⟨rfl, b1⟩
    obtain ⟨hc1, hf1⟩ := cells2 b1
    have B1 := upB (a := w) (by go_grown) b1
    have z1 := b1.size
    try simp only [World.size_alloc] at z1
    have s10 : w.heap.size < w1.heap.size := by omega
    try have s11 : w.heap.size + 1 < w1.heap.size := by omega
    go_wp2_with fail
    go_ret2
    exact ⟨by rw [HV.out]; rfl, by go_grown⟩
theorem specMirror (h : Hb) (w : World) : Calls Try.prog 40 #[hubV h] w (IsV w (hubV (mirrH h))) := by
  go_enter Try.func40, Try.ntmps40
  go_wp2_with fail
  refine bodyPost_ret (v := hubV (mirrH h)) (by simp [results, Try.results40, go_sem, mirrH]) rfl ⟨rfl, by go_grown⟩
set_option maxHeartbeats 2000000 in
theorem specMirrorHub (h : Hb) (w : World) : Calls Try.prog 19 #[hubV h] w (IsV w (hubR (mirrHA h))) := by
  have HH := Go.Lib.hid (fun w0 => specIsHub h w0)
  have HM := Go.Lib.hid (fun w0 => specMirror h w0)
  have hv : mirrHA h = if hubB h then (mirrH h, 0) else (zeroH, 1) := rfl
  cases hb : hubB h
  · rw [hb] at HH hv
    have HV : Hid (mirrHA h = (zeroH, 1)) := hv
    clear hv hb
    go_enter Try.func19, Try.ntmps19
    go_wp2_with fail
    refine (HH.out _).mono ?_
    rintro _ w1 ⟨rfl, b1⟩
    obtain ⟨hc1, hf1⟩ := cells2 b1
    have B1 := upB (a := w) (by go_grown) b1
    have z1 := b1.size
    try simp only [World.size_alloc] at z1
    have s10 : w.heap.size < w1.heap.size := by omega
    try have s11 : w.heap.size + 1 < w1.heap.size := by omega
    go_wp2_with fail
    refine bodyPost_ret (v := .tuple #[hubV zeroH, .int .i64 1]) (by simp [results, Try.results19, go_sem, hc1, s10, s11, zeroH]) rfl ⟨by rw [HV.out], by go_grown⟩
  · rw [hb] at HH hv
    have HV : Hid (mirrHA h = (mirrH h, 0)) := hv
    clear hv hb
    go_enter Try.func19, Try.ntmps19
    go_wp2_with fail
    refine (HH.out _).mono ?_
    rintro _ w1 ⟨rfl, b1⟩
    obtain ⟨hc1, hf1⟩ := cells2 b1
    have B1 := upB (a := w) (by go_grown) b1
    have z1 := b1.size
    try simp only [World.size_alloc] at z1
    have s10 : w.heap.size < w1.heap.size := by omega
    try have s11 : w.heap.size + 1 < w1.heap.size := by omega
    go_wp2_with fail
    refine (HM.out _).mono ?_
    rintro _ w2 ⟨rfl, b2⟩
    obtain ⟨hc2, hf2⟩ := cells2 b2
    have B2 := upB B1 b2
    have z2 := b2.size
    try simp only [World.size_alloc] at z2
    have s20 : w.heap.size < w2.heap.size := by omega
    try have s21 : w.heap.size + 1 < w2.heap.size := by omega
    go_wp2_with fail
    refine bodyPost_ret (v := .tuple #[hubV (mirrH h), .int .i64 0]) (by simp [results, Try.results19, go_sem, hc1, hc2, s10, s20, s11, s21]) rfl ⟨by rw [HV.out], by go_grown⟩
end Go.Proofs.Ytcphhcnomaociab
