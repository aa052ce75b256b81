/- Contracts of the model's functions on wheels. -/
import Derived.Test.YtifblmcocikopabHubS
namespace Go.Proofs.Ytifblmcocikopab
open Go.RowKit

def pairI (p : Int × Int) : Value := .tuple #[.int .i64 p.1, .int .i64 p.2]
abbrev hubR (p : Hb × Int) : Value := .tuple #[hubV p.1, .int .i64 p.2]
abbrev wheelR (p : Wh × Int) : Value := .tuple #[wheelV p.1, .int .i64 p.2]
theorem most_bd {n : Int} (h : holesB n = true) : 2 ≤ most n ∧ most n ≤ 11 := by
  have := holes_bd h
  unfold most
  omega
set_option maxRecDepth 100000 in
set_option maxHeartbeats 2000000 in
theorem specIsWheel (wh : Wh) (w : World) : Calls Try.prog 33 #[wheelV wh] w (IsB w (wheelB wh)) := by
  have HH := Go.Lib.hid (fun w0 => specIsHub wh.h w0)
  have HR := Go.Lib.hid (fun w0 => specIsRim wh.r w0)
  have hv : wheelB wh = (hubB wh.h && (rimB wh.r && (decide (wh.h.n = wh.r.n) && inB wh.c 0 (most wh.h.n)))) := rfl
  rw [hv]
  clear hv
  cases hh : hubB wh.h
  · rw [hh] at HH
    clear hh
    go_enter Try.func33, Try.ntmps33
    go_wp2_with fail
    refine (HH.out _).mono ?_
    rintro _ w1 ⟨rfl, b1⟩
    obtain ⟨hc1, hf1⟩ := cells2 b1
    have B1 := upB (a := w) (by go_grown) b1
    have z1 := b1.size
    try simp only [World.size_alloc] at z1
    have s10 : w.heap.size < w1.heap.size := by omega
    try have s11 : w.heap.size + 1 < w1.heap.size := by omega
    go_wp2_with fail
    go_ret
    exact ⟨rfl, by go_grown⟩
  · rw [hh] at HH
    have hd := holes_bd (hubB_of hh).1
    obtain ⟨hd0, hd1, -⟩ := hd
    have hm : most wh.h.n = wh.h.n / 4 - 1 := rfl
    rw [hm]
    have HI := Go.Lib.hid (fun w0 => inN2 wh.c 0 (wh.h.n / 4 - 1) w0)
    clear hh hm
    cases hr : rimB wh.r
    · rw [hr] at HR
      go_enter Try.func33, Try.ntmps33
      go_wp2_with fail
      refine (HH.out _).mono ?_
      rintro _ w1 ⟨rfl, b1⟩
      obtain ⟨hc1, hf1⟩ := cells2 b1
      have B1 := upB (a := w) (by go_grown) b1
      have z1 := b1.size
      try simp only [World.size_alloc] at z1
      have s10 : w.heap.size < w1.heap.size := by omega
      try have s11 : w.heap.size + 1 < w1.heap.size := by omega
      go_wp2_with fail
      refine (HR.out _).mono ?_
      rintro _ w2 ⟨rfl, b2⟩
      obtain ⟨hc2, hf2⟩ := cells2 b2
      have B2 := upB B1 b2
      have z2 := b2.size
      try simp only [World.size_alloc] at z2
      have s20 : w.heap.size < w2.heap.size := by omega
      try have s21 : w.heap.size + 1 < w2.heap.size := by omega
      go_wp2_with fail
      go_ret
      exact ⟨rfl, by go_grown⟩
    · rw [hr] at HR
      clear hr
      by_cases he : wh.h.n = wh.r.n
      · rw [decide_eq_true he]
        generalize inB wh.c 0 (wh.h.n / 4 - 1) = q at HI ⊢
        have heb : (wh.h.n == wh.r.n) = true := by simpa using he
        clear he
        go_enter Try.func33, Try.ntmps33
        go_wp2_with fail
        refine (HH.out _).mono ?_
        rintro _ w1 ⟨rfl, b1⟩
        obtain ⟨hc1, hf1⟩ := cells2 b1
        have B1 := upB (a := w) (by go_grown) b1
        have z1 := b1.size
        try simp only [World.size_alloc] at z1
        have s10 : w.heap.size < w1.heap.size := by omega
        try have s11 : w.heap.size + 1 < w1.heap.size := by omega
        go_wp2_with fail
        refine (HR.out _).mono ?_
        rintro _ w2 ⟨rfl, b2⟩
        obtain ⟨hc2, hf2⟩ := cells2 b2
        have B2 := upB B1 b2
        have z2 := b2.size
        try simp only [World.size_alloc] at z2
        have s20 : w.heap.size < w2.heap.size := by omega
        try have s21 : w.heap.size + 1 < w2.heap.size := by omega
        go_wp2_with fail
        refine (HI.out _).mono ?_
        rintro _ _ ⟨rfl, rfl⟩
        go_wp2_with fail
        go_ret
        exact ⟨rfl, by go_grown⟩
      · rw [decide_eq_false he]
        have heb : (wh.h.n == wh.r.n) = false := by simpa using he
        clear he
        go_enter Try.func33, Try.ntmps33
        go_wp2_with fail
        refine (HH.out _).mono ?_
        rintro _ w1 ⟨rfl, b1⟩
        obtain ⟨hc1, hf1⟩ := cells2 b1
        have B1 := upB (a := w) (by go_grown) b1
        have z1 := b1.size
        try simp only [World.size_alloc] at z1
        have s10 : w.heap.size < w1.heap.size := by omega
        try have s11 : w.heap.size + 1 < w1.heap.size := by omega
        go_wp2_with fail
        refine (HR.out _).mono ?_
        rintro _ w2 ⟨rfl, b2⟩
        obtain ⟨hc2, hf2⟩ := cells2 b2
        have B2 := upB B1 b2
        have z2 := b2.size
        try simp only [World.size_alloc] at z2
        have s20 : w.heap.size < w2.heap.size := by omega
        try have s21 : w.heap.size + 1 < w2.heap.size := by omega
        go_wp2_with fail
        go_ret
        exact ⟨rfl, by go_grown⟩
end Go.Proofs.Ytifblmcocikopab
