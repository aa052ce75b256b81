/- Contracts of the model's functions on hubs, rims and wheels. -/
import Derived.Test.YtifblmcocikopabPlainHub
import Derived.Test.YtifblmcocikopabNum
import Derived.Handy
import Derived.Deep.LoopGhost
namespace Go.Proofs.Ytifblmcocikopab
open Go.RowKit

abbrev hubV (h : Hb) : Value := .agg #[.int .i64 h.n, .int .i64 h.l, .int .i64 h.r, .int .i64 h.a, .int .i64 h.b]
abbrev rimV (r : Rm) : Value := .agg #[.int .i64 r.n, .int .i64 r.d, .int .i64 r.o]
abbrev wheelV (w : Wh) : Value := .agg #[.int .i64 w.h.n, .int .i64 w.h.l, .int .i64 w.h.r, .int .i64 w.h.a, .int .i64 w.h.b, .int .i64 w.r.n, .int .i64 w.r.d, .int .i64 w.r.o, .int .i64 w.c]
def IsB (w : World) (b : Bool) (e : Ending) (w' : World) : Prop := e = .returned (.bool b) ∧ Below w.heap.size w w'
def IsV (w : World) (v : Value) (e : Ending) (w' : World) : Prop := e = .returned v ∧ Below w.heap.size w w'
theorem cells2 {W w1 : World} (hb : Below W.heap.size W w1) : (∀ b o, b < W.heap.size → w1.cell? ⟨b, o, none⟩ = W.cell? ⟨b, o, none⟩) ∧ (∀ b o, b < W.heap.size → w1.frozen? ⟨b, o, none⟩ = W.frozen? ⟨b, o, none⟩) :=
  ⟨fun b o h => hb.cell (p := ⟨b, o, none⟩) h, fun b o h => hb.frozen (p := ⟨b, o, none⟩) h⟩
theorem upB {a w w1 : World} (h : Below a.heap.size a w) (k : Below w.heap.size w w1) : Below a.heap.size a w1 := h.trans (k.mono h.size)
theorem rd_lit {w : World} {g0 : Nat} {zs : List Int} {t : TypeId} {cs : Array Value} (hg : w.heap.size = g0) (hc : cs = (ints zs).toArray) : Rd (w.alloc (.cells cs t)) g0 (g0 + 1) (some ⟨g0, 0, none⟩) zs.length (ints zs) := by
  subst hg
  subst hc
  refine ⟨ints_len zs, fun _ => ⟨w.heap.size, 0, rfl, Nat.le_refl _, Nat.lt_succ_self _, fun j u hu => ?_⟩⟩
  have hh := heap_alloc_new w (.cells (ints zs).toArray t)
  simp only [World.cell?, hh, Option.isSome_none, Bool.false_eq_true, if_false, Nat.zero_add]
  simpa using hu
theorem any_step {zs : List Int} {x : Int} {k : Nat} (hk : k < zs.length) (h : ¬ zs.getD k 0 = x) (e : zs.any (fun y => y == x) = (zs.drop k).any fun y => y == x) : zs.any (fun y => y == x) = (zs.drop (k + 1)).any fun y => y == x := by
  rw [e, List.drop_eq_getElem_cons hk, List.any_cons]
  have h2 : zs.getD k 0 = zs[k] := by simp [hk]
  rw [h2] at h
  simp [h]
theorem any_hit {zs : List Int} {x : Int} {k : Nat} (hk : k < zs.length) (h : zs.getD k 0 = x) : zs.any (fun y => y == x) = true := by
  have h2 : zs.getD k 0 = zs[k] := by simp [hk]
  rw [h2] at h
  exact List.any_eq_true.2 ⟨zs[k], List.getElem_mem hk, by simp [h]⟩
theorem inN2 (n a b : Int) (w : World) : Calls Try.prog 30 #[.int .i64 n, .int .i64 a, .int .i64 b] w (Just (.bool (inB n a b)) w) := inN n a b w
theorem specHas (A : Option Addr) (n cap : Nat) (zs : List Int) (x : Int) (lo hi : Nat) (w : World) (h : Rd w lo hi A n (ints zs)) (hn : n ≤ 1000000) :
    Calls Try.prog 67 #[.slice A n cap, .int .i64 x] w (Just (.bool (zs.any fun y => y == x)) w) := by
  have hz : zs.length = n := by have := h.len; rwa [ints_len] at this
  have HZ := Go.Lib.hid hz
  clear hz
  go_enter Try.func67, Try.ntmps67
  go_wp2
  go_loop [5] (fun i => ∃ k : Nat, k ≤ n ∧ i = .int .i64 k ∧ zs.any (fun y => y == x) = (zs.drop k).any fun y => y == x) (fun i => n - (intOf i).toNat)
  case atStart => exact ⟨0, Nat.zero_le _, rfl, rfl⟩
  case round =>
    obtain ⟨k, hk, rfl, hany0⟩ := hrel
    have hany := Go.Lib.hid hany0
    clear hany0
    by_cases hlt : k < n
    · obtain ⟨b, o, rfl, p, q, c⟩ := h.at_ hlt
      have hkz : k < zs.length := by have := HZ.out; omega
      have hcell : w.cell? ⟨b, o + k, none⟩ = some (.int .i64 (zs.getD k 0)) := c k _ (ints_at zs k hkz)
      have HN := Go.Lib.hid (fun he => any_step hkz he hany.out)
      have HY := Go.Lib.hid (fun he => any_hit (x := x) hkz he)
      clear c h hany
      generalize zs.getD k 0 = y at hcell HN HY
      by_cases he : y = x
      · have HT := Go.Lib.hid (HY.out he)
        subst he
        go_wp2
        go_ret
        exact ⟨by rw [HT.out]; rfl, rfl⟩
      · have HT := Go.Lib.hid (HN.out he)
        have hb : (y == x) = false := by simpa using he
        go_wp2
        go_round
        case rel => exact ⟨k + 1, by omega, by go_num, HT.out⟩
        case measure => simp [intOf]; omega
    · obtain rfl : k = n := by omega
      have HT : Hid (zs.any (fun y => y == x) = false) := by rw [hany.out, List.drop_eq_nil_of_le (by have := HZ.out; omega)]; rfl
      go_wp2
      go_ret
      exact ⟨by rw [HT.out]; rfl, rfl⟩
theorem specHoles (n : Int) (w : World) : Calls Try.prog 58 #[.int .i64 n] w (IsB w (holesB n)) := by
  have HH := Go.Lib.hid (fun w0 lo hi h => specHas (some ⟨w.heap.size, 0, none⟩) 8 8 holesL n lo hi w0 h (by omega))
  have HV : Hid ((holesL.any fun y => y == n) = holesB n) := rfl
  go_enter Try.func58, Try.ntmps58
  go_wp2_with fail
  refine (HH.out _ _ _ (rd_lit rfl rfl)).mono ?_
  rintro _ _ ⟨rfl, rfl⟩
  go_wp2_with fail
  go_ret
  exact ⟨by rw [HV.out]; rfl, by go_grown⟩
theorem specIsHub (h : Hb) (w : World) : Calls Try.prog 46 #[hubV h] w (IsB w (hubB h)) := by
  unfold hubB
  have H0 := Go.Lib.hid (fun w0 => specHoles h.n w0)
  have H1 := Go.Lib.hid (fun w0 => inN2 h.l 200 1200 w0)
  have H2 := Go.Lib.hid (fun w0 => inN2 h.r 200 1200 w0)
  have H3 := Go.Lib.hid (fun w0 => inN2 h.a 0 500 w0)
  have H4 := Go.Lib.hid (fun w0 => inN2 h.b 0 500 w0)
  generalize holesB h.n = q0 at H0 ⊢
  generalize inB h.l 200 1200 = q1 at H1 ⊢
  generalize inB h.r 200 1200 = q2 at H2 ⊢
  generalize inB h.a 0 500 = q3 at H3 ⊢
  generalize inB h.b 0 500 = q4 at H4 ⊢
  cases q0
  · skip
    go_enter Try.func46, Try.ntmps46
    go_wp2_with fail
    refine (H0.out _).mono ?_
    rintro _ w1 ⟨rfl, b1⟩
    obtain ⟨hc1, hf1⟩ := cells2 b1
    have B1 := upB (a := w) (by go_grown) b1
    have z1 := b1.size
    try simp only [World.size_alloc] at z1
    have s10 : w.heap.size < w1.heap.size := by omega
    try have s11 : w.heap.size + 1 < w1.heap.size := by omega
    go_wp2_with fail
    go_ret
    exact ⟨rfl, by go_grown⟩
  · skip
    cases q1
    · skip
      go_enter Try.func46, Try.ntmps46
      go_wp2_with fail
      refine (H0.out _).mono ?_
      rintro _ w1 ⟨rfl, b1⟩
      obtain ⟨hc1, hf1⟩ := cells2 b1
      have B1 := upB (a := w) (by go_grown) b1
      have z1 := b1.size
      try simp only [World.size_alloc] at z1
      have s10 : w.heap.size < w1.heap.size := by omega
      try have s11 : w.heap.size + 1 < w1.heap.size := by omega
      go_wp2_with fail
      refine (H1.out _).mono ?_
      rintro _ _ ⟨rfl, rfl⟩
      go_wp2_with fail
      go_ret
      exact ⟨rfl, by go_grown⟩
    · skip
      cases q2
      · skip
        go_enter Try.func46, Try.ntmps46
        go_wp2_with fail
        refine (H0.out _).mono ?_
        rintro _ w1 ⟨rfl, b1⟩
        obtain ⟨hc1, hf1⟩ := cells2 b1
        have B1 := upB (a := w) (by go_grown) b1
        have z1 := b1.size
        try simp only [World.size_alloc] at z1
        have s10 : w.heap.size < w1.heap.size := by omega
        try have s11 : w.heap.size + 1 < w1.heap.size := by omega
        go_wp2_with fail
        refine (H1.out _).mono ?_
        rintro _ _ ⟨rfl, rfl⟩
        go_wp2_with fail
        refine (H2.out _).mono ?_
        rintro _ _ ⟨rfl, rfl⟩
        go_wp2_with fail
        go_ret
        exact ⟨rfl, by go_grown⟩
      · skip
        cases q3
        · skip
          go_enter Try.func46, Try.ntmps46
          go_wp2_with fail
          refine (H0.out _).mono ?_
          rintro _ w1 ⟨rfl, b1⟩
          obtain ⟨hc1, hf1⟩ := cells2 b1
          have B1 := upB (a := w) (by go_grown) b1
          have z1 := b1.size
          try simp only [World.size_alloc] at z1
          have s10 : w.heap.size < w1.heap.size := by omega
          try have s11 : w.heap.size + 1 < w1.heap.size := by omega
          go_wp2_with fail
          refine (H1.out _).mono ?_
          rintro _ _ ⟨rfl, rfl⟩
          go_wp2_with fail
          refine (H2.out _).mono ?_
          rintro _ _ ⟨rfl, rfl⟩
          go_wp2_with fail
          refine (H3.out _).mono ?_
          rintro _ _ ⟨rfl, rfl⟩
          go_wp2_with fail
          go_ret
          exact ⟨rfl, by go_grown⟩
        · skip
          go_enter Try.func46, Try.ntmps46
          go_wp2_with fail
          refine (H0.out _).mono ?_
          rintro _ w1 ⟨rfl, b1⟩
          obtain ⟨hc1, hf1⟩ := cells2 b1
          have B1 := upB (a := w) (by go_grown) b1
          have z1 := b1.size
          try simp only [World.size_alloc] at z1
          have s10 : w.heap.size < w1.heap.size := by omega
          try have s11 : w.heap.size + 1 < w1.heap.size := by omega
          go_wp2_with fail
          refine (H1.out _).mono ?_
          rintro _ _ ⟨rfl, rfl⟩
          go_wp2_with fail
          refine (H2.out _).mono ?_
          rintro _ _ ⟨rfl, rfl⟩
          go_wp2_with fail
          refine (H3.out _).mono ?_
          rintro _ _ ⟨rfl, rfl⟩
          go_wp2_with fail
          refine (H4.out _).mono ?_
          rintro _ _ ⟨rfl, rfl⟩
          go_wp2_with fail
          go_ret
          exact ⟨rfl, by go_grown⟩
theorem specIsRim (r : Rm) (w : World) : Calls Try.prog 47 #[rimV r] w (IsB w (rimB r)) := by
  unfold rimB
  have H0 := Go.Lib.hid (fun w0 => specHoles r.n w0)
  have H1 := Go.Lib.hid (fun w0 => inN2 r.d 2000 7000 w0)
  have H2 := Go.Lib.hid (fun w0 => inN2 r.o (-100) 100 w0)
  generalize holesB r.n = q0 at H0 ⊢
  generalize inB r.d 2000 7000 = q1 at H1 ⊢
  generalize inB r.o (-100) 100 = q2 at H2 ⊢
  cases q0
  · skip
    go_enter Try.func47, Try.ntmps47
    go_wp2_with fail
    refine (H0.out _).mono ?_
    rintro _ w1 ⟨rfl, b1⟩
    obtain ⟨hc1, hf1⟩ := cells2 b1
    have B1 := upB (a := w) (by go_grown) b1
    have z1 := b1.size
    try simp only [World.size_alloc] at z1
    have s10 : w.heap.size < w1.heap.size := by omega
    try have s11 : w.heap.size + 1 < w1.heap.size := by omega
    go_wp2_with fail
    go_ret
    exact ⟨rfl, by go_grown⟩
  · skip
    cases q1
    · skip
      go_enter Try.func47, Try.ntmps47
      go_wp2_with fail
      refine (H0.out _).mono ?_
      rintro _ w1 ⟨rfl, b1⟩
      obtain ⟨hc1, hf1⟩ := cells2 b1
      have B1 := upB (a := w) (by go_grown) b1
      have z1 := b1.size
      try simp only [World.size_alloc] at z1
      have s10 : w.heap.size < w1.heap.size := by omega
      try have s11 : w.heap.size + 1 < w1.heap.size := by omega
      go_wp2_with fail
      refine (H1.out _).mono ?_
      rintro _ _ ⟨rfl, rfl⟩
      go_wp2_with fail
      go_ret
      exact ⟨rfl, by go_grown⟩
    · skip
      go_enter Try.func47, Try.ntmps47
      go_wp2_with fail
      refine (H0.out _).mono ?_
      rintro _ w1 ⟨rfl, b1⟩
      obtain ⟨hc1, hf1⟩ := cells2 b1
      have B1 := upB (a := w) (by go_grown) b1
      have z1 := b1.size
      try simp only [World.size_alloc] at z1
      have s10 : w.heap.size < w1.heap.size := by omega
      try have s11 : w.heap.size + 1 < w1.heap.size := by omega
      go_wp2_with fail
      refine (H1.out _).mono ?_
      rintro _ _ ⟨rfl, rfl⟩
      go_wp2_with fail
      refine (H2.out _).mono ?_
      rintro _ _ ⟨rfl, rfl⟩
      go_wp2_with fail
      go_ret
      exact ⟨rfl, by go_grown⟩
end Go.Proofs.Ytifblmcocikopab
