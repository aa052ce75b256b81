/- Opening a law's hub, rim or wheel; the laws' own helpers on them. -/
import Derived.Test.YtifblmcocikopabOpen
import Derived.Test.YtifblmcocikopabHubS
import Derived.Lib.SmallJoins
import Derived.ChangeArms
namespace Go.Proofs.Ytifblmcocikopab
open Go.ChangeShapes Go.WideShapes Go.ChangeAt Go.RowKit Go.Joins

theorem list3 {α : Type} {l : List α} (h : l.length = 3) : ∃ a b c, l = [a, b, c] := by
  match l, h with
  | [a, b, c], _ => exact ⟨a, b, c, rfl⟩
theorem list5 {α : Type} {l : List α} (h : l.length = 5) : ∃ a b c d e, l = [a, b, c, d, e] := by
  match l, h with
  | [a, b, c, d, e], _ => exact ⟨a, b, c, d, e, rfl⟩
theorem list9 {α : Type} {l : List α} (h : l.length = 9) : ∃ a b c d e f g i j, l = [a, b, c, d, e, f, g, i, j] := by
  match l, h with
  | [a, b, c, d, e, f, g, i, j], _ => exact ⟨a, b, c, d, e, f, g, i, j, rfl⟩
def intW (n : Int) : Prop := (Lit.int .i64 n).wf = true
def hubW (h : Hb) : Prop := intW h.n ∧ intW h.l ∧ intW h.r ∧ intW h.a ∧ intW h.b
def rimW (r : Rm) : Prop := intW r.n ∧ intW r.d ∧ intW r.o
def wheelW (w : Wh) : Prop := hubW w.h ∧ rimW w.r ∧ intW w.c
def hubC (h : Hb) : List Value := [.int .i64 h.n, .int .i64 h.l, .int .i64 h.r, .int .i64 h.a, .int .i64 h.b]
def rimC (r : Rm) : List Value := [.int .i64 r.n, .int .i64 r.d, .int .i64 r.o]
def wheelC (w : Wh) : List Value := hubC w.h ++ rimC w.r ++ [.int .i64 w.c]
def hubD {H : Type} (h : Hb) : DataW H := .agg [.lit (.int .i64 h.n), .lit (.int .i64 h.l), .lit (.int .i64 h.r), .lit (.int .i64 h.a), .lit (.int .i64 h.b)]
def rimD {H : Type} (r : Rm) : DataW H := .agg [.lit (.int .i64 r.n), .lit (.int .i64 r.d), .lit (.int .i64 r.o)]
def wheelD {H : Type} (w : Wh) : DataW H := .agg [hubD w.h, rimD w.r, .lit (.int .i64 w.c)]
theorem one64 : Try.prog.cellsOf 2 = 1 := by kernel_rfl
section
variable {H : Type} {enc : TypeId × Value → H} {W : World} {b0 : Nat} {sp : Nat → Bool}
theorem int_trod {n : Nat} {cs : List Value} {y : DataW H × List MemPlace} (h : DataW.trod enc Try.prog W b0 sp true n 2 cs = some y) : ∃ a : Int, cs = [.int .i64 a] ∧ y = (.lit (.int .i64 a), []) ∧ intW a := DataW.trod_int Try.underlying2 h
theorem int_mk {n : Nat} {a : Int} (h : intW a) : DataW.trod enc Try.prog W b0 sp true (n + 1) 2 [.int .i64 a] = some (.lit (.int .i64 a), []) := by
  unfold intW at h
  simp [DataW.trod, Try.underlying2, h]
theorem hub5 : Try.prog.cellsOf 50 = 5 := by kernel_rfl
set_option maxRecDepth 100000 in
theorem trod_hub {fuel : Nat} {cs : List Value} {x : DataW H × List MemPlace} (h : DataW.trod enc Try.prog W b0 sp true fuel 50 cs = some x) : ∃ hb : Hb, cs = hubC hb ∧ x = (hubD hb, []) ∧ hubW hb := by
  obtain ⟨xs, n, _, rfl, hl, hlen, hf⟩ := DataW.trod_struct Try.underlying50 h
  rw [hub5] at hl
  obtain ⟨c0, c1, c2, c3, c4, rfl⟩ := list5 hl
  obtain ⟨y0, y1, y2, y3, y4, rfl⟩ := list5 (l := xs) (hlen.trans rfl)
  have f0 : DataW.trod enc Try.prog W b0 sp true n 2 [c0] = some y0 := by have h2 := hf 0 _ rfl; simpa [one64] using h2
  have f1 : DataW.trod enc Try.prog W b0 sp true n 2 [c1] = some y1 := by have h2 := hf 1 _ rfl; simpa [one64] using h2
  have f2 : DataW.trod enc Try.prog W b0 sp true n 2 [c2] = some y2 := by have h2 := hf 2 _ rfl; simpa [one64] using h2
  have f3 : DataW.trod enc Try.prog W b0 sp true n 2 [c3] = some y3 := by have h2 := hf 3 _ rfl; simpa [one64] using h2
  have f4 : DataW.trod enc Try.prog W b0 sp true n 2 [c4] = some y4 := by have h2 := hf 4 _ rfl; simpa [one64] using h2
  obtain ⟨a0, e0, rfl, w0⟩ := int_trod f0
  obtain ⟨a1, e1, rfl, w1⟩ := int_trod f1
  obtain ⟨a2, e2, rfl, w2⟩ := int_trod f2
  obtain ⟨a3, e3, rfl, w3⟩ := int_trod f3
  obtain ⟨a4, e4, rfl, w4⟩ := int_trod f4
  simp at e0 e1 e2 e3 e4
  subst e0 e1 e2 e3 e4
  exact ⟨⟨a0, a1, a2, a3, a4⟩, rfl, rfl, w0, w1, w2, w3, w4⟩
set_option maxRecDepth 100000 in
theorem hub_mk {n : Nat} {hb : Hb} (h : hubW hb) : DataW.trod enc Try.prog W b0 sp true (n + 2) 50 (hubC hb) = some (hubD hb, []) := by
  obtain ⟨w0, w1, w2, w3, w4⟩ := h
  have hp := trod_struct_mk (enc := enc) (w := W) (base := b0) (spare := sp) (held := true) (n := n + 1) (cs := hubC hb) (xs := [(.lit (.int .i64 hb.n), []), (.lit (.int .i64 hb.l), []), (.lit (.int .i64 hb.r), []), (.lit (.int .i64 hb.a), []), (.lit (.int .i64 hb.b), [])]) Try.underlying50 (by rw [hub5]; rfl) (by simp [hubC, one64, int_mk w0, int_mk w1, int_mk w2, int_mk w3, int_mk w4])
  simpa [hubD] using hp
theorem rim3 : Try.prog.cellsOf 51 = 3 := by kernel_rfl
set_option maxRecDepth 100000 in
theorem trod_rim {fuel : Nat} {cs : List Value} {x : DataW H × List MemPlace} (h : DataW.trod enc Try.prog W b0 sp true fuel 51 cs = some x) : ∃ r : Rm, cs = rimC r ∧ x = (rimD r, []) ∧ rimW r := by
  obtain ⟨xs, n, _, rfl, hl, hlen, hf⟩ := DataW.trod_struct Try.underlying51 h
  rw [rim3] at hl
  obtain ⟨c0, c1, c2, rfl⟩ := list3 hl
  obtain ⟨y0, y1, y2, rfl⟩ := list3 (l := xs) (hlen.trans rfl)
  have f0 : DataW.trod enc Try.prog W b0 sp true n 2 [c0] = some y0 := by have h2 := hf 0 _ rfl; simpa [one64] using h2
  have f1 : DataW.trod enc Try.prog W b0 sp true n 2 [c1] = some y1 := by have h2 := hf 1 _ rfl; simpa [one64] using h2
  have f2 : DataW.trod enc Try.prog W b0 sp true n 2 [c2] = some y2 := by have h2 := hf 2 _ rfl; simpa [one64] using h2
  obtain ⟨a0, e0, rfl, w0⟩ := int_trod f0
  obtain ⟨a1, e1, rfl, w1⟩ := int_trod f1
  obtain ⟨a2, e2, rfl, w2⟩ := int_trod f2
  simp at e0 e1 e2
  subst e0 e1 e2
  exact ⟨⟨a0, a1, a2⟩, rfl, rfl, w0, w1, w2⟩
set_option maxRecDepth 100000 in
theorem rim_mk {n : Nat} {r : Rm} (h : rimW r) : DataW.trod enc Try.prog W b0 sp true (n + 2) 51 (rimC r) = some (rimD r, []) := by
  obtain ⟨w0, w1, w2⟩ := h
  have hp := trod_struct_mk (enc := enc) (w := W) (base := b0) (spare := sp) (held := true) (n := n + 1) (cs := rimC r) (xs := [(.lit (.int .i64 r.n), []), (.lit (.int .i64 r.d), []), (.lit (.int .i64 r.o), [])]) Try.underlying51 (by rw [rim3]; rfl) (by simp [rimC, one64, int_mk w0, int_mk w1, int_mk w2])
  simpa [rimD] using hp
theorem wheel9 : Try.prog.cellsOf 53 = 9 := by kernel_rfl
set_option maxRecDepth 100000 in
theorem trod_wheel {fuel : Nat} {cs : List Value} {x : DataW H × List MemPlace} (h : DataW.trod enc Try.prog W b0 sp true fuel 53 cs = some x) : ∃ wh : Wh, cs = wheelC wh ∧ x = (wheelD wh, []) ∧ wheelW wh := by
  obtain ⟨xs, n, _, rfl, hl, hlen, hf⟩ := DataW.trod_struct Try.underlying53 h
  rw [wheel9] at hl
  obtain ⟨c0, c1, c2, c3, c4, c5, c6, c7, c8, rfl⟩ := list9 hl
  obtain ⟨y0, y1, y2, rfl⟩ := list3 (l := xs) (hlen.trans rfl)
  have f0 : DataW.trod enc Try.prog W b0 sp true n 50 [c0, c1, c2, c3, c4] = some y0 := by have h2 := hf 0 _ rfl; simpa [one64, hub5, rim3] using h2
  have f1 : DataW.trod enc Try.prog W b0 sp true n 51 [c5, c6, c7] = some y1 := by have h2 := hf 1 _ rfl; simpa [one64, hub5, rim3] using h2
  have f2 : DataW.trod enc Try.prog W b0 sp true n 2 [c8] = some y2 := by have h2 := hf 2 _ rfl; simpa [one64, hub5, rim3] using h2
  obtain ⟨hu, e0, rfl, w0⟩ := trod_hub f0
  obtain ⟨r, e1, rfl, w1⟩ := trod_rim f1
  obtain ⟨c, e2, rfl, w2⟩ := int_trod f2
  simp [hubC, rimC] at e0 e1 e2
  obtain ⟨rfl, rfl, rfl, rfl, rfl⟩ := e0
  obtain ⟨rfl, rfl, rfl⟩ := e1
  subst e2
  exact ⟨⟨hu, r, c⟩, rfl, rfl, w0, w1, w2⟩
set_option maxRecDepth 100000 in
theorem wheel_mk {n : Nat} {wh : Wh} (h : wheelW wh) : DataW.trod enc Try.prog W b0 sp true (n + 3) 53 (wheelC wh) = some (wheelD wh, []) := by
  obtain ⟨w0, w1, w2⟩ := h
  have k0 := hub_mk (enc := enc) (W := W) (b0 := b0) (sp := sp) (n := n) w0
  have k1 := rim_mk (enc := enc) (W := W) (b0 := b0) (sp := sp) (n := n) w1
  have k2 := int_mk (enc := enc) (W := W) (b0 := b0) (sp := sp) (n := n + 1) w2
  unfold hubC at k0
  unfold rimC at k1
  have hp := trod_struct_mk (enc := enc) (w := W) (base := b0) (spare := sp) (held := true) (n := n + 2) (cs := wheelC wh) (xs := [(hubD wh.h, []), (rimD wh.r, []), (.lit (.int .i64 wh.c), [])]) Try.underlying53 (by rw [wheel9]; rfl) (by simp [wheelC, hubC, rimC, one64, hub5, rim3, k0, k1, k2])
  simpa [wheelD] using hp
set_option maxRecDepth 100000 in
theorem open_hub {r : Reach} {v : Value} {d : DataW H} {p : List MemPlace} (hv : Value.okWide Try.prog W r b0 50 v) (h : DataW.Trod enc Try.prog W 0 sp true 50 v d p) : ∃ x, v = hubV x ∧ d = hubD x ∧ p = [] ∧ hubW x := by
  obtain ⟨cs, rfl, -⟩ := okWide_struct Try.underlying50 hv
  obtain ⟨fuel, hf⟩ := h
  obtain ⟨x, e, ex, wx⟩ := trod_hub hf
  simp only [Value.cells] at e
  obtain ⟨l⟩ := cs
  subst e
  injection ex with e1 e2
  exact ⟨x, rfl, e1, e2, wx⟩
set_option maxRecDepth 100000 in
theorem shut_hub {x : Hb} (h : hubW x) : DataW.Trod enc Try.prog W 0 sp true 50 (hubV x) (hubD x) [] := ⟨2, hub_mk h⟩
set_option maxRecDepth 100000 in
theorem open_rim {r : Reach} {v : Value} {d : DataW H} {p : List MemPlace} (hv : Value.okWide Try.prog W r b0 51 v) (h : DataW.Trod enc Try.prog W 0 sp true 51 v d p) : ∃ x, v = rimV x ∧ d = rimD x ∧ p = [] ∧ rimW x := by
  obtain ⟨cs, rfl, -⟩ := okWide_struct Try.underlying51 hv
  obtain ⟨fuel, hf⟩ := h
  obtain ⟨x, e, ex, wx⟩ := trod_rim hf
  simp only [Value.cells] at e
  obtain ⟨l⟩ := cs
  subst e
  injection ex with e1 e2
  exact ⟨x, rfl, e1, e2, wx⟩
set_option maxRecDepth 100000 in
theorem shut_rim {x : Rm} (h : rimW x) : DataW.Trod enc Try.prog W 0 sp true 51 (rimV x) (rimD x) [] := ⟨2, rim_mk h⟩
set_option maxRecDepth 100000 in
theorem open_wheel {r : Reach} {v : Value} {d : DataW H} {p : List MemPlace} (hv : Value.okWide Try.prog W r b0 53 v) (h : DataW.Trod enc Try.prog W 0 sp true 53 v d p) : ∃ x, v = wheelV x ∧ d = wheelD x ∧ p = [] ∧ wheelW x := by
  obtain ⟨cs, rfl, -⟩ := okWide_struct Try.underlying53 hv
  obtain ⟨fuel, hf⟩ := h
  obtain ⟨x, e, ex, wx⟩ := trod_wheel hf
  simp only [Value.cells] at e
  obtain ⟨l⟩ := cs
  subst e
  injection ex with e1 e2
  exact ⟨x, rfl, e1, e2, wx⟩
set_option maxRecDepth 100000 in
theorem shut_wheel {x : Wh} (h : wheelW x) : DataW.Trod enc Try.prog W 0 sp true 53 (wheelV x) (wheelD x) [] := ⟨3, wheel_mk h⟩
end
theorem law_toHub (h : Hb) (w : World) : Calls Try.prog 41 #[hubV h] w (IsV w (hubV h)) := by
  go_enter Try.func41, Try.ntmps41
  go_wp2_with fail
  refine bodyPost_ret (v := hubV h) (by simp [results, Try.results41, go_sem]) rfl ⟨rfl, by go_grown⟩
theorem law_toRim (r : Rm) (w : World) : Calls Try.prog 42 #[rimV r] w (IsV w (rimV r)) := by
  go_enter Try.func42, Try.ntmps42
  go_wp2_with fail
  refine bodyPost_ret (v := rimV r) (by simp [results, Try.results42, go_sem]) rfl ⟨rfl, by go_grown⟩
end Go.Proofs.Ytifblmcocikopab
