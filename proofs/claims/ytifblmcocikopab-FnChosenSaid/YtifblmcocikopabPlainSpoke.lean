/- Spokes in numbers. No program. -/
import Derived.Test.YtifblmcocikopabPlainCos
import Derived.Test.YtifblmcocikopabPlainHub
namespace Go.Proofs.Ytifblmcocikopab

def offI (w : Wh) (r : Bool) : Int := if r then w.h.b - w.r.o else w.h.a + w.r.o
def flI (w : Wh) (r : Bool) : Int := if r then w.h.r else w.h.l
def stI (w : Wh) : Int := 1440 * w.c / w.h.n
/-- The square and the length of a spoke. -/
def spSq (w : Wh) (r : Bool) : Int := sqI w.r.d (flI w r) (stI w) + 4 * offI w r * offI w r
def spLen (w : Wh) (r : Bool) : Int := (rootI (spSq w r) + 1) / 2 - 12
theorem wheel_bd {w : Wh} (h : wheelB w = true) : (12 ≤ w.h.n ∧ w.h.n ≤ 48 ∧ w.h.n % 4 = 0) ∧ (200 ≤ w.h.l ∧ w.h.l ≤ 1200) ∧ (200 ≤ w.h.r ∧ w.h.r ≤ 1200) ∧ (0 ≤ w.h.a ∧ w.h.a ≤ 500) ∧ (0 ≤ w.h.b ∧ w.h.b ≤ 500) ∧ (2000 ≤ w.r.d ∧ w.r.d ≤ 7000) ∧ (-100 ≤ w.r.o ∧ w.r.o ≤ 100) ∧ 0 ≤ w.c ∧ w.c ≤ w.h.n / 4 - 1 := by
  obtain ⟨h1, h2, -, h3, h4⟩ := wheelB_of h
  obtain ⟨a, b, c, d, e⟩ := hubB_of h1
  obtain ⟨-, f, g⟩ := rimB_of h2
  exact ⟨holes_bd a, b, c, d, e, f, g, h3, h4⟩
theorem stI_bd {w : Wh} (h : wheelB w = true) : 0 ≤ stI w ∧ stI w ≤ 360 := by
  obtain ⟨⟨n0, n1, -⟩, -, -, -, -, -, -, c0, c1⟩ := wheel_bd h
  unfold stI
  refine ⟨Int.ediv_nonneg (by omega) (by omega), ?_⟩
  refine Int.ediv_le_of_le_mul (by omega) ?_
  omega
theorem offI_bd {w : Wh} {r : Bool} (h : wheelB w = true) : -100 ≤ offI w r ∧ offI w r ≤ 600 := by
  obtain ⟨-, -, -, a, b, -, o, -⟩ := wheel_bd h
  unfold offI
  split <;> omega
theorem flI_bd {w : Wh} {r : Bool} (h : wheelB w = true) : 200 ≤ flI w r ∧ flI w r ≤ 1200 := by
  obtain ⟨-, l, r', -⟩ := wheel_bd h
  unfold flI
  split <;> omega
theorem off_sq {x : Int} (h0 : -600 ≤ x) (h1 : x ≤ 600) : 0 ≤ 4 * x * x ∧ 4 * x * x ≤ 1440000 := by
  have h := prod_le (a := x) (b := x) (p := 600) (q := 600) ⟨h0, h1⟩ ⟨h0, h1⟩
  have h2 := sq0 x
  rw [Int.mul_assoc]
  omega
theorem spSq_bd {w : Wh} {r : Bool} (h : wheelB w = true) : 640000 ≤ spSq w r ∧ spSq w r ≤ 68680000 := by
  have ho := offI_bd (r := r) h
  have hf := flI_bd (r := r) h
  obtain ⟨-, -, -, -, -, hd, -⟩ := wheel_bd h
  have hs := sqI_bd (a := w.r.d) (b := flI w r) (stI w) (by omega) (by omega)
  have h4 := off_sq (x := offI w r) (by omega) (by omega)
  unfold spSq
  generalize flI w r = f at *
  have e1 := Int.mul_le_mul (a := 800) (b := 800) (c := w.r.d - f) (d := w.r.d - f) (by omega) (by omega) (by omega) (by omega)
  have e2 := Int.mul_le_mul (a := w.r.d + f) (b := w.r.d + f) (c := 8200) (d := 8200) (by omega) (by omega) (by omega) (by omega)
  omega
theorem root_in2 {n : Int} (h0 : 640000 ≤ n) (h1 : n ≤ 68680000) : 800 ≤ rootI n ∧ rootI n ≤ 8287 := by
  obtain ⟨r0, r1, r2⟩ := rootI_ok (n := n) (by omega)
  generalize rootI n = r at *
  constructor
  · rcases Int.lt_or_le r 800 with h | h
    · have := Int.mul_le_mul (a := r + 1) (b := r + 1) (c := 800) (d := 800) (by omega) (by omega) (by omega) (by omega)
      omega
    · exact h
  · rcases Int.lt_or_le 8287 r with h | h
    · have := Int.mul_le_mul (a := 8288) (b := 8288) (c := r) (d := r) (by omega) (by omega) (by omega) (by omega)
      omega
    · exact h
theorem spLen_bd {w : Wh} {r : Bool} (h : wheelB w = true) : 388 ≤ spLen w r ∧ spLen w r ≤ 4132 := by
  obtain ⟨a, b⟩ := spSq_bd (r := r) h
  have := root_in2 a b
  unfold spLen
  omega
/-- The length and twelve is half of the root, to the nearest. -/
theorem spLen_near {w : Wh} {r : Bool} (h : wheelB w = true) : (2 * (spLen w r + 12) - 1) * (2 * (spLen w r + 12) - 1) ≤ spSq w r ∧ spSq w r < (2 * (spLen w r + 12) + 1) * (2 * (spLen w r + 12) + 1) := by
  obtain ⟨a, b⟩ := spSq_bd (r := r) h
  have hr := root_in2 a b
  obtain ⟨r0, r1, r2⟩ := rootI_ok (n := spSq w r) (by omega)
  have e : spLen w r + 12 = (rootI (spSq w r) + 1) / 2 := by unfold spLen; omega
  rw [e]
  generalize spSq w r = S at *
  generalize rootI S = q at *
  obtain ⟨m, hm⟩ : ∃ m, m = (q + 1) / 2 := ⟨_, rfl⟩
  rw [← hm]
  have e1 := Int.mul_le_mul (a := 2 * m - 1) (b := 2 * m - 1) (c := q) (d := q) (by omega) (by omega) (by omega) (by omega)
  have e2 := Int.mul_le_mul (a := q + 1) (b := q + 1) (c := 2 * m + 1) (d := 2 * m + 1) (by omega) (by omega) (by omega) (by omega)
  omega
theorem offI_mirr (w : Wh) (r : Bool) : offI (mirrW w) (!r) = offI w r := by
  cases r
  · show w.h.a - -w.r.o = w.h.a + w.r.o; omega
  · show w.h.b + -w.r.o = w.h.b - w.r.o; omega
theorem flI_mirr (w : Wh) (r : Bool) : flI (mirrW w) (!r) = flI w r := by cases r <;> rfl
theorem spSq_mirr (w : Wh) (r : Bool) : spSq (mirrW w) (!r) = spSq w r := by
  unfold spSq
  rw [offI_mirr, flI_mirr]
  rfl
theorem spLen_mirr (w : Wh) (r : Bool) : spLen (mirrW w) (!r) = spLen w r := by unfold spLen; rw [spSq_mirr]

def sqSA (w : Wh) (r : Bool) : Int × Int := if wheelB w then (spSq w r, 0) else (0, 1)
def lenA (w : Wh) (r : Bool) : Int × Int := if wheelB w then (spLen w r, 0) else (0, 1)
/-- The lengths of both sides and how many spokes have them. -/
def countsL (w : Wh) : List (List Int) :=
  if spLen w false = spLen w true then [[spLen w false, 2 * (w.h.n / 2)]]
  else [[min (spLen w false) (spLen w true), w.h.n / 2], [max (spLen w false) (spLen w true), w.h.n / 2]]
/-- The wheel with another diameter, with other crosses. -/
def setD (w : Wh) (x : Int) : Wh := ⟨w.h, ⟨w.r.n, x, w.r.o⟩, w.c⟩
def setC (w : Wh) (x : Int) : Wh := ⟨w.h, w.r, x⟩
theorem wheelB_setD {w : Wh} (x : Int) (h : wheelB w = true) : wheelB (setD w x) = inB x 2000 7000 := by
  obtain ⟨h1, h2, h3, h4, h5⟩ := wheelB_of h
  have e : rimB (setD w x).r = inB x 2000 7000 := by
    have hr := h2
    unfold rimB at hr ⊢
    rw [Bool.and_eq_true, Bool.and_eq_true] at hr
    show (holesB w.r.n && (inB x 2000 7000 && inB w.r.o (-100) 100)) = _
    rw [hr.1, hr.2.2, Bool.true_and, Bool.and_true]
  have e2 : wheelB (setD w x) = (hubB w.h && (rimB (setD w x).r && (decide (w.h.n = w.r.n) && inB w.c 0 (most w.h.n)))) := rfl
  rw [e2, e, h1, decide_eq_true h3, inB_iff.2 ⟨h4, h5⟩]
  simp
theorem wheelB_setC {w : Wh} {x : Int} (h : wheelB w = true) (h0 : 0 ≤ x) (h1 : x < w.h.n / 4) : wheelB (setC w x) = true := by
  obtain ⟨a, b, c, -, -⟩ := wheelB_of h
  have e2 : wheelB (setC w x) = (hubB w.h && (rimB w.r && (decide (w.h.n = w.r.n) && inB x 0 (most w.h.n)))) := rfl
  rw [e2, a, b, decide_eq_true c, inB_iff.2 ⟨h0, by unfold most; omega⟩]
  rfl
end Go.Proofs.Ytifblmcocikopab
