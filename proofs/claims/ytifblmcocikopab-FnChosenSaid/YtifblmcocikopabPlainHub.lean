/- Hubs, rims and wheels in numbers. No program. -/
import Derived.Below
namespace Go.Proofs.Ytifblmcocikopab

structure Hb where
  n : Int
  l : Int
  r : Int
  a : Int
  b : Int
structure Rm where
  n : Int
  d : Int
  o : Int
structure Wh where
  h : Hb
  r : Rm
  c : Int
def holesL : List Int := [12, 16, 20, 24, 32, 36, 40, 48]
def holesB (n : Int) : Bool := holesL.any fun x => x == n
def inB (n a b : Int) : Bool := decide (a ≤ n) && decide (n ≤ b)
theorem inB_iff {n a b : Int} : inB n a b = true ↔ a ≤ n ∧ n ≤ b := by simp [inB]
def hubB (h : Hb) : Bool := holesB h.n && (inB h.l 200 1200 && (inB h.r 200 1200 && (inB h.a 0 500 && inB h.b 0 500)))
def rimB (r : Rm) : Bool := holesB r.n && (inB r.d 2000 7000 && inB r.o (-100) 100)
def most (n : Int) : Int := n / 4 - 1
def wheelB (w : Wh) : Bool := hubB w.h && (rimB w.r && (decide (w.h.n = w.r.n) && inB w.c 0 (most w.h.n)))
theorem holes_bd {n : Int} (h : holesB n = true) : 12 ≤ n ∧ n ≤ 48 ∧ n % 4 = 0 := by
  simp [holesB, holesL] at h
  omega
theorem hubB_of {h : Hb} (e : hubB h = true) : holesB h.n = true ∧ (200 ≤ h.l ∧ h.l ≤ 1200) ∧ (200 ≤ h.r ∧ h.r ≤ 1200) ∧ (0 ≤ h.a ∧ h.a ≤ 500) ∧ 0 ≤ h.b ∧ h.b ≤ 500 := by
  simpa only [hubB, Bool.and_eq_true, inB_iff] using e
theorem rimB_of {r : Rm} (e : rimB r = true) : holesB r.n = true ∧ (2000 ≤ r.d ∧ r.d ≤ 7000) ∧ -100 ≤ r.o ∧ r.o ≤ 100 := by
  simpa only [rimB, Bool.and_eq_true, inB_iff] using e
theorem wheelB_of {w : Wh} (e : wheelB w = true) : hubB w.h = true ∧ rimB w.r = true ∧ w.h.n = w.r.n ∧ 0 ≤ w.c ∧ w.c ≤ most w.h.n := by
  simpa only [wheelB, Bool.and_eq_true, inB_iff, decide_eq_true_eq] using e
def mirrH (h : Hb) : Hb := ⟨h.n, h.r, h.l, h.b, h.a⟩
def mirrR (r : Rm) : Rm := ⟨r.n, r.d, -r.o⟩
def mirrW (w : Wh) : Wh := ⟨mirrH w.h, mirrR w.r, w.c⟩
def zeroH : Hb := ⟨0, 0, 0, 0, 0⟩
def zeroR : Rm := ⟨0, 0, 0⟩
def zeroW : Wh := ⟨zeroH, zeroR, 0⟩
theorem mirrH_two (h : Hb) : mirrH (mirrH h) = h := rfl
theorem mirrW_two (w : Wh) : mirrW (mirrW w) = w := by
  obtain ⟨⟨n, l, r, a, b⟩, ⟨m, d, o⟩, c⟩ := w
  simp [mirrW, mirrH, mirrR]
theorem hubB_mirr (h : Hb) : hubB (mirrH h) = hubB h := by
  simp only [hubB, mirrH]
  cases holesB h.n <;> cases inB h.l 200 1200 <;> cases inB h.r 200 1200 <;> cases inB h.a 0 500 <;> cases inB h.b 0 500 <;> rfl
theorem inB_neg (n : Int) : inB (-n) (-100) 100 = inB n (-100) 100 := by
  rw [Bool.eq_iff_iff, inB_iff, inB_iff]; omega
theorem rimB_mirr (r : Rm) : rimB (mirrR r) = rimB r := by simp only [rimB, mirrR, inB_neg]
theorem wheelB_mirr (w : Wh) : wheelB (mirrW w) = wheelB w := by
  show (hubB (mirrH w.h) && (rimB (mirrR w.r) && _)) = _
  rw [hubB_mirr, rimB_mirr]; rfl
def dish (w : Wh) : Int := w.h.b - w.h.a - 2 * w.r.o
theorem dish_mirr (w : Wh) : dish (mirrW w) = -dish w := by
  show w.h.a - w.h.b - 2 * -w.r.o = -(w.h.b - w.h.a - 2 * w.r.o)
  omega
theorem dish_bd {w : Wh} (e : wheelB w = true) : -1000 ≤ dish w ∧ dish w ≤ 1000 := by
  obtain ⟨h1, h2, -⟩ := wheelB_of e
  have a := hubB_of h1
  have b := rimB_of h2
  unfold dish
  omega
/-- Answers. -/
def mostA (n : Int) : Int × Int := if holesB n then (most n, 0) else (0, 2)
def dishA (w : Wh) : Int × Int := if wheelB w then (dish w, 0) else (0, 1)
def mirrHA (h : Hb) : Hb × Int := if hubB h then (mirrH h, 0) else (zeroH, 1)
def mirrWA (w : Wh) : Wh × Int := if wheelB w then (mirrW w, 0) else (zeroW, 1)
end Go.Proofs.Ytifblmcocikopab
