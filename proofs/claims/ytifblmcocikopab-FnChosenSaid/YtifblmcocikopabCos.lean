/- Contracts of the model's functions of chapter 3. -/
import Derived.Test.YtifblmcocikopabCosTab
import Derived.Test.YtifblmcocikopabRootS
namespace Go.Proofs.Ytifblmcocikopab
open Go.RowKit

/-- An answer; what was there before stays. -/
def Ans (v : Value) (w : World) (e : Ending) (w' : World) : Prop := e = .returned v ∧ Below w.heap.size w w'
def pairV (p : Int × Int) : Value := .tuple #[.int .i64 p.1, .int .i64 p.2]
def tripV (p : Int × Int × Int) : Value := .tuple #[.int .i64 p.1, .int .i64 p.2.1, .int .i64 p.2.2]

theorem specCosine (n : Int) (w : World) (h0 : -1000000 ≤ n) (h1 : n ≤ 1000000) :
    Calls Try.prog 69 #[.int .i64 n] w (Ans (.int .i64 (cosI n)) w) := by
  have HM := Go.Lib.hid (specMod n 720 w (by omega) (by omega) (by omega) (by omega))
  have HT := Go.Lib.hid (fun w0 => specTable w0)
  have hR0 : 0 ≤ n % 720 := by omega
  have hR1 : n % 720 < 720 := by omega
  have hc : cosI n = if foldI n ≤ 180 then cN (foldI n).toNat else -cN (360 - foldI n).toNat := rfl
  have hf : foldI n = if n % 720 ≤ 360 then n % 720 else 720 - n % 720 := rfl
  have hb := foldI_bd n
  generalize n % 720 = R at *
  generalize cosI n = c at *
  generalize foldI n = f at *
  obtain ⟨m, rfl⟩ : ∃ m : Nat, f = m := ⟨f.toNat, by omega⟩
  have hmin : min R (720 - R) = (m : Int) := by rw [hf]; split <;> omega
  by_cases h1 : (m : Int) ≤ 180
  · rw [if_pos h1, Int.toNat_natCast] at hc
    have HC := Go.Lib.hid hc
    have hle : R ≤ 360 → R = m := fun h => by rw [if_pos h] at hf; omega
    have hgt : ¬ R ≤ 360 → R = 720 - m := fun h => by rw [if_neg h] at hf; omega
    clear hc hf hmin
    by_cases h2 : R ≤ 360
    · obtain rfl := hle h2
      clear hle hgt
      go_enter Try.func69, Try.ntmps69
      go_wp2_with fail
      refine HM.out.mono ?_
      rintro _ _ ⟨rfl, rfl⟩
      go_wp2_with fail
      refine (HT.out _).mono ?_
      rintro e w1 ⟨v, rfl, q, c2, rfl, ho, hb1⟩
      have hcell := (ho.cell (k := m) (by omega)).trans (tabTo_at (by omega) (by omega))
      clear ho
      go_wp2_with fail
      go_ret
      exact ⟨by rw [HC.out]; rfl, hb1⟩
    · obtain rfl := hgt h2
      clear hle hgt
      have e1 : 720 - (720 - (m : Int)) = m := by omega
      go_enter Try.func69, Try.ntmps69
      go_wp2_with fail
      refine HM.out.mono ?_
      rintro _ _ ⟨rfl, rfl⟩
      go_wp2_with fail
      refine (HT.out _).mono ?_
      rintro e w1 ⟨v, rfl, q, c2, rfl, ho, hb1⟩
      have hcell := (ho.cell (k := m) (by omega)).trans (tabTo_at (by omega) (by omega))
      clear ho
      go_wp2_with fail
      go_ret
      exact ⟨by rw [HC.out]; rfl, hb1⟩
  · rw [if_neg h1] at hc
    have hle : R ≤ 360 → R = m := fun h => by rw [if_pos h] at hf; omega
    have hgt : ¬ R ≤ 360 → R = 720 - m := fun h => by rw [if_neg h] at hf; omega
    obtain ⟨j, rfl⟩ : ∃ j : Nat, m = 360 - j := ⟨360 - m, by omega⟩
    have hj : j < 180 := by omega
    have ej : (360 - ((360 - j : Nat) : Int)).toNat = j := by omega
    have em : ((360 - j : Nat) : Int) = 360 - j := by omega
    rw [ej] at hc
    have HC := Go.Lib.hid hc
    have e2 : 360 - (360 - (j : Int)) = j := by omega
    have fj := cN_fit (k := j) (by omega)
    rw [em] at hle hgt h1
    clear hc hf hmin ej em hb
    by_cases h2 : R ≤ 360
    · obtain rfl := hle h2
      clear hle hgt
      go_enter Try.func69, Try.ntmps69
      go_wp2_with fail
      refine HM.out.mono ?_
      rintro _ _ ⟨rfl, rfl⟩
      go_wp2_with fail
      refine (HT.out _).mono ?_
      rintro e w1 ⟨v, rfl, q, c2, rfl, ho, hb1⟩
      have hcell := (ho.cell (k := j) (by omega)).trans (tabTo_at (by omega) (by omega))
      clear ho
      generalize cN j = x at hcell fj HC
      go_wp2_with fail
      go_ret
      exact ⟨by rw [HC.out]; rfl, hb1⟩
    · obtain rfl := hgt h2
      clear hle hgt
      have e1 : 720 - (720 - (360 - (j : Int))) = 360 - j := by omega
      go_enter Try.func69, Try.ntmps69
      go_wp2_with fail
      refine HM.out.mono ?_
      rintro _ _ ⟨rfl, rfl⟩
      go_wp2_with fail
      refine (HT.out _).mono ?_
      rintro e w1 ⟨v, rfl, q, c2, rfl, ho, hb1⟩
      have hcell := (ho.cell (k := j) (by omega)).trans (tabTo_at (by omega) (by omega))
      clear ho
      generalize cN j = x at hcell fj HC
      go_wp2_with fail
      go_ret
      exact ⟨by rw [HC.out]; rfl, hb1⟩
end Go.Proofs.Ytifblmcocikopab
