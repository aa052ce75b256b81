/- Contracts of the laws' helpers that mark lists of strings: markText, markStringS, heldStringS; and of eqStringS. -/
import Derived.Test.YtgdibahflhlakaaDoorBas
import Derived.Test.YtgdibahflhlakaaDoorDec
import Derived.WalkKit
import Derived.WalkLawsBesides
import Derived.WalkSpells
import Derived.Deep.QuietTactic
import Derived.BigQuiet
import Derived.Deep.LoopGhost
import Derived.Deep.RegionHeld3
import Derived.Outline
namespace Go.Proofs.YtgdibahflhlakaaDoor
open Go.RowKit

/-- The mark of k. -/
def mtext (k : Nat) : List UInt8 := 109 :: Go.Lib.decDigits k
def DigTo (n k : Nat) (l : List UInt8) : Prop := (k = 0 → l = Go.Lib.decDigits n) ∧ (0 < k → Go.Lib.decDigits n = Go.Lib.decDigits k ++ l) ∧ l.length ≤ 20

theorem DigTo.step {n k : Nat} {l : List UInt8} (h : DigTo n k l) (hk : 0 < k) (hdl : (Go.Lib.decDigits n).length ≤ 20) : DigTo n (k / 10) (UInt8.ofNat (48 + (k : Int) % 10).toNat :: l) := by
  have h2 := h.2.1 hk
  have e : (48 + (k : Int) % 10).toNat = 48 + k % 10 := by omega
  rw [e]
  by_cases h10 : k < 10
  · have hd : Go.Lib.decDigits k = [UInt8.ofNat (48 + k % 10)] := by
      rw [Go.Lib.decDigits_one h10, Nat.mod_eq_of_lt h10]
    rw [hd] at h2
    refine ⟨fun _ => by rw [h2]; rfl, fun h0 => by omega, ?_⟩
    rw [h2] at hdl
    simpa using hdl
  · have hd : Go.Lib.decDigits k = Go.Lib.decDigits (k / 10) ++ [UInt8.ofNat (48 + k % 10)] := by
      rw [Go.Lib.decDigits, dif_neg h10]
    rw [hd, List.append_assoc] at h2
    refine ⟨fun h0 => by omega, fun _ => h2, ?_⟩
    rw [h2] at hdl
    simp only [List.length_append, List.length_cons, List.length_nil] at hdl ⊢
    omega

theorem markText (n : Nat) (w : World) (h0 : 1 ≤ n) (h1 : n ≤ 1000000000000000000) :
    Calls Tryd.prog 64 #[.int .i64 n] w (NewStr w (mtext n)) := by
  have hdl := dec_len n h1
  go_enter Tryd.func64, Tryd.ntmps64
  go_wp2
  go_loopw [0, 3] (fun a o wr => ∃ (k : Nat) (l : List UInt8), k ≤ n ∧ a = .int .i64 k ∧ o = .string ⟨l.toArray⟩ ∧ DigTo n k l ∧ Below w.heap.size w wr) (fun a _ _ => (intOf a).toNat)
  case atStart => exact ⟨n, [], Nat.le_refl _, rfl, rfl, ⟨fun h => by omega, fun h => by simp, by simp⟩, Below.refl _ _⟩
  case round =>
    obtain ⟨k, l, hk, rfl, rfl, hd, hb⟩ := hrel
    have hl20 := hd.2.2
    by_cases hk0 : 0 < k
    · have kb := fun w b => one_byte w b (48 + (k : Int) % 10) (by omega) (by omega)
      have ka := add_str [UInt8.ofNat (48 + (k : Int) % 10).toNat] l (by simp; omega)
      have hd2 := hd.step hk0 hdl
      obtain ⟨c, hc⟩ : ∃ c : UInt8, c = UInt8.ofNat (48 + (k : Int) % 10).toNat := ⟨_, rfl⟩
      simp only [← hc] at kb ka hd2
      have HD := Go.Lib.hid hd2
      clear hd hd2 hc
      go_wp2
      go_roundw
      case rel => exact ⟨k / 10, _, by omega, by go_num, rfl, HD.out, hb.alloc hb.size _⟩
      case measure => simp [intOf]; omega
    · obtain rfl : k = 0 := by omega
      have HD := Go.Lib.hid (hd.1 rfl)
      have ka := add_str [109] l (by simp; omega)
      clear hd
      go_wp2
      go_ret
      exact ⟨by rw [HD.out]; rfl, hb⟩

def mtexts (k n : Nat) : List ByteArray := (List.range n).map fun j => ⟨(mtext (k + j)).toArray⟩
theorem mtexts_len (k n : Nat) : (mtexts k n).length = n := by simp [mtexts]
theorem mtexts_at (k n j : Nat) (h : j < n) : (bas (mtexts k n))[j]? = some (.string ⟨(mtext (k + j)).toArray⟩) := by simp [bas, mtexts, h]

/-- Behind markStringS: the next mark, the marks written, nothing else that was there turned. -/
def MarkedS (w : World) (lo hi : Nat) (A : Option Addr) (n cap k : Nat) (e : Ending) (w' : World) : Prop :=
  e = .returned (.int .i64 ((k + n : Nat) : Int)) ∧ Ow w' lo hi 9 A n cap (bas (mtexts k n)) ∧ Keep lo hi w w'
def MarkSTo (w : World) (lo hi : Nat) (A : Option Addr) (n cap k : Nat) (j : Nat) (wr : World) : Prop :=
  ∃ xs, Ow wr lo hi 9 A n cap xs ∧ (∀ i, i < j → xs[i]? = some (.string ⟨(mtext (k + i)).toArray⟩)) ∧ Keep lo hi w wr
theorem MarkSTo.step {w wr w1 : World} {lo hi g n cap k j : Nat} (h : MarkSTo w lo hi (some ⟨g, 0, none⟩) n cap k j wr) (hj : j < n) (hb : Below wr.heap.size wr w1) (hhi : hi ≤ w.heap.size) :
    MarkSTo w lo hi (some ⟨g, 0, none⟩) n cap k (j + 1) (w1.setCell ⟨g, j, none⟩ (.string ⟨(mtext (k + j)).toArray⟩)) := by
  obtain ⟨xs, ho, hx, hk⟩ := h
  have hs := hk.size
  have ho := ho.below hb (by omega)
  have hl := ho.len
  obtain ⟨g', e, p, q, r⟩ := ho.form (by omega)
  have : g' = g := by injection e with e; injection e with e; exact e.symm
  subst this
  refine ⟨xs.set j (.string ⟨(mtext (k + j)).toArray⟩), ho.set_ _, ?_, (hk.trans (Keep.of_below' hb hs)).setCell p q _⟩
  intro i hi2
  by_cases he : i = j
  · subst he
    simp [hl, hj]
  · rw [List.getElem?_set_ne (by omega)]
    exact hx i (by omega)
theorem MarkSTo.done {w wr : World} {lo hi n cap k : Nat} {A : Option Addr} (h : MarkSTo w lo hi A n cap k n wr) : MarkedS w lo hi A n cap k (.returned (.int .i64 ((k + n : Nat) : Int))) wr := by
  obtain ⟨xs, ho, hx, hb⟩ := h
  have hl := ho.len
  have : xs = bas (mtexts k n) := ext_of (by rw [hl, bas_len, mtexts_len]) (fun j hj => by rw [hx j (by omega), mtexts_at k n j (by omega)])
  subst this
  exact ⟨rfl, ho, hb⟩

theorem markStrs (A : Option Addr) (n cap k : Nat) (xs : List Value) (lo hi : Nat) (w : World) (h : Ow w lo hi 9 A n cap xs) (hn : n ≤ 1000000000) (hk1 : 1 ≤ k) (hk : k ≤ 1000000000) (hhi : hi ≤ w.heap.size) :
    Calls Tryd.prog 33 #[.slice A n cap, .int .i64 k] w (MarkedS w lo hi A n cap k) := by
  have h0 : MarkSTo w lo hi A n cap k 0 w := ⟨xs, h, fun i hi2 => absurd hi2 (by omega), Keep.refl _ _ _⟩
  go_enter Tryd.func33, Tryd.ntmps33
  go_wp2
  go_loopw [1, 5] (fun c i wr => ∃ j : Nat, j ≤ n ∧ i = .int .i64 j ∧ c = .int .i64 ((k + j : Nat) : Int) ∧ MarkSTo w lo hi A n cap k j wr) (fun _ i _ => n - (intOf i).toNat)
  case atStart => exact ⟨0, Nat.zero_le _, rfl, rfl, h0⟩
  case round =>
    obtain ⟨j, hj, rfl, rfl, hm⟩ := hrel
    clear h0 h
    by_cases hlt : j < n
    · have hst : ∃ g, A = some ⟨g, 0, none⟩ := by obtain ⟨xs', ho, _⟩ := hm; obtain ⟨g, e, _⟩ := ho.form (by omega); exact ⟨g, e⟩
      obtain ⟨g, rfl⟩ := hst
      have HM := Go.Lib.hid hm
      have HT := Go.Lib.hid (markText (k + j) wr (by omega) (by omega))
      clear hm
      go_wp2_with fail
      refine HT.out.mono ?_
      rintro e w1 ⟨rfl, hb1⟩
      have HS := Go.Lib.hid (HM.out.step hlt hb1 hhi)
      obtain ⟨xs', ho, hx, hb⟩ := HM.out
      have ho1 := ho.below hb1 (by have := hb.size; omega)
      have hfree := ho1.free j
      have hxl := ho1.len
      obtain ⟨u, hu⟩ : ∃ u, w1.cell? ⟨g, j, none⟩ = some u := ⟨xs'[j]'(by omega), (ho1.cell hlt).trans (List.getElem?_eq_getElem (by omega))⟩
      clear ho ho1 hx hb hxl
      go_wp2
      go_roundw
      case rel => exact ⟨j + 1, by omega, by go_num, by go_num, HS.out⟩
      case measure => simp [intOf]; omega
    · obtain rfl : j = n := by omega
      go_wp2
      go_ret
      exact hm.done

theorem heldStrs (A : Option Addr) (n cap k : Nat) (lo hi : Nat) (w : World) (h : Rd w lo hi A n (bas (mtexts k n))) (hhi : hi ≤ w.heap.size) (hn : n ≤ 1000000000) (hk1 : 1 ≤ k) (hk : k ≤ 1000000000) :
    Calls Tryd.prog 34 #[.slice A n cap, .int .i64 k] w fun e w' => e = .returned (.int .i64 ((k + n : Nat) : Int)) ∧ Below w.heap.size w w' := by
  go_enter Tryd.func34, Tryd.ntmps34
  go_wp2
  go_loopw [1, 5] (fun c i wr => ∃ j : Nat, j ≤ n ∧ i = .int .i64 j ∧ c = .int .i64 ((k + j : Nat) : Int) ∧ Below w.heap.size w wr) (fun _ i _ => n - (intOf i).toNat)
  case atStart => exact ⟨0, Nat.zero_le _, rfl, rfl, Below.refl _ _⟩
  case round =>
    obtain ⟨j, hj, rfl, rfl, hb⟩ := hrel
    by_cases hlt : j < n
    · obtain ⟨b, o, rfl, p, q, c⟩ := h.at_ hlt
      have hcell : wr.cell? ⟨b, o + j, none⟩ = some (.string ⟨(mtext (k + j)).toArray⟩) := (hb.cell (p := ⟨b, o + j, none⟩) (by show b < _; omega)).trans (c j _ (mtexts_at k n j hlt))
      have hbs : b < wr.heap.size := by have := hb.size; omega
      have HT := Go.Lib.hid (fun w0 => markText (k + j) w0 (by omega) (by omega))
      clear c h
      go_wp2_with fail
      go_region_held3 (fun w' => w'.cell? ⟨b, o + j, none⟩ = some (.string ⟨(mtext (k + j)).toArray⟩)) (first | go_keep | (rw [bcell (by assumption) _ _ (by simp; omega)]; assumption)) (first | ((go_at_call 64; refine (HT.out _).mono ?_; rintro e w1 ⟨rfl, hb1⟩)))
      go_wp2
      go_roundw
      case rel => exact ⟨j + 1, by omega, by go_num, by go_num, hb.drew.trans (hb1.mono hb.size)⟩
      case measure => simp [intOf]; omega
    · obtain rfl : j = n := by omega
      go_wp2
      go_ret
      exact ⟨rfl, hb⟩
end Go.Proofs.YtgdibahflhlakaaDoor
