/- Lists of lists of numbers that a call owns, and the laws' helpers on them: eqInt64SS, markInt64SS, heldInt64SS, likeRows. -/
import Derived.Test.YthedanpldebjcaaInts
import Derived.Test.YthedanpldebjcaaMgUsable8
import Derived.Deep.RegionHeld3
namespace Go.Proofs.Ythedanpldebjcaa
open Go.RowKit

def rowAt (zss : List (List Int)) (i : Nat) : List Int := zss.getD i []
def gcells (zss : List (List Int)) (a : Nat → Option Addr) (c : Nat → Nat) : List Value := (List.range zss.length).map fun i => Value.slice (a i) (rowAt zss i).length (c i)
theorem gcells_at (zss : List (List Int)) (a : Nat → Option Addr) (c : Nat → Nat) {i : Nat} (h : i < zss.length) : (gcells zss a c)[i]? = some (.slice (a i) (rowAt zss i).length (c i)) := by simp [gcells, h]
/-- The outer slice lies in the block g, row i in the block G i; all blocks are different, from lo on and below hi. -/
structure GridAt (w : World) (lo hi : Nat) (A : Option Addr) (n : Nat) (zss : List (List Int)) (a : Nat → Option Addr) (c G : Nat → Nat) (g : Nat) : Prop where
  len : zss.length = n
  out : 0 < n → A = some ⟨g, 0, none⟩ ∧ (lo ≤ g ∧ g < hi) ∧ Box w g (gcells zss a c)
  row : ∀ i, i < n → 0 < (rowAt zss i).length → a i = some ⟨G i, 0, none⟩ ∧ (lo ≤ G i ∧ G i < hi ∧ G i ≠ g) ∧ Box w (G i) (ints (rowAt zss i))
  apart : ∀ i j, i < n → j < n → i ≠ j → 0 < (rowAt zss i).length → 0 < (rowAt zss j).length → G i ≠ G j
  many : n ≤ 1000000
  small : ∀ i, i < n → (rowAt zss i).length ≤ 1000000
theorem Box.below' {w w1 : World} {q B : Nat} {cs : List Value} (h : Box w q cs) (hb : Below B w w1) (hq : q < B) : Box w1 q cs :=
  ⟨fun k v hv => (hb.cell (p := ⟨q, k, none⟩) hq).trans (h.at_ k v hv), fun j => (hb.frozen (p := ⟨q, j, none⟩) hq).trans (h.fr j), Nat.lt_of_lt_of_le h.lt hb.size⟩
theorem Box.rd {w : World} {q n : Nat} {A : Option Addr} {zs : List Int} (hl : zs.length = n) (h : 0 < n → A = some ⟨q, 0, none⟩ ∧ Box w q (ints zs)) : Rd w 0 w.heap.size A n (ints zs) := by
  refine ⟨by rw [ints_len]; exact hl, fun hn => ?_⟩
  obtain ⟨rfl, hb⟩ := h hn
  exact ⟨q, 0, rfl, Nat.zero_le _, hb.lt, fun j u hu => by rw [Nat.zero_add]; exact hb.at_ j u hu⟩
section
variable {w w' : World} {lo hi n : Nat} {A : Option Addr} {zss : List (List Int)} {a : Nat → Option Addr} {c G : Nat → Nat} {g : Nat}
theorem GridAt.below {B : Nat} (h : GridAt w lo hi A n zss a c G g) (hb : Below B w w') (hB : hi ≤ B) : GridAt w' lo hi A n zss a c G g :=
  ⟨h.len, fun h0 => ⟨(h.out h0).1, (h.out h0).2.1, (h.out h0).2.2.below' hb (Nat.lt_of_lt_of_le (h.out h0).2.1.2 hB)⟩,
    fun i hi2 h0 => ⟨(h.row i hi2 h0).1, (h.row i hi2 h0).2.1, (h.row i hi2 h0).2.2.below' hb (Nat.lt_of_lt_of_le (h.row i hi2 h0).2.1.2.1 hB)⟩, h.apart, h.many, h.small⟩
theorem GridAt.keep {l m : Nat} (h : GridAt w lo hi A n zss a c G g) (hk : Keep l m w w') (hd : hi ≤ l ∨ m ≤ lo) : GridAt w' lo hi A n zss a c G g :=
  ⟨h.len, fun h0 => ⟨(h.out h0).1, (h.out h0).2.1, (h.out h0).2.2.keep hk (by have := (h.out h0).2.1; omega)⟩,
    fun i hi2 h0 => ⟨(h.row i hi2 h0).1, (h.row i hi2 h0).2.1, (h.row i hi2 h0).2.2.keep hk (by have := (h.row i hi2 h0).2.1; omega)⟩, h.apart, h.many, h.small⟩
theorem GridAt.drewN (h : GridAt w lo hi A n zss a c G g) (m : Nat) : GridAt (w.drewN m) lo hi A n zss a c G g :=
  ⟨h.len, fun h0 => ⟨(h.out h0).1, (h.out h0).2.1, (h.out h0).2.2.drewN m⟩, fun i hi2 h0 => ⟨(h.row i hi2 h0).1, (h.row i hi2 h0).2.1, (h.row i hi2 h0).2.2.drewN m⟩, h.apart, h.many, h.small⟩
theorem GridAt.mono {l m : Nat} (h : GridAt w lo hi A n zss a c G g) (h1 : l ≤ lo) (h2 : hi ≤ m) : GridAt w l m A n zss a c G g :=
  ⟨h.len, fun h0 => ⟨(h.out h0).1, by have := (h.out h0).2.1; omega, (h.out h0).2.2⟩, fun i hi2 h0 => ⟨(h.row i hi2 h0).1, by have := (h.row i hi2 h0).2.1; omega, (h.row i hi2 h0).2.2⟩, h.apart, h.many, h.small⟩
theorem GridAt.rd (h : GridAt w lo hi A n zss a c G g) {i : Nat} (hi2 : i < n) : Rd w 0 w.heap.size (a i) (rowAt zss i).length (ints (rowAt zss i)) :=
  Box.rd rfl fun h0 => ⟨(h.row i hi2 h0).1, (h.row i hi2 h0).2.2⟩
theorem GridAt.cell (h : GridAt w lo hi A n zss a c G g) {i : Nat} (hi2 : i < n) : w.cell? ⟨g, i, none⟩ = some (.slice (a i) (rowAt zss i).length (c i)) :=
  (h.out (by omega)).2.2.at_ i _ (gcells_at zss a c (by have := h.len; omega))
end

/-- The marks of the first i rows: how many. -/
def off (zss : List (List Int)) : Nat → Nat
  | 0 => 0
  | i + 1 => off zss i + (rowAt zss i).length
theorem off_le {zss : List (List Int)} {n : Nat} (h : ∀ i, i < n → (rowAt zss i).length ≤ 1000000) : ∀ i, i ≤ n → off zss i ≤ i * 1000000
  | 0, _ => by simp [off]
  | i + 1, hi => by
    have h1 := off_le h i (by omega)
    have h2 := h i (by omega)
    show off zss i + _ ≤ _
    omega
/-- The rows with marks in the first j of them. -/
def mixG (k : Nat) (zss : List (List Int)) (j : Nat) : List (List Int) := (List.range zss.length).map fun i => if i < j then marks (k + off zss i) (rowAt zss i).length else rowAt zss i
theorem mixG_len (k : Nat) (zss : List (List Int)) (j : Nat) : (mixG k zss j).length = zss.length := by simp [mixG]
theorem mixG_at (k : Nat) (zss : List (List Int)) (j : Nat) {i : Nat} (h : i < zss.length) : rowAt (mixG k zss j) i = if i < j then marks (k + off zss i) (rowAt zss i).length else rowAt zss i := by
  simp [rowAt, mixG, h]
theorem mixG_row (k : Nat) (zss : List (List Int)) (j : Nat) {i : Nat} (h : i < zss.length) : (rowAt (mixG k zss j) i).length = (rowAt zss i).length := by
  rw [mixG_at k zss j h]
  split
  · rw [marks_len]
  · rfl
theorem mixG_cells (k : Nat) (zss : List (List Int)) (j : Nat) (a : Nat → Option Addr) (c : Nat → Nat) : gcells (mixG k zss j) a c = gcells zss a c := by
  unfold gcells
  rw [mixG_len]
  refine List.map_congr_left fun i hi => ?_
  rw [mixG_row k zss j (List.mem_range.1 hi)]
theorem mixG_zero (k : Nat) (zss : List (List Int)) : mixG k zss 0 = zss := by
  apply List.ext_getElem?
  intro i
  rcases Nat.lt_or_ge i zss.length with h | h
  · simp [mixG, rowAt, h]
  · rw [List.getElem?_eq_none (by rw [mixG_len]; omega), List.getElem?_eq_none (by omega)]
/-- Row j has got its marks. -/
theorem GridAt.marked {w w' : World} {lo hi n k j : Nat} {A : Option Addr} {zss : List (List Int)} {a : Nat → Option Addr} {c G : Nat → Nat} {g : Nat} (h : GridAt w lo hi A n (mixG k zss j) a c G g) (hj : j < n)
    (hk : Keep (G j) (G j + 1) w w') (h0 : (rowAt zss j).length = 0 → w' = w) (hm : 0 < (rowAt zss j).length → Box w' (G j) (ints (marks (k + off zss j) (rowAt zss j).length))) : GridAt w' lo hi A n (mixG k zss (j + 1)) a c G g := by
  have hl : zss.length = n := by have := h.len; rwa [mixG_len] at this
  by_cases hz : (rowAt zss j).length = 0
  · have e : mixG k zss (j + 1) = mixG k zss j := by
      refine List.map_congr_left fun i hi2 => ?_
      by_cases hij : i = j
      · subst hij
        rw [if_pos (by omega), if_neg (by omega), hz]
        have := List.length_eq_zero_iff.1 hz
        rw [this]; rfl
      · by_cases hlt : i < j
        · rw [if_pos hlt, if_pos (by omega)]
        · rw [if_neg hlt, if_neg (by omega)]
    rw [e, h0 hz]
    exact h
  · have hp : 0 < (rowAt zss j).length := by omega
    have hr := h.row j hj (by rw [mixG_row k zss j (by omega)]; exact hp)
    refine ⟨by rw [mixG_len]; exact hl, fun hn => ?_, fun i hi2 hp2 => ?_, fun i m hi2 hm2 hne p1 p2 => ?_, h.many, fun i hi2 => ?_⟩
    · obtain ⟨e, b, x⟩ := h.out hn
      rw [mixG_cells] at x ⊢
      exact ⟨e, b, x.keep hk (by omega)⟩
    · rw [mixG_row k zss _ (by omega)] at hp2
      obtain ⟨e, b, x⟩ := h.row i hi2 (by rw [mixG_row k zss _ (by omega)]; exact hp2)
      refine ⟨e, b, ?_⟩
      by_cases hij : i = j
      · subst hij
        rw [mixG_at k zss _ (by omega), if_pos (by omega)]
        exact hm hp
      · have hne := h.apart i j hi2 hj hij (by rw [mixG_row k zss _ (by omega)]; exact hp2) (by rw [mixG_row k zss _ (by omega)]; exact hp)
        have e2 : rowAt (mixG k zss (j + 1)) i = rowAt (mixG k zss j) i := by
          rw [mixG_at k zss _ (by omega), mixG_at k zss _ (by omega)]
          by_cases hlt : i < j
          · rw [if_pos hlt, if_pos (by omega)]
          · rw [if_neg hlt, if_neg (by omega)]
        rw [e2]
        exact x.keep hk (by omega)
    · rw [mixG_row k zss _ (by omega)] at p1 p2
      exact h.apart i m hi2 hm2 hne (by rw [mixG_row k zss _ (by omega)]; exact p1) (by rw [mixG_row k zss _ (by omega)]; exact p2)
    · rw [mixG_row k zss _ (by omega)]
      have := h.small i hi2
      rwa [mixG_row k zss _ (by omega)] at this

/-- Behind markInt64S on a block of the call's own. -/
def MarkBTo (w : World) (g n k : Nat) (j : Nat) (wr : World) : Prop :=
  (0 < n → ∃ xs, Box wr g xs ∧ xs.length = n ∧ ∀ i, i < j → xs[i]? = some (.int .i64 ((k + i : Nat) : Int))) ∧ Keep g (g + 1) w wr ∧ (n = 0 → wr = w)
theorem MarkBTo.step {w wr : World} {g n k j : Nat} (h : MarkBTo w g n k j wr) (hj : j < n) : MarkBTo w g n k (j + 1) (wr.setCell ⟨g, j, none⟩ (.int .i64 ((k + j : Nat) : Int))) := by
  obtain ⟨hx, hk, h0⟩ := h
  obtain ⟨xs, hb, hl, hm⟩ := hx (by omega)
  refine ⟨fun _ => ⟨xs.set j (.int .i64 ((k + j : Nat) : Int)), hb.set _ (by omega), by simpa using hl, fun i hi => ?_⟩, hk.setCell (Nat.le_refl _) (Nat.lt_succ_self _) _, fun h => by omega⟩
  by_cases he : i = j
  · subst he
    simp [hl, hj]
  · rw [List.getElem?_set_ne (by omega)]
    exact hm i (by omega)
theorem MarkBTo.done {w wr : World} {g n k : Nat} (h : MarkBTo w g n k n wr) : Keep g (g + 1) w wr ∧ (n = 0 → wr = w) ∧ (0 < n → Box wr g (ints (marks k n))) := by
  refine ⟨h.2.1, h.2.2, fun hn => ?_⟩
  obtain ⟨xs, hb, hl, hm⟩ := h.1 hn
  have : xs = ints (marks k n) := ext_of (by rw [hl, ints_len, marks_len]) (fun j hj => by rw [hm j (by omega), ints_at _ _ (by rw [marks_len]; omega), marks_at k n j (by omega)])
  subst this
  exact hb
theorem markIntsB (A : Option Addr) (n cap k g : Nat) (xs : List Value) (w : World) (hl : xs.length = n) (h : 0 < n → A = some ⟨g, 0, none⟩ ∧ Box w g xs) (hn : n * 8 ≤ 140737488355328) (hk : k ≤ 140737488355328) :
    Calls Try.prog 47 #[.slice A n cap, .int .i64 k] w fun e w' => e = .returned (.int .i64 ((k + n : Nat) : Int)) ∧ Keep g (g + 1) w w' ∧ (n = 0 → w' = w) ∧ (0 < n → Box w' g (ints (marks k n))) := by
  have hn' : n ≤ 140737488355328 := by omega
  have h0 : MarkBTo w g n k 0 w := ⟨fun h1 => ⟨xs, (h h1).2, hl, fun i hi2 => absurd hi2 (by omega)⟩, Keep.refl _ _ _, fun _ => rfl⟩
  go_enter Try.func47, Try.ntmps47
  go_wp2
  go_loopw [1, 5] (fun c i wr => ∃ j : Nat, j ≤ n ∧ i = .int .i64 j ∧ c = .int .i64 ((k + j : Nat) : Int) ∧ MarkBTo w g n k j wr) (fun _ i _ => n - (intOf i).toNat)
  case atStart => exact ⟨0, Nat.zero_le _, rfl, rfl, h0⟩
  case round =>
    obtain ⟨j, hj, rfl, rfl, hm⟩ := hrel
    clear h0
    by_cases hlt : j < n
    · obtain ⟨rfl, -⟩ := h (by omega)
      have hs := hm.step hlt
      obtain ⟨hx, -, -⟩ := hm
      obtain ⟨xs', hb, hl', -⟩ := hx (by omega)
      have hfree := hb.fr j
      obtain ⟨u, hu⟩ : ∃ u, wr.cell? ⟨g, j, none⟩ = some u := ⟨xs'[j]'(by omega), hb.at_ j _ (List.getElem?_eq_getElem (by omega))⟩
      clear hb hl' h hl
      go_wp2
      go_roundw
      case rel => exact ⟨j + 1, by omega, by go_num, by go_num, hs⟩
      case measure => simp [intOf]; omega
    · obtain rfl : j = n := by omega
      go_wp2
      go_ret
      exact ⟨rfl, hm.done⟩
end Go.Proofs.Ythedanpldebjcaa
