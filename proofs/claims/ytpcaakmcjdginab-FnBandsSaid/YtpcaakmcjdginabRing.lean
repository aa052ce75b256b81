/- A ring of spokes in memory: a block of three cells for each spoke, with pointers to its neighbours. No program. -/
import Derived.Test.YtpcaakmcjdginabTenB
import Derived.LaidEqlPtr
namespace Go.Proofs.Ytpcaakmcjdginab
open Go.RowKit
set_option linter.unusedSimpArgs false
set_option linter.unusedVariables false

def ringAt (g n : Nat) (zs : List Int) (c : Nat) : Value :=
  if c % 3 = 0 then .int .i64 (zs.getD (c / 3) 0) else if c % 3 = 1 then .pointer (some ⟨g, prevP n (c / 3) * 3, none⟩) else .pointer (some ⟨g, nextP n (c / 3) * 3, none⟩)
def ringL (g n : Nat) (zs : List Int) : List Value := (List.range (3 * n)).map (ringAt g n zs)
theorem ringL_at {g n c : Nat} {zs : List Int} (hc : c < 3 * n) : (ringL g n zs)[c]? = some (ringAt g n zs c) := by simp [ringL, hc]
theorem ringL_len (g n : Nat) (zs : List Int) : (ringL g n zs).length = 3 * n := by simp [ringL]
theorem ringAt_0 (g n : Nat) (zs : List Int) (k : Nat) : ringAt g n zs (k * 3) = .int .i64 (zs.getD k 0) := by
  unfold ringAt
  rw [if_pos (by omega), show k * 3 / 3 = k by omega]
theorem ringAt_1 (g n : Nat) (zs : List Int) (k : Nat) : ringAt g n zs (k * 3 + 1) = .pointer (some ⟨g, prevP n k * 3, none⟩) := by
  unfold ringAt
  rw [if_neg (by omega), if_pos (by omega), show (k * 3 + 1) / 3 = k by omega]
theorem ringAt_2 (g n : Nat) (zs : List Int) (k : Nat) : ringAt g n zs (k * 3 + 2) = .pointer (some ⟨g, nextP n k * 3, none⟩) := by
  unfold ringAt
  rw [if_neg (by omega), if_neg (by omega), show (k * 3 + 2) / 3 = k by omega]
theorem ext_list {xs ys : List Value} (hl : xs.length = ys.length) (h : ∀ j, j < xs.length → xs[j]? = ys[j]?) : xs = ys := ext_of hl h
theorem ringL_set {g n k : Nat} {zs : List Int} (hl : zs.length = n) (hk : k < n) (v : Int) : (ringL g n zs).set (k * 3) (.int .i64 v) = ringL g n (zs.set k v) := by
  refine ext_of (by simp [ringL]) fun j hj => ?_
  rw [List.length_set, ringL_len] at hj
  rw [ringL_at hj]
  by_cases h : k * 3 = j
  · subst h
    rw [List.getElem?_set_self (by rw [ringL_len]; exact hj), ringAt_0]
    simp [hl, hk]
  · rw [List.getElem?_set_ne h, ringL_at hj]
    unfold ringAt
    by_cases h0 : j % 3 = 0
    · rw [if_pos h0, if_pos h0, List.getD_eq_getElem?_getD, List.getD_eq_getElem?_getD, List.getElem?_set_ne (by omega)]
    · rw [if_neg h0, if_neg h0]
/-- The block is a row of cells. -/
def Bl (w : World) (g : Nat) : Prop := ∃ ca ta, w.heap[g]? = some (.cells ca ta (0, 0))
theorem Bl.set {w : World} {g k : Nat} (h : Bl w g) (v : Value) : Bl (w.setCell ⟨g, k, none⟩ v) g := by
  obtain ⟨ca, ta, e⟩ := h
  exact ⟨_, ta, by simp only [World.setCell, Array.getElem?_modify, e]; rfl⟩
theorem Bl.below {w w' : World} {g : Nat} (h : Bl w g) (hg : g < w.heap.size) (b : Below w.heap.size w w') : Bl w' g := by
  obtain ⟨ca, ta, e⟩ := h
  exact ⟨ca, ta, (b.block g hg).trans e⟩
theorem Bl.of_row {w : World} {base g n : Nat} {t : TypeId} {xs : List Value} (h : w.ownsRow base t 3 (.slice (some ⟨g, 0, none⟩) n n) n xs) (hn : 0 < n) : Bl w g := by
  rcases h.2 with ⟨_, h0⟩ | ⟨g', cap, cur, hv, _, hh, _⟩
  · omega
  · have : g' = g := by injection hv with e; injection e with e; injection e with e; exact e.symm
    subst this
    exact ⟨cur, t, hh⟩
theorem run_neq_ptr_other {P : Program} (w : World) {tp te : TypeId} {j : TypeInfo} {a b : Addr} (hp : P.underlying tp = some (.pointer te)) (hte : P.info? te = some j) (hsz : j.size ≠ 0)
    (hne : a ≠ b) (ha : Bl w a.block) (hb : Bl w b.block) : (binOp .neq tp (.pointer (some a)) (.pointer (some b))).run P w = .ok (.bool true) w := by
  obtain ⟨ca, ta, ha⟩ := ha
  obtain ⟨cb, tb, hb⟩ := hb
  have h : ∀ d : Nat, (Op.equalIn (d + 1) tp (.pointer (some a)) (.pointer (some b))).run P w = .ok false w := fun d => by
    simp [Op.equalIn, run_underlying hp, sizeOf, typeInfo, hte, hsz, run_sameAddr_other w hne ha hb]
  simp only [binOp]
  simp [Op.equal, Op.maxDepth, h 9999]
theorem run_neq_ptr_same {P : Program} (w : World) {tp te : TypeId} {j : TypeInfo} (a : Addr) (hp : P.underlying tp = some (.pointer te)) (hte : P.info? te = some j) :
    (binOp .neq tp (.pointer (some a)) (.pointer (some a))).run P w = .ok (.bool false) w := by
  have h : ∀ d : Nat, (Op.equalIn (d + 1) tp (.pointer (some a)) (.pointer (some a))).run P w = .ok true w := fun d => by
    simp [Op.equalIn, run_underlying hp, sizeOf, typeInfo, hte, run_sameAddr_same]
  simp only [binOp]
  simp [Op.equal, Op.maxDepth, h 9999]
/-- The ring in block g. -/
structure Rng (w : World) (g n : Nat) (zs : List Int) : Prop where
  box : Box w g (ringL g n zs)
  len : zs.length = n
  bl : Bl w g
section
variable {w w' : World} {g n : Nat} {zs : List Int}
theorem Rng.val (h : Rng w g n zs) {k : Nat} (hk : k < n) : w.cell? ⟨g, k * 3, none⟩ = some (.int .i64 (zs.getD k 0)) := by
  have := h.box.at_ (k * 3) _ (ringL_at (by omega))
  rwa [ringAt_0] at this
theorem Rng.prev (h : Rng w g n zs) {k : Nat} (hk : k < n) : w.cell? ⟨g, k * 3 + 1, none⟩ = some (.pointer (some ⟨g, prevP n k * 3, none⟩)) := by
  have := h.box.at_ (k * 3 + 1) _ (ringL_at (by omega))
  rwa [ringAt_1] at this
theorem Rng.next (h : Rng w g n zs) {k : Nat} (hk : k < n) : w.cell? ⟨g, k * 3 + 2, none⟩ = some (.pointer (some ⟨g, nextP n k * 3, none⟩)) := by
  have := h.box.at_ (k * 3 + 2) _ (ringL_at (by omega))
  rwa [ringAt_2] at this
theorem Rng.fr (h : Rng w g n zs) (j : Nat) : w.frozen? ⟨g, j, none⟩ = false := h.box.fr j
theorem Rng.drewN (h : Rng w g n zs) (m : Nat) : Rng (w.drewN m) g n zs := ⟨h.box.drewN m, h.len, h.bl⟩
theorem Rng.below (h : Rng w g n zs) (b : Below w.heap.size w w') : Rng w' g n zs := ⟨h.box.below b, h.len, h.bl.below h.box.lt b⟩
theorem Rng.add (h : Rng w g n zs) {k : Nat} (hk : k < n) (v : Int) : Rng (w.setCell ⟨g, k * 3, none⟩ (.int .i64 (zs.getD k 0 + v))) g n (addAt zs k v) := by
  refine ⟨?_, by rw [addAt_len]; exact h.len, h.bl.set _⟩
  have := h.box.set (k := k * 3) (.int .i64 (zs.getD k 0 + v)) (by rw [ringL_len]; omega)
  rw [ringL_set h.len hk] at this
  exact this
end
/-- The ring in the making: k spokes have been laid. -/
def partAt (g n : Nat) (zs : List Int) (k c : Nat) : Value :=
  if c % 3 = 0 then .int .i64 (if c / 3 < k then zs.getD (c / 3) 0 else 0) else if c % 3 = 1 then .pointer (if prevP n (c / 3) < k then some ⟨g, prevP n (c / 3) * 3, none⟩ else none) else .pointer (if c / 3 < k then some ⟨g, nextP n (c / 3) * 3, none⟩ else none)
def partL (g n : Nat) (zs : List Int) (k : Nat) : List Value := (List.range (3 * n)).map (partAt g n zs k)
theorem partL_at {g n k c : Nat} {zs : List Int} (hc : c < 3 * n) : (partL g n zs k)[c]? = some (partAt g n zs k c) := by simp [partL, hc]
theorem partL_len (g n : Nat) (zs : List Int) (k : Nat) : (partL g n zs k).length = 3 * n := by simp [partL]
theorem partL_end (g n : Nat) (zs : List Int) : partL g n zs n = ringL g n zs := by
  refine ext_of (by simp [partL, ringL]) fun j hj => ?_
  rw [partL_len] at hj
  rw [partL_at hj, ringL_at hj]
  unfold partAt ringAt
  have h1 : j / 3 < n := by omega
  have h2 : prevP n (j / 3) < n := prevP_lt (by omega)
  rw [if_pos h1, if_pos h1, if_pos h2]
theorem made_ring (n : Nat) : (madeCells (Value.agg #[Value.int IntKind.i64 0, Value.pointer none, Value.pointer none]).cells (n * 3)).toList = partL 0 n [] 0 := by
  refine ext_of (by simp [partL, madeCells]; omega) fun j hj => ?_
  have hj2 : j < n * 3 := by simpa [madeCells] using hj
  rw [partL_at (by omega)]
  unfold partAt
  have h3 : j % 3 = 0 ∨ j % 3 = 1 ∨ j % 3 = 2 := by omega
  rcases h3 with h | h | h <;> simp [madeCells, Value.cells, hj2, h]
theorem partL_zero (g n : Nat) (zs : List Int) : partL g n zs 0 = partL 0 n [] 0 := by
  refine ext_of (by simp [partL]) fun j hj => ?_
  rw [partL_len] at hj
  rw [partL_at hj, partL_at hj]
  simp [partAt]
theorem next_prev {n j : Nat} (hj : j < n) : nextP n (prevP n j) = j := by
  rw [prevP_eq hj]
  split
  · rw [nextP_eq (by omega)]; split <;> omega
  · rw [nextP_eq (by omega)]; split <;> omega
theorem partL_step {g n k : Nat} {zs : List Int} (hk : k < n) :
    (((partL g n zs k).set (k * 3) (.int .i64 (zs.getD k 0))).set (k * 3 + 2) (.pointer (some ⟨g, nextP n k * 3, none⟩))).set (nextP n k * 3 + 1) (.pointer (some ⟨g, k * 3, none⟩)) = partL g n zs (k + 1) := by
  have hnk := nextP_lt (n := n) (i := k) (by omega)
  refine ext_of (by simp [partL]) fun j hj => ?_
  simp only [List.length_set, partL_len] at hj
  rw [partL_at hj]
  by_cases h1 : nextP n k * 3 + 1 = j
  · subst h1
    rw [List.getElem?_set_self (by simp only [List.length_set, partL_len]; exact hj)]
    unfold partAt
    rw [if_neg (by omega), if_pos (by omega), show (nextP n k * 3 + 1) / 3 = nextP n k by omega, prev_next hk, if_pos (by omega)]
  · rw [List.getElem?_set_ne h1]
    by_cases h2 : k * 3 + 2 = j
    · subst h2
      rw [List.getElem?_set_self (by simp only [List.length_set, partL_len]; exact hj)]
      unfold partAt
      rw [if_neg (by omega), if_neg (by omega), show (k * 3 + 2) / 3 = k by omega, if_pos (by omega)]
    · rw [List.getElem?_set_ne h2]
      by_cases h3 : k * 3 = j
      · subst h3
        rw [List.getElem?_set_self (by simp only [partL_len]; exact hj)]
        unfold partAt
        rw [if_pos (by omega), show k * 3 / 3 = k by omega, if_pos (by omega)]
      · rw [List.getElem?_set_ne h3, partL_at hj]
        unfold partAt
        by_cases m0 : j % 3 = 0
        · rw [if_pos m0, if_pos m0]
          by_cases hlt : j / 3 < k
          · rw [if_pos hlt, if_pos (by omega)]
          · rw [if_neg hlt, if_neg (by omega)]
        · rw [if_neg m0, if_neg m0]
          by_cases m1 : j % 3 = 1
          · rw [if_pos m1, if_pos m1]
            have hne : prevP n (j / 3) ≠ k := by
              intro e
              have := next_prev (n := n) (j := j / 3) (by omega)
              rw [e] at this
              omega
            by_cases hlt : prevP n (j / 3) < k
            · rw [if_pos hlt, if_pos (by omega)]
            · rw [if_neg hlt, if_neg (by omega)]
          · rw [if_neg m1, if_neg m1]
            by_cases hlt : j / 3 < k
            · rw [if_pos hlt, if_pos (by omega)]
            · rw [if_neg hlt, if_neg (by omega)]
theorem Box.of_row {w : World} {base g n : Nat} {t : TypeId} {xs : List Value} (h : w.ownsRow base t 3 (.slice (some ⟨g, 0, none⟩) n n) n xs) (hn : 0 < n) : Box w g xs := by
  have hlt := (h.lt g rfl).2
  have hl := h.1
  refine ⟨fun k v hv => ?_, fun j => h.frozenAt j, hlt⟩
  have hk : k < xs.length := (List.getElem?_eq_some_iff.1 hv).1
  rw [h.cellAt k (by omega), hv]
end Go.Proofs.Ytpcaakmcjdginab
