/- Truing in numbers: the first plan of an effort, the least plan, the best turn. No program. -/
import Derived.Test.YtpcaakmcjdginaaPlainTru
namespace Go.Proofs.Ytpcaakmcjdginaa

/-- The first list that is not empty among f q, f (q - 1), .. (c of them). -/
def scanI (f : Int → List Int) (q : Int) : Nat → List Int
  | 0 => []
  | c + 1 => if 0 < (f q).length then f q else scanI f (q - 1) c
theorem scanI_mem {f : Int → List Int} : ∀ {c : Nat} {q : Int}, 0 < (scanI f q c).length → ∃ i : Nat, i < c ∧ scanI f q c = f (q - i) ∧ 0 < (f (q - i)).length
  | 0, q, h => by simp [scanI] at h
  | c + 1, q, h => by
    unfold scanI at h ⊢
    split at h
    · rename_i h0
      rw [if_pos h0]
      exact ⟨0, by omega, by simp, by simpa using h0⟩
    · rename_i h0
      rw [if_neg h0]
      obtain ⟨i, hi, e, hl⟩ := scanI_mem h
      refine ⟨i + 1, by omega, ?_, ?_⟩
      · rw [e]; congr 1; omega
      · rwa [show q - ((i + 1 : Nat) : Int) = q - 1 - i by omega]
theorem scanI_none {f : Int → List Int} : ∀ {c : Nat} {q : Int}, scanI f q c = [] → ∀ i : Nat, i < c → f (q - i) = []
  | 0, q, h, i, hi => by omega
  | c + 1, q, h, i, hi => by
    unfold scanI at h
    split at h
    · rename_i h0; rw [h] at h0; simp at h0
    · rename_i h0
      by_cases e : i = 0
      · subst e
        simpa using h0
      · have := scanI_none h (i - 1) (by omega)
        rwa [show q - 1 - ((i - 1 : Nat) : Int) = q - i by omega] at this
/-- The first good plan of an effort that begins with b; r numbers are to come. -/
def firstR (zs e : List Int) (tol : Int) : Nat → Int → List Int → List Int
  | 0, eff, b => if eff = 0 then if trueB (afterI zs e b) tol then b else [] else []
  | r + 1, eff, b => scanI (fun q => firstR zs e tol r (eff - max q (-q)) (b ++ [q])) eff (2 * eff + 1).toNat
/-- The effort of a plan. -/
def effI : List Int → Int
  | [] => 0
  | q :: ts => max q (-q) + effI ts
theorem effI_nonneg : ∀ ts : List Int, 0 ≤ effI ts
  | [] => Int.le_refl _
  | q :: ts => by have := effI_nonneg ts; unfold effI; omega
theorem effI_at : ∀ {ts : List Int} {k : Nat}, max (ts.getD k 0) (-(ts.getD k 0)) ≤ effI ts
  | [], k => by simp [effI]
  | q :: ts, 0 => by have := effI_nonneg ts; simp [effI]; omega
  | q :: ts, k + 1 => by
    have := effI_at (ts := ts) (k := k)
    have h2 : (q :: ts).getD (k + 1) 0 = ts.getD k 0 := by simp
    rw [h2]
    unfold effI
    omega
theorem first_spec {zs e : List Int} {tol : Int} : ∀ {r : Nat} {eff : Int} {b : List Int}, 0 ≤ eff → 0 < (firstR zs e tol r eff b).length → ∃ ys, firstR zs e tol r eff b = b ++ ys ∧ ys.length = r ∧ effI ys = eff ∧ trueB (afterI zs e (b ++ ys)) tol = true
  | 0, eff, b, h0, h => by
    unfold firstR at h ⊢
    split at h
    · rename_i he
      split at h
      · rename_i ht
        exact ⟨[], by rw [if_pos he, if_pos ht, List.append_nil], rfl, by rw [he]; rfl, by rw [List.append_nil]; exact ht⟩
      · simp at h
    · simp at h
  | r + 1, eff, b, h0, h => by
    unfold firstR at h ⊢
    obtain ⟨i, hi, e1, h1⟩ := scanI_mem h
    rw [e1]
    obtain ⟨ys, e2, hl, hf, ht⟩ := first_spec (show 0 ≤ eff - max (eff - (i : Int)) (-(eff - (i : Int))) by omega) h1
    exact ⟨(eff - i) :: ys, by rw [e2]; simp, by simp [hl], by unfold effI; omega, by rw [show b ++ (eff - (i : Int)) :: ys = b ++ [eff - (i : Int)] ++ ys by simp]; exact ht⟩
/-- Whoever completes b to a good plan of the effort is not missed. -/
theorem first_none {zs e : List Int} {tol : Int} : ∀ {r : Nat} {eff : Int} {b : List Int}, 0 ≤ eff → (r = 0 → 0 < b.length) → firstR zs e tol r eff b = [] → ∀ ys : List Int, ys.length = r → effI ys = eff → trueB (afterI zs e (b ++ ys)) tol = false
  | 0, eff, b, h0, hb, h, ys, hl, hf => by
    have hy : ys = [] := List.length_eq_zero_iff.1 hl
    subst hy
    have he : eff = 0 := hf.symm
    unfold firstR at h
    rw [if_pos he] at h
    rw [List.append_nil, ← Bool.not_eq_true]
    intro ht
    rw [if_pos ht] at h
    have := hb rfl
    rw [h] at this
    simp at this
  | r + 1, eff, b, h0, hb, h, ys, hl, hf => by
    cases ys with
    | nil => simp at hl
    | cons q ys =>
      unfold firstR at h
      unfold effI at hf
      have hn := effI_nonneg ys
      have hq : max q (-q) ≤ eff := by omega
      have := scanI_none h (eff - q).toNat (by omega)
      rw [show eff - (((eff - q).toNat : Nat) : Int) = q by omega] at this
      have := first_none (r := r) (eff := eff - max q (-q)) (b := b ++ [q]) (by omega) (fun _ => by simp) this ys (by simpa using hl) (by omega)
      rwa [show b ++ [q] ++ ys = b ++ q :: ys by simp] at this
/-- The least plan: the first one of the least effort. -/
def leastUp (F : Int → List Int) (k : Int) : Nat → List Int
  | 0 => []
  | c + 1 => if 0 < (F k).length then F k else leastUp F (k + 1) c
def leastI (zs e : List Int) (tol : Int) : List Int := leastUp (fun eff => firstR zs e tol zs.length eff []) 0 5
theorem leastUp_mem {F : Int → List Int} : ∀ {c : Nat} {k : Int}, 0 < (leastUp F k c).length → ∃ i : Nat, i < c ∧ leastUp F k c = F (k + i) ∧ 0 < (F (k + i)).length ∧ ∀ j : Nat, j < i → F (k + j) = []
  | 0, k, h => by simp [leastUp] at h
  | c + 1, k, h => by
    unfold leastUp at h ⊢
    split at h
    · rename_i h0
      rw [if_pos h0]
      exact ⟨0, by omega, by simp, by simpa using h0, fun j hj => by omega⟩
    · rename_i h0
      rw [if_neg h0]
      obtain ⟨i, hi, e, hl, hno⟩ := leastUp_mem h
      refine ⟨i + 1, by omega, ?_, ?_, fun j hj => ?_⟩
      · rw [e]; congr 1; omega
      · rwa [show k + ((i + 1 : Nat) : Int) = k + 1 + i by omega]
      · by_cases ej : j = 0
        · subst ej; simpa using h0
        · have := hno (j - 1) (by omega)
          rwa [show k + 1 + ((j - 1 : Nat) : Int) = k + j by omega] at this
def leastR (zs e : List Int) (tol : Int) : List Int × Int :=
  if devB zs && effB e then if decide (0 ≤ tol) && decide (tol ≤ 500) then if 0 < (leastI zs e tol).length then (leastI zs e tol, 0) else ([], 4) else ([], 2) else ([], 1)
/-- The best turn so far: spoke, quarter, the sum of squares. -/
structure Best where
  p : Int
  q : Int
  s : Int
def turnSq (zs e : List Int) (i : Nat) (q : Int) : Int := sqS (afterI zs e (oneT zs.length i q))
def bestStep (zs e : List Int) (i : Nat) (q : Int) (b : Best) : Best := if turnSq zs e i q < b.s then ⟨i, q, turnSq zs e i q⟩ else b
def bestTo (zs e : List Int) : Nat → Best
  | 0 => ⟨-1, 0, sqS zs⟩
  | k + 1 => bestStep zs e k (-1) (bestStep zs e k 1 (bestTo zs e k))
def bestI (zs e : List Int) : Best := bestTo zs e zs.length
def bestR (zs e : List Int) : Int × Int × Int := if devB zs && effB e then if (bestI zs e).p < 0 then (0, 0, 4) else ((bestI zs e).p, (bestI zs e).q, 0) else (0, 0, 1)
def Best.Ok (k : Int) (b : Best) : Prop := (b.p = -1 ∧ b.q = 0) ∨ (0 ≤ b.p ∧ b.p < k ∧ (b.q = 1 ∨ b.q = -1))
theorem bestStep_ok {zs e : List Int} {i : Nat} {q : Int} {b : Best} (hq : q = 1 ∨ q = -1) (h : b.Ok (i + 1)) : (bestStep zs e i q b).Ok (i + 1) := by
  unfold bestStep
  split
  · exact .inr ⟨by simp only; omega, by simp only; omega, hq⟩
  · exact h
theorem Best.Ok.mono {k l : Int} {b : Best} (h : b.Ok k) (hkl : k ≤ l) : b.Ok l := by
  rcases h with h | h
  · exact .inl h
  · exact .inr ⟨h.1, by omega, h.2.2⟩
theorem bestTo_bd (zs e : List Int) : ∀ k : Nat, (bestTo zs e k).Ok k
  | 0 => .inl ⟨rfl, rfl⟩
  | k + 1 => by
    have h := (bestTo_bd zs e k).mono (show (k : Int) ≤ k + 1 by omega)
    exact bestStep_ok (.inr rfl) (bestStep_ok (.inl rfl) h)
/-- Truing by turns: what is left, and the plan. -/
def trueTo (e : List Int) : Nat → List Int → List Int → List Int
  | 0, _, out => out
  | m + 1, zs, out => if (bestI zs e).p < 0 then out else trueTo e m (afterI zs e (oneT zs.length (bestI zs e).p.toNat (bestI zs e).q)) (addAt out (bestI zs e).p.toNat (bestI zs e).q)
def byR (zs e : List Int) (m : Int) : List Int × Int :=
  if devB zs && effB e then if decide (0 ≤ m) && decide (m ≤ 40) then (trueTo e m.toNat zs (List.replicate zs.length 0), 0) else ([], 2) else ([], 1)
theorem trueTo_len (e : List Int) : ∀ (m : Nat) (zs out : List Int), (trueTo e m zs out).length = out.length
  | 0, _, _ => rfl
  | m + 1, zs, out => by
    unfold trueTo
    split
    · rfl
    · rw [trueTo_len e m, addAt_len]
end Go.Proofs.Ytpcaakmcjdginaa
