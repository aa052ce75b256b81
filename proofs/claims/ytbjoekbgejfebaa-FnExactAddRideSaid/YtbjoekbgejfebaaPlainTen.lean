/- Tensions in numbers: what a turn does, sums, means, bands. No program. -/
import Derived.KernelRfl
namespace Go.Proofs.Ytbjoekbgejfebaa

def rngB (a b : Int) (zs : List Int) : Bool := zs.all fun z => decide (a ≤ z) && decide (z ≤ b)
theorem rngB_iff {a b : Int} {zs : List Int} : rngB a b zs = true ↔ ∀ z ∈ zs, a ≤ z ∧ z ≤ b := by simp [rngB]
theorem getD_mem {zs : List Int} {k : Nat} (hk : k < zs.length) : zs.getD k 0 ∈ zs := by simp [List.getD, hk]
theorem rngB_at {a b : Int} {zs : List Int} (h : rngB a b zs = true) {k : Nat} (hk : k < zs.length) : a ≤ zs.getD k 0 ∧ zs.getD k 0 ≤ b := rngB_iff.1 h _ (getD_mem hk)
theorem rngB_of {a b : Int} {zs : List Int} (h : ∀ k, k < zs.length → a ≤ zs.getD k 0 ∧ zs.getD k 0 ≤ b) : rngB a b zs = true := by
  rw [rngB_iff]
  intro z hz
  obtain ⟨k, hk, rfl⟩ := List.getElem_of_mem hz
  have := h k hk
  simpa [hk] using this
theorem rngB_step {a b : Int} {zs : List Int} {k : Nat} (hk : k < zs.length) (h : a ≤ zs.getD k 0 ∧ zs.getD k 0 ≤ b) (e : rngB a b zs = rngB a b (zs.drop k)) : rngB a b zs = rngB a b (zs.drop (k + 1)) := by
  have h2 : zs.getD k 0 = zs[k] := by simp [hk]
  rw [h2] at h
  rw [e, List.drop_eq_getElem_cons hk]
  unfold rngB
  rw [List.all_cons]
  simp only [h.1, h.2, decide_true, Bool.and_self, Bool.true_and]
theorem rngB_miss {a b : Int} {zs : List Int} {k : Nat} (hk : k < zs.length) (h : ¬ (a ≤ zs.getD k 0 ∧ zs.getD k 0 ≤ b)) : rngB a b zs = false := by
  rw [← Bool.not_eq_true]
  exact fun e => h (rngB_at e hk)
theorem rngB_end {a b : Int} {zs : List Int} {k : Nat} (hk : zs.length ≤ k) (e : rngB a b zs = rngB a b (zs.drop k)) : rngB a b zs = true := by
  rw [e, List.drop_eq_nil_of_le hk]; rfl

def tenB (zs : List Int) : Bool := decide (4 ≤ (zs.length : Int)) && decide ((zs.length : Int) ≤ 48) && rngB 0 3000 zs
structure Ten (zs : List Int) : Prop where
  lo : 4 ≤ zs.length
  hi : zs.length ≤ 48
  rng : rngB 0 3000 zs = true
theorem tenB_iff {zs : List Int} : tenB zs = true ↔ Ten zs := by
  simp only [tenB, Bool.and_eq_true, decide_eq_true_eq]
  exact ⟨fun ⟨⟨a, b⟩, c⟩ => ⟨by omega, by omega, c⟩, fun h => ⟨⟨by have := h.lo; omega, by have := h.hi; omega⟩, h.rng⟩⟩
theorem Ten.at_ {zs : List Int} (h : Ten zs) {k : Nat} (hk : k < zs.length) : 0 ≤ zs.getD k 0 ∧ zs.getD k 0 ≤ 3000 := rngB_at h.rng hk
def gainI (s : List Int) : Int := 2 * s.sum - s.getD 0 0
def stiffB (s : List Int) : Bool := decide (1 ≤ (s.length : Int)) && decide ((s.length : Int) ≤ 4) && rngB (-200) 200 s && (decide (0 < s.getD 0 0) && decide (0 < gainI s))
structure Stiff (s : List Int) : Prop where
  lo : 1 ≤ s.length
  hi : s.length ≤ 4
  rng : rngB (-200) 200 s = true
  one : 0 < s.getD 0 0
  gain : 0 < gainI s
theorem stiffB_iff {s : List Int} : stiffB s = true ↔ Stiff s := by
  simp only [stiffB, Bool.and_eq_true, decide_eq_true_eq]
  exact ⟨fun ⟨⟨⟨a, b⟩, c⟩, d, e⟩ => ⟨by omega, by omega, c, d, e⟩, fun h => ⟨⟨⟨by have := h.lo; omega, by have := h.hi; omega⟩, h.rng⟩, h.one, h.gain⟩⟩

theorem take_succ {zs : List Int} {k : Nat} (hk : k < zs.length) : zs.take (k + 1) = zs.take k ++ [zs.getD k 0] := by
  rw [List.take_add_one]
  simp [hk]
theorem sum_take_succ {zs : List Int} {k : Nat} (hk : k < zs.length) : (zs.take (k + 1)).sum = (zs.take k).sum + zs.getD k 0 := by
  rw [take_succ hk, List.sum_append]
  simp
theorem sum_take_bd {a b : Int} {zs : List Int} (h : rngB a b zs = true) : ∀ k, k ≤ zs.length → a * k ≤ (zs.take k).sum ∧ (zs.take k).sum ≤ b * k
  | 0, _ => by simp
  | k + 1, hk => by
    have h1 := sum_take_bd h k (by omega)
    have h2 := rngB_at h (k := k) (by omega)
    rw [sum_take_succ (by omega)]
    have e1 : a * ((k + 1 : Nat) : Int) = a * k + a := by rw [Int.natCast_add, Int.mul_add]; simp
    have e2 : b * ((k + 1 : Nat) : Int) = b * k + b := by rw [Int.natCast_add, Int.mul_add]; simp
    rw [e1, e2]
    omega
theorem sum_bd' {a b : Int} {zs : List Int} (h : rngB a b zs = true) : a * zs.length ≤ zs.sum ∧ zs.sum ≤ b * zs.length := by
  have := sum_take_bd h zs.length (Nat.le_refl _)
  rwa [List.take_length] at this
theorem Ten.sum {zs : List Int} (h : Ten zs) : 0 ≤ zs.sum ∧ zs.sum ≤ 144000 := by
  have := sum_bd' h.rng
  have := h.hi
  omega
theorem Stiff.sum {s : List Int} (h : Stiff s) : -800 ≤ s.sum ∧ s.sum ≤ 800 := by
  have := sum_bd' h.rng
  have := h.hi
  omega
theorem Stiff.gain_bd {s : List Int} (h : Stiff s) : 1 ≤ gainI s ∧ gainI s ≤ 1600 := by
  have := h.sum
  have := h.gain
  have := h.one
  unfold gainI at *
  omega

/-- The spokes around: the next one, the one before. -/
def nextP (n i : Nat) : Nat := (i + 1) % n
def prevP (n i : Nat) : Nat := (i + n - 1) % n
def foreP (n p : Nat) : Nat → Nat
  | 0 => p
  | d + 1 => nextP n (foreP n p d)
def backP (n p : Nat) : Nat → Nat
  | 0 => p
  | d + 1 => prevP n (backP n p d)
theorem nextP_lt {n i : Nat} (h : 0 < n) : nextP n i < n := Nat.mod_lt _ h
theorem prevP_lt {n i : Nat} (h : 0 < n) : prevP n i < n := Nat.mod_lt _ h
theorem foreP_lt {n p : Nat} (hp : p < n) : ∀ d, foreP n p d < n
  | 0 => hp
  | _ + 1 => nextP_lt (by omega)
theorem backP_lt {n p : Nat} (hp : p < n) : ∀ d, backP n p d < n
  | 0 => hp
  | _ + 1 => prevP_lt (by omega)
theorem nextP_eq {n i : Nat} (hi : i < n) : nextP n i = if i + 1 = n then 0 else i + 1 := by
  unfold nextP
  split
  · rename_i h; rw [h, Nat.mod_self]
  · exact Nat.mod_eq_of_lt (by omega)
theorem prevP_eq {n i : Nat} (hi : i < n) : prevP n i = if i = 0 then n - 1 else i - 1 := by
  unfold prevP
  split
  · rename_i h
    have e : i + n - 1 = n - 1 := by omega
    rw [e]
    exact Nat.mod_eq_of_lt (by omega)
  · have e : i + n - 1 = n + (i - 1) := by omega
    rw [e, Nat.add_mod_left]
    exact Nat.mod_eq_of_lt (by omega)
theorem prev_next {n i : Nat} (hi : i < n) : prevP n (nextP n i) = i := by
  rw [nextP_eq hi]
  split
  · rw [prevP_eq (by omega), if_pos rfl]; omega
  · rw [prevP_eq (by omega), if_neg (by omega)]; omega
theorem next_inj {n i j : Nat} (hi : i < n) (hj : j < n) (h : nextP n i = nextP n j) : i = j := by
  rw [← prev_next hi, h, prev_next hj]
theorem foreP_mod {n p : Nat} (hp : p < n) : ∀ d, ((p : Int) + d) % n = (foreP n p d : Nat)
  | 0 => by simp only [foreP, Int.natCast_zero, Int.add_zero]; exact Int.emod_eq_of_lt (by omega) (by omega)
  | d + 1 => by
    have h := foreP_mod hp d
    have hl := foreP_lt hp d
    have e0 : (p : Int) + ((d + 1 : Nat) : Int) = (p : Int) + d + 1 := by omega
    have e : ((p : Int) + ((d + 1 : Nat) : Int)) % n = ((((p : Int) + d) % n) + 1) % n := by
      rw [Int.emod_add_emod, e0]
    rw [e, h, foreP, nextP_eq hl]
    split
    · have : ((foreP n p d : Nat) : Int) + 1 = n := by omega
      rw [this, Int.emod_self]; rfl
    · rw [Int.emod_eq_of_lt (by omega) (by omega)]; omega
theorem backP_mod {n p : Nat} (hp : p < n) : ∀ d, ((p : Int) - d) % n = (backP n p d : Nat)
  | 0 => by simp only [backP, Int.natCast_zero, Int.sub_zero]; exact Int.emod_eq_of_lt (by omega) (by omega)
  | d + 1 => by
    have h := backP_mod hp d
    have hl := backP_lt hp d
    have e0 : (p : Int) - ((d + 1 : Nat) : Int) = (p : Int) - d + -1 := by omega
    have e : ((p : Int) - ((d + 1 : Nat) : Int)) % n = ((((p : Int) - d) % n) + (-1)) % n := by
      rw [Int.emod_add_emod, e0]
    rw [e, h, backP, prevP_eq hl]
    split
    · rename_i h0
      rw [h0]
      have : (((0 : Nat) : Int) + -1) % n = ((n : Int) + -1) % n := by
        rw [Int.add_emod_left]; rfl
      rw [this, Int.emod_eq_of_lt (by omega) (by omega)]; omega
    · rw [Int.emod_eq_of_lt (by omega) (by omega)]; omega

/-- One number has been added to. -/
def addAt (zs : List Int) (k : Nat) (v : Int) : List Int := zs.set k (zs.getD k 0 + v)
theorem addAt_len (zs : List Int) (k : Nat) (v : Int) : (addAt zs k v).length = zs.length := by simp [addAt]
theorem addAt_get {zs : List Int} {k : Nat} {v : Int} {j : Nat} (hj : j < zs.length) : (addAt zs k v).getD j 0 = zs.getD j 0 + if j = k then v else 0 := by
  unfold addAt
  by_cases h : j = k
  · subst h
    simp [hj]
  · rw [if_neg h]
    simp [List.getD, List.getElem?_set_ne (show k ≠ j by omega)]
theorem sum_addAt : ∀ (zs : List Int) (k : Nat) (v : Int), k < zs.length → (addAt zs k v).sum = zs.sum + v
  | [], k, v, h => by simp at h
  | z :: zs, 0, v, _ => by simp [addAt]; omega
  | z :: zs, k + 1, v, h => by
    have e : addAt (z :: zs) (k + 1) v = z :: addAt zs k v := by simp [addAt]
    rw [e, List.sum_cons, List.sum_cons, sum_addAt zs k v (by simpa using h)]
    omega
/-- All numbers lie between. -/
def Bd (B : Int) (zs : List Int) : Prop := ∀ k, -B ≤ zs.getD k 0 ∧ zs.getD k 0 ≤ B
theorem Bd.add {B C v : Int} {zs : List Int} {k : Nat} (h : Bd B zs) (h0 : -C ≤ v) (h1 : v ≤ C) : Bd (B + C) (addAt zs k v) := by
  intro j
  have hb := h j
  by_cases hj : j < zs.length
  · rw [addAt_get hj]
    split <;> omega
  · have e : (addAt zs k v).getD j 0 = 0 := by rw [List.getD_eq_getElem?_getD, List.getElem?_eq_none (by rw [addAt_len]; omega)]; rfl
    rw [e]
    omega
theorem Bd.mono {B C : Int} {zs : List Int} (h : Bd B zs) (hc : B ≤ C) : Bd C zs := fun k => by have := h k; omega
theorem Ten.bd {zs : List Int} (h : Ten zs) : Bd 3000 zs := fun k => by
  by_cases hk : k < zs.length
  · have := h.at_ hk; omega
  · rw [List.getD_eq_getElem?_getD, List.getElem?_eq_none (by omega)]; simp
theorem list_ext' {xs ys : List Int} (hl : xs.length = ys.length) (h : ∀ i, i < xs.length → xs.getD i 0 = ys.getD i 0) : xs = ys := by
  apply List.ext_getElem hl
  intro i h1 h2
  have := h i h1
  simpa [h1, h2] using this

/-- What turning does at a distance of d. -/
def stepD (n : Nat) (zs : List Int) (p : Nat) (q : Int) (s : List Int) (d : Nat) : List Int :=
  if d = 0 then addAt zs (backP n p d) (q * s.getD d 0) else addAt (addAt zs (backP n p d) (q * s.getD d 0)) (foreP n p d) (q * s.getD d 0)
def turnTo (n : Nat) (zs : List Int) (p : Nat) (q : Int) (s : List Int) : Nat → List Int
  | 0 => zs
  | d + 1 => stepD n (turnTo n zs p q s d) p q s d
def turn1 (n : Nat) (zs : List Int) (p : Nat) (q : Int) (s : List Int) : List Int := turnTo n zs p q s s.length
def allTo (n : Nat) (zs ts s : List Int) : Nat → List Int
  | 0 => zs
  | k + 1 => turn1 n (allTo n zs ts s k) k (ts.getD k 0) s
theorem stepD_len (n : Nat) (zs : List Int) (p : Nat) (q : Int) (s : List Int) (d : Nat) : (stepD n zs p q s d).length = zs.length := by
  unfold stepD
  split <;> simp [addAt_len]
theorem turnTo_len (n : Nat) (zs : List Int) (p : Nat) (q : Int) (s : List Int) : ∀ d, (turnTo n zs p q s d).length = zs.length
  | 0 => rfl
  | d + 1 => by rw [turnTo, stepD_len, turnTo_len n zs p q s d]
theorem turn1_len (n : Nat) (zs : List Int) (p : Nat) (q : Int) (s : List Int) : (turn1 n zs p q s).length = zs.length := turnTo_len ..
theorem allTo_len (n : Nat) (zs ts s : List Int) : ∀ k, (allTo n zs ts s k).length = zs.length
  | 0 => rfl
  | k + 1 => by rw [allTo, turn1_len, allTo_len n zs ts s k]
/-- How often a spoke gets the numbers up to d. -/
def effD (n : Nat) (s : List Int) (p j : Nat) : Nat → Int
  | 0 => 0
  | d + 1 => effD n s p j d + s.getD d 0 * ((if j = backP n p d then 1 else 0) + (if d = 0 then 0 else if j = foreP n p d then 1 else 0))
theorem turnTo_get {n : Nat} {zs : List Int} {p : Nat} {q : Int} {s : List Int} {j : Nat} (hj : j < zs.length) : ∀ d, (turnTo n zs p q s d).getD j 0 = zs.getD j 0 + q * effD n s p j d
  | 0 => by simp [turnTo, effD]
  | d + 1 => by
    have h := turnTo_get (n := n) (p := p) (q := q) (s := s) hj d
    have hl : j < (turnTo n zs p q s d).length := by rw [turnTo_len]; exact hj
    rw [turnTo, stepD, effD, Int.mul_add, ← Int.mul_assoc]
    by_cases h0 : d = 0
    · rw [if_pos h0, addAt_get hl, h, if_pos h0]
      split <;> simp <;> omega
    · rw [if_neg h0, addAt_get (by rw [addAt_len]; exact hl), addAt_get hl, h, if_neg h0, Int.mul_add]
      split <;> split <;> simp <;> omega
def effAll (n : Nat) (s ts : List Int) (j : Nat) : Nat → Int
  | 0 => 0
  | k + 1 => effAll n s ts j k + ts.getD k 0 * effD n s k j s.length
theorem allTo_get {n : Nat} {zs ts s : List Int} {j : Nat} (hj : j < zs.length) : ∀ k, (allTo n zs ts s k).getD j 0 = zs.getD j 0 + effAll n s ts j k
  | 0 => by simp [allTo, effAll]
  | k + 1 => by
    have h := allTo_get (n := n) (ts := ts) (s := s) hj k
    rw [allTo, turn1, turnTo_get (by rw [allTo_len]; exact hj), h, effAll]
    omega
def negI (ts : List Int) : List Int := ts.map fun t => -t
theorem negI_len (ts : List Int) : (negI ts).length = ts.length := by simp [negI]
theorem negI_get (ts : List Int) (k : Nat) : (negI ts).getD k 0 = - ts.getD k 0 := by
  by_cases h : k < ts.length
  · simp [negI, h]
  · rw [List.getD_eq_getElem?_getD, List.getD_eq_getElem?_getD, List.getElem?_eq_none (by rw [negI_len]; omega), List.getElem?_eq_none (by omega)]
    rfl
theorem effAll_neg (n : Nat) (s ts : List Int) (j : Nat) : ∀ k, effAll n s (negI ts) j k = - effAll n s ts j k
  | 0 => rfl
  | k + 1 => by
    rw [effAll, effAll, effAll_neg n s ts j k, negI_get, Int.neg_mul]
    omega
theorem all_back (n : Nat) (zs ts s : List Int) (k : Nat) : allTo n (allTo n zs ts s k) (negI ts) s k = zs := by
  refine list_ext' (by rw [allTo_len, allTo_len]) fun i hi => ?_
  rw [allTo_len, allTo_len] at hi
  rw [allTo_get (by rw [allTo_len]; exact hi), allTo_get hi, effAll_neg]
  omega
theorem turn1_zero (n : Nat) (zs : List Int) (p : Nat) (s : List Int) : turn1 n zs p 0 s = zs := by
  refine list_ext' (turn1_len ..) fun i hi => ?_
  rw [turn1_len] at hi
  rw [turn1, turnTo_get hi]
  omega
/-- Turns of one spoke alone. -/
def oneT (n p : Nat) (q : Int) : List Int := (List.replicate n 0).set p q
theorem oneT_len (n p : Nat) (q : Int) : (oneT n p q).length = n := by simp [oneT]
theorem oneT_get {n p : Nat} {q : Int} {k : Nat} (hk : k < n) : (oneT n p q).getD k 0 = if k = p then q else 0 := by
  unfold oneT
  by_cases h : k = p
  · subst h; simp [hk]
  · rw [if_neg h, List.getD_eq_getElem?_getD, List.getElem?_set_ne (show p ≠ k by omega)]
    simp [hk]
theorem oneT_all {n : Nat} {zs s : List Int} {p : Nat} {q : Int} : ∀ k, k ≤ n → allTo n zs (oneT n p q) s k = if p < k then turn1 n zs p q s else zs
  | 0, _ => by rw [if_neg (by omega)]; rfl
  | k + 1, hk => by
    rw [allTo, oneT_all k (by omega), oneT_get (by omega)]
    by_cases h : k = p
    · subst h
      rw [if_neg (by omega), if_pos rfl, if_pos (by omega)]
    · rw [if_neg h, turn1_zero]
      by_cases h2 : p < k
      · rw [if_pos h2, if_pos (by omega)]
      · rw [if_neg h2, if_neg (by omega)]
theorem oneT_rng {n p : Nat} {q : Int} (hp : p < n) : rngB (-100) 100 (oneT n p q) = (decide (-100 ≤ q) && decide (q ≤ 100)) := by
  by_cases h : -100 ≤ q ∧ q ≤ 100
  · have e : (decide (-100 ≤ q) && decide (q ≤ 100)) = true := by simpa using h
    rw [e]
    refine rngB_of fun k hk => ?_
    rw [oneT_len] at hk
    rw [oneT_get hk]
    split <;> omega
  · have e : (decide (-100 ≤ q) && decide (q ≤ 100)) = false := by rw [← Bool.not_eq_true]; simpa using h
    rw [e]
    refine rngB_miss (k := p) (by rw [oneT_len]; exact hp) ?_
    rw [oneT_get hp, if_pos rfl]
    exact h

/-- The sum grows by the gain. -/
theorem sum_turnTo {n : Nat} {zs : List Int} {p : Nat} {q : Int} {s : List Int} (hn : zs.length = n) (hp : p < n) : ∀ d, d ≤ s.length → (turnTo n zs p q s d).sum = zs.sum + q * (2 * (s.take d).sum - if d = 0 then 0 else s.getD 0 0)
  | 0, _ => by simp [turnTo]
  | d + 1, hd => by
    have h := sum_turnTo (q := q) (s := s) hn hp d (by omega)
    have hb := backP_lt hp d
    have hf := foreP_lt hp d
    have hl := turnTo_len n zs p q s d
    rw [turnTo, stepD, sum_take_succ (by omega), if_neg (show ¬ d + 1 = 0 by omega)]
    by_cases h0 : d = 0
    · subst h0
      rw [if_pos rfl, sum_addAt _ _ _ (by omega), h]
      generalize s.getD 0 0 = x
      have e : 2 * ((List.take 0 s).sum + x) - x = x := by simp; omega
      rw [e]
      simp
    · rw [if_neg h0, sum_addAt _ _ _ (by rw [addAt_len]; omega), sum_addAt _ _ _ (by omega), h, if_neg h0]
      have e : 2 * ((s.take d).sum + s.getD d 0) - s.getD 0 0 = (2 * (s.take d).sum - s.getD 0 0) + (s.getD d 0 + s.getD d 0) := by omega
      rw [e, Int.mul_add q (2 * (s.take d).sum - s.getD 0 0), Int.mul_add q (s.getD d 0)]
      omega
theorem sum_turn1 {n : Nat} {zs : List Int} {p : Nat} {q : Int} {s : List Int} (hn : zs.length = n) (hp : p < n) (hs : 1 ≤ s.length) : (turn1 n zs p q s).sum = zs.sum + q * gainI s := by
  rw [turn1, sum_turnTo hn hp _ (Nat.le_refl _), List.take_length, if_neg (by omega)]
  rfl
theorem sum_allTo {n : Nat} {zs ts s : List Int} (hn : zs.length = n) (ht : ts.length = n) (hs : 1 ≤ s.length) : ∀ k, k ≤ n → (allTo n zs ts s k).sum = zs.sum + (ts.take k).sum * gainI s
  | 0, _ => by simp [allTo]
  | k + 1, hk => by
    rw [allTo, sum_turn1 (by rw [allTo_len]; exact hn) (by omega) hs, sum_allTo hn ht hs k (by omega), sum_take_succ (by omega), Int.add_mul]
    omega
/-- Bounds on the way. -/
theorem mul_small {q x : Int} (q0 : -100 ≤ q) (q1 : q ≤ 100) (x0 : -200 ≤ x) (x1 : x ≤ 200) : -20000 ≤ q * x ∧ q * x ≤ 20000 := by
  have h1 : (q + 100) * (x + 200) ≥ 0 := Int.mul_nonneg (by omega) (by omega)
  have h2 : (100 - q) * (200 - x) ≥ 0 := Int.mul_nonneg (by omega) (by omega)
  have h3 : (q + 100) * (200 - x) ≥ 0 := Int.mul_nonneg (by omega) (by omega)
  have h4 : (100 - q) * (x + 200) ≥ 0 := Int.mul_nonneg (by omega) (by omega)
  rw [Int.mul_add, Int.add_mul, Int.add_mul] at h1
  rw [Int.mul_sub, Int.sub_mul, Int.sub_mul] at h2
  rw [Int.mul_sub, Int.add_mul, Int.add_mul] at h3
  rw [Int.mul_add, Int.sub_mul, Int.sub_mul] at h4
  omega
theorem Bd.step {B : Int} {n : Nat} {zs : List Int} {p : Nat} {q : Int} {s : List Int} {d : Nat} (h : Bd B zs) (q0 : -100 ≤ q) (q1 : q ≤ 100) (hs : rngB (-200) 200 s = true) (hd : d < s.length) : Bd (B + 40000) (stepD n zs p q s d) := by
  have hx := rngB_at hs hd
  have hm := mul_small q0 q1 hx.1 hx.2
  unfold stepD
  split
  · exact (h.add (C := 20000) hm.1 hm.2).mono (by omega)
  · exact ((h.add (C := 20000) hm.1 hm.2).add (C := 20000) hm.1 hm.2).mono (by omega)
theorem Bd.turnTo {B : Int} {n : Nat} {zs : List Int} {p : Nat} {q : Int} {s : List Int} (h : Bd B zs) (q0 : -100 ≤ q) (q1 : q ≤ 100) (hs : rngB (-200) 200 s = true) : ∀ d : Nat, d ≤ s.length → Bd (B + 40000 * d) (turnTo n zs p q s d)
  | 0, _ => h.mono (by omega)
  | d + 1, hd => ((Bd.turnTo h q0 q1 hs d (by omega)).step q0 q1 hs (by omega)).mono (by omega)
theorem Bd.turn1 {B : Int} {n : Nat} {zs : List Int} {p : Nat} {q : Int} {s : List Int} (h : Bd B zs) (q0 : -100 ≤ q) (q1 : q ≤ 100) (hs : Stiff s) : Bd (B + 160000) (turn1 n zs p q s) :=
  (h.turnTo q0 q1 hs.rng _ (Nat.le_refl _)).mono (by have := hs.hi; omega)
theorem Bd.allTo {B : Int} {n : Nat} {zs ts s : List Int} (h : Bd B zs) (ht : rngB (-100) 100 ts = true) (hs : Stiff s) : ∀ k : Nat, k ≤ ts.length → Bd (B + 160000 * k) (allTo n zs ts s k)
  | 0, _ => h.mono (by omega)
  | k + 1, hk => by
    have ht2 := rngB_at ht (k := k) (by omega)
    exact ((Bd.allTo h ht hs k (by omega)).turn1 ht2.1 ht2.2 hs).mono (by omega)

/-- Answers. -/
def turnAllR (zs s ts : List Int) : List Int × Int :=
  if tenB zs && stiffB s then if decide (ts.length = zs.length) && rngB (-100) 100 ts then if tenB (allTo zs.length zs ts s zs.length) then (allTo zs.length zs ts s zs.length, 0) else ([], 3) else ([], 2) else ([], 1)
def turnNipR (zs s : List Int) (p q : Int) : List Int × Int :=
  if tenB zs && stiffB s then if (decide (0 ≤ p) && decide (p ≤ (zs.length : Int) - 1)) && (decide (-100 ≤ q) && decide (q ≤ 100)) then if tenB (turn1 zs.length zs p.toNat q s) then (turn1 zs.length zs p.toNat q s, 0) else ([], 3) else ([], 2) else ([], 1)
theorem nip_all {zs s : List Int} {p q : Int} (hz : tenB zs = true) (hs : stiffB s = true) (hp : 0 ≤ p ∧ p ≤ (zs.length : Int) - 1) : turnNipR zs s p q = turnAllR zs s (oneT zs.length p.toNat q) := by
  unfold turnNipR turnAllR
  have h1 : (decide (0 ≤ p) && decide (p ≤ (zs.length : Int) - 1)) = true := by simpa using hp
  rw [hz, hs, h1, oneT_rng (by omega), oneT_all _ (Nat.le_refl _), if_pos (show p.toNat < zs.length by omega)]
  simp [oneT_len]
def sumR (zs : List Int) : Int × Int := if tenB zs then (zs.sum, 0) else (0, 1)
def meanI (zs : List Int) : Int := (2 * zs.sum + zs.length) / (2 * zs.length)
def meanR (zs : List Int) : Int × Int := if tenB zs then (meanI zs, 0) else (0, 1)
theorem meanI_bd {zs : List Int} (h : Ten zs) : 0 ≤ meanI zs ∧ meanI zs ≤ 3000 := by
  have h1 := h.lo
  have h2 := sum_bd' h.rng
  unfold meanI
  refine ⟨Int.ediv_nonneg (by omega) (by omega), ?_⟩
  have : (2 * zs.sum + zs.length) / (2 * (zs.length : Int)) < 3001 := (Int.ediv_lt_iff_lt_mul (by omega)).2 (by omega)
  omega
theorem meanI_half (zs : List Int) (h : Ten zs) : meanI zs = (zs.sum + (zs.length : Int) / 2) / zs.length := by
  have := h.lo
  unfold meanI
  rw [← Int.ediv_ediv_of_nonneg (by omega)]
  congr 1
  omega
/-- The numbers of the spokes of which something holds. -/
def idxI (P : Int → Bool) (zs : List Int) (k : Nat) : List Int := ((List.range k).filter fun i => P (zs.getD i 0)).map fun (i : Nat) => (i : Int)
theorem idxI_succ (P : Int → Bool) (zs : List Int) (k : Nat) : idxI P zs (k + 1) = idxI P zs k ++ if P (zs.getD k 0) then [(k : Int)] else [] := by
  unfold idxI
  rw [List.range_succ, List.filter_append, List.map_append]
  by_cases h : P (zs.getD k 0) = true
  · rw [if_pos h, List.filter_cons, if_pos h]; rfl
  · rw [if_neg h, List.filter_cons, if_neg h]; rfl
theorem idxI_len (P : Int → Bool) (zs : List Int) (k : Nat) : (idxI P zs k).length ≤ k := by
  have := List.length_filter_le (fun i => P (zs.getD i 0)) (List.range k)
  simpa [idxI] using this
theorem idxI_mem {P : Int → Bool} {zs : List Int} {k : Nat} {x : Int} : x ∈ idxI P zs k ↔ ∃ i : Nat, i < k ∧ P (zs.getD i 0) = true ∧ x = i := by
  unfold idxI
  simp only [List.mem_map, List.mem_filter, List.mem_range]
  exact ⟨fun ⟨i, ⟨a, b⟩, c⟩ => ⟨i, a, b, c.symm⟩, fun ⟨i, a, b, c⟩ => ⟨i, ⟨a, b⟩, c.symm⟩⟩
def farB (m pc t : Int) : Bool := decide (pc * m < 100 * max (t - m) (-(t - m)))
def outR (zs : List Int) (pc : Int) : List Int × Int := if tenB zs then if decide (0 ≤ pc) && decide (pc ≤ 100) then (idxI (farB (meanI zs) pc) zs zs.length, 0) else ([], 2) else ([], 1)
def slackR (zs : List Int) (l : Int) : List Int × Int := if tenB zs then if decide (0 ≤ l) && decide (l ≤ 3000) then (idxI (fun t => decide (t < l)) zs zs.length, 0) else ([], 2) else ([], 1)
/-- Rounded up. -/
def upI (n d : Int) : Int := -((-n) / d)
def forI (g now mean : Int) : Int := if now ≤ mean then upI (mean - now) g else - upI (now - mean) g
def forR (zs s : List Int) (mean : Int) : Int × Int := if tenB zs && stiffB s then if decide (0 ≤ mean) && decide (mean ≤ 3000) then (forI (gainI s) (meanI zs) mean, 0) else (0, 2) else (0, 1)
end Go.Proofs.Ytbjoekbgejfebaa
