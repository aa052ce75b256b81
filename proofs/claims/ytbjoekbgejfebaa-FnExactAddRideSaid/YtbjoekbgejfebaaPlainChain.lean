/- Chains in numbers: needs, links, stays, slacks. No program. -/
import Derived.Test.YtbjoekbgejfebaaPlainGear4
import Derived.Test.YtbjoekbgejfebaaTenB
namespace Go.Proofs.Ytbjoekbgejfebaa
set_option linter.unusedSimpArgs false
set_option linter.unusedVariables false

/-- A fraction, rounded up. -/
def ceilI (n d : Int) : Int := -((-n) / d)
theorem ceilI_bd {n d X : Int} (hd : 0 < d) (h0 : 0 ≤ n) (h1 : n ≤ X * d) : 0 ≤ ceilI n d ∧ ceilI n d ≤ X := by
  have a : (-n) / d ≤ 0 := by
    have : (-n) / d < 1 := (Int.ediv_lt_iff_lt_mul hd).2 (by omega)
    omega
  have b : -X ≤ (-n) / d := (Int.le_ediv_iff_mul_le hd).2 (by rw [Int.neg_mul]; omega)
  unfold ceilI
  omega
def needI (s f r : Int) : Int := ceilI (2000 * s) 127 + 500 * (f + r) + ceilI ((f - r) * (f - r) * 127 * 1000000000) (39478418 * s)
def stayB (s : Int) : Bool := inB s 3000 6000
def ringsB (f r : Int) : Bool := inB f 20 60 && inB r 9 52
def linksB (n : Int) : Bool := inB n 40 200 && decide (n % 2 = 0)
/-- A stay and two numbers of teeth. -/
structure Legs (s f r : Int) : Prop where
  s0 : 3000 ≤ s
  s1 : s ≤ 6000
  f0 : 20 ≤ f
  f1 : f ≤ 60
  r0 : 9 ≤ r
  r1 : r ≤ 52
theorem legs_iff {s f r : Int} : (stayB s && ringsB f r) = true ↔ Legs s f r := by
  unfold stayB ringsB
  simp only [Bool.and_eq_true, inB_iff]
  exact ⟨fun h => ⟨h.1.1, h.1.2, h.2.1.1, h.2.1.2, h.2.2.1, h.2.2.2⟩, fun h => ⟨⟨h.s0, h.s1⟩, ⟨h.f0, h.f1⟩, ⟨h.r0, h.r1⟩⟩⟩
theorem sq_bd {f r s : Int} (h : Legs s f r) : 0 ≤ (f - r) * (f - r) ∧ (f - r) * (f - r) ≤ 2601 := by
  have h1 := h.f0
  have h2 := h.f1
  have h3 := h.r0
  have h4 := h.r1
  rcases Int.le_total 0 (f - r) with h0 | h0
  · exact ⟨Int.mul_nonneg h0 h0, Int.mul_le_mul (show f - r ≤ 51 by omega) (show f - r ≤ 51 by omega) h0 (by omega)⟩
  · have e : (f - r) * (f - r) = (r - f) * (r - f) := by
      rw [show f - r = -(r - f) by omega, Int.neg_mul_neg]
    rw [e]
    exact ⟨Int.mul_nonneg (by omega) (by omega), Int.mul_le_mul (show r - f ≤ 51 by omega) (show r - f ≤ 51 by omega) (by omega) (by omega)⟩
theorem needI_bd {s f r : Int} (h : Legs s f r) : 0 ≤ needI s f r ∧ needI s f r ≤ 200000 := by
  have h1 := h.f0
  have h2 := h.f1
  have h3 := h.r0
  have h4 := h.r1
  have h5 := h.s0
  have h6 := h.s1
  have a := ceilI_bd (n := 2000 * s) (d := 127) (X := 100000) (by decide) (by omega) (by omega)
  have q := sq_bd h
  have b := ceilI_bd (n := (f - r) * (f - r) * 127 * 1000000000) (d := 39478418 * s) (X := 3000) (by omega) (by omega) (by omega)
  unfold needI
  omega
/-- Answers. -/
def needR (s f r : Int) : Int × Int := if stayB s && ringsB f r then (needI s f r, 0) else (0, 2)
def lnTo (need l : Int) : Nat → Int × Int
  | 0 => (0, 4)
  | m + 1 => if need ≤ 1000 * l then (l, 0) else lnTo need (l + 2) m
def linksR (s f r : Int) : Int × Int := if stayB s && ringsB f r then lnTo (needI s f r) 40 81 else (0, 2)
def styTo (links f r s : Int) : Nat → Int × Int
  | 0 => (0, 4)
  | m + 1 => if needI s f r ≤ 1000 * links then (s, 0) else styTo links f r (s - 1) m
def stayR (links f r : Int) : Int × Int := if linksB links && ringsB f r then styTo links f r 6000 3001 else (0, 2)
def topF (x : Trn) : Int := fI x (x.f.length - 1)
def topR (x : Trn) : Int := rI x (x.r.length - 1)
def plus2 (p : Int × Int) : Int × Int := if p.2 = 0 then if p.1 + 2 ≤ 200 then (p.1 + 2, 0) else (0, 4) else (0, 4)
def chainR (x : Trn) (s : Int) : Int × Int := if trainB x then if stayB s then plus2 (linksR s (topF x) (topR x)) else (0, 2) else (0, 1)
def slackG (x : Trn) (s l : Int) (g : Gr) : Int := max (-1) (1000 * l - needI s (fI x g.1) (rI x g.2))
def slacksOf (x : Trn) (s l : Int) (gs : List Gr) : List Int := gs.map (slackG x s l)
def slacksR (x : Trn) (s l : Int) : List Int × Int := if trainB x then if stayB s && linksB l then (slacksOf x s l (ordI x), 0) else ([], 2) else ([], 1)
def capR (x : Trn) : Int × Int := if trainB x then (topF x - fI x 0 + topR x - rI x 0, 0) else (0, 1)
/-- The place of the greatest number, the first one. -/
def bigTo (zs : List Int) : Nat → Nat
  | 0 => 0
  | k + 1 => if zs.getD (bigTo zs k) 0 < zs.getD k 0 then k else bigTo zs k
def posTo (zs : List Int) (k : Nat) : Bool := (List.range k).all fun i => decide (0 ≤ zs.getD i 0)
def looseR (x : Trn) (s l : Int) : Int × Int × Int :=
  if trainB x then
    if stayB s && linksB l then
      if posTo (slacksOf x s l (ordI x)) (ordI x).length then
        ((((ordI x).getD (bigTo (slacksOf x s l (ordI x)) (ordI x).length) (0, 0)).1 : Nat), (((ordI x).getD (bigTo (slacksOf x s l (ordI x)) (ordI x).length) (0, 0)).2 : Nat), 0)
      else (0, 0, 5)
    else (0, 0, 2)
  else (0, 0, 1)
def cutR (l m : Int) : Int × Int := if linksB l && linksB m then if l < m then (0, 5) else (l - m, 0) else (0, 2)
theorem slacksOf_len (x : Trn) (s l : Int) (gs : List Gr) : (slacksOf x s l gs).length = gs.length := by simp [slacksOf]
theorem slacksOf_at {x : Trn} {s l : Int} {gs : List Gr} {k : Nat} (h : k < gs.length) : (slacksOf x s l gs).getD k 0 = slackG x s l (gs.getD k (0, 0)) := by simp [slacksOf, List.getD, h]
theorem slacksOf_take {x : Trn} {s l : Int} {gs : List Gr} {k : Nat} (h : k < gs.length) : slacksOf x s l (gs.take (k + 1)) = slacksOf x s l (gs.take k) ++ [slackG x s l (gs.getD k (0, 0))] := by
  rw [List.take_add_one, List.getElem?_eq_getElem h]
  unfold slacksOf
  rw [List.map_append]
  simp [List.getD, h]
theorem posTo_succ (zs : List Int) (k : Nat) : posTo zs (k + 1) = (posTo zs k && decide (0 ≤ zs.getD k 0)) := by
  unfold posTo
  rw [List.range_succ, List.all_append]
  simp
theorem posTo_miss {zs : List Int} {k n : Nat} (h : zs.getD k 0 < 0) (hk : k < n) : posTo zs n = false := by
  rw [← Bool.not_eq_true]
  intro e
  have := List.all_eq_true.1 e k (List.mem_range.2 hk)
  simp only [decide_eq_true_eq] at this
  omega
theorem posTo_at {zs : List Int} {n k : Nat} (h : posTo zs n = true) (hk : k < n) : 0 ≤ zs.getD k 0 := by
  have := List.all_eq_true.1 h k (List.mem_range.2 hk)
  simpa using this
theorem bigTo_lt {zs : List Int} : ∀ {k : Nat}, 0 < k → bigTo zs k < k
  | 1, _ => by
    unfold bigTo
    split
    · omega
    · unfold bigTo; omega
  | k + 2, _ => by
    have := bigTo_lt (zs := zs) (k := k + 1) (by omega)
    unfold bigTo
    split <;> omega
theorem bigTo_big (zs : List Int) : ∀ k i, i < k → zs.getD i 0 ≤ zs.getD (bigTo zs k) 0
  | 0, i, h => by omega
  | k + 1, i, h => by
    unfold bigTo
    by_cases e : i = k
    · subst e
      split
      · exact Int.le_refl _
      · omega
    · have := bigTo_big zs k i (by omega)
      split
      · omega
      · exact this
theorem slackG_bd {x : Trn} (hx : Train x) {s l : Int} (hs : 3000 ≤ s ∧ s ≤ 6000) (hl : 40 ≤ l ∧ l ≤ 200) {g : Gr} (hg : GOk x g) : -1 ≤ slackG x s l g ∧ slackG x s l g ≤ 200000 := by
  have hf := hx.fb hg
  have hr := hx.rb hg
  have h := needI_bd (s := s) (f := fI x g.1) (r := rI x g.2) ⟨hs.1, hs.2, hf.1, hf.2, hr.1, hr.2⟩
  unfold slackG
  omega
end Go.Proofs.Ytbjoekbgejfebaa
