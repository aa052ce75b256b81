/- Ways through gears in numbers: crossed gears, moves, a search in breadth, and that its ways are shortest. No program. -/
import Derived.Test.YthedanpldebjcaaPlainGear4
namespace Go.Proofs.Ythedanpldebjcaa
set_option linter.unusedSimpArgs false
set_option linter.unusedVariables false

theorem nodup_len {α : Type} [BEq α] [LawfulBEq α] : ∀ (s L : List α), s.Nodup → (∀ a ∈ s, a ∈ L) → s.length ≤ L.length
  | [], L, _, _ => Nat.zero_le _
  | a :: s, L, hn, h => by
    obtain ⟨h1, h2⟩ := List.nodup_cons.1 hn
    have ha : a ∈ L := h a (by simp)
    have := nodup_len s (L.erase a) h2 fun b hb => (List.mem_erase_of_ne (fun (e : b = a) => h1 (by rw [← e]; exact hb))).2 (h b (by simp [hb]))
    rw [List.length_erase_of_mem ha] at this
    have : 0 < L.length := List.length_pos_of_mem ha
    simp only [List.length_cons]
    omega
/-- A place: the indices of a chainring and of a sprocket. -/
abbrev Pl := Int × Int
def crossB (x : Trn) (lm : Int) (a : Pl) : Bool :=
  decide (1 < (x.f.length : Int)) && ((decide (a.1 = (x.f.length : Int) - 1) && decide ((x.r.length : Int) - lm ≤ a.2)) || (decide (a.1 = 0) && decide (a.2 < lm)))
def mvG (a : Pl) (m : Int) : Pl := if m < 2 then (a.1 + (2 * (m % 2) - 1), a.2) else (a.1, a.2 + (2 * (m % 2) - 1))
def okG (x : Trn) (lm : Int) (a : Pl) : Bool := gearB x a.1 a.2 && !crossB x lm a
def numG (a : Pl) : Int := a.1 * 12 + a.2
def invM (m : Int) : Int := if m % 2 = 0 then m + 1 else m - 1
theorem invM_rng {m : Int} (h : 0 ≤ m ∧ m ≤ 3) : 0 ≤ invM m ∧ invM m ≤ 3 := by unfold invM; split <;> omega
theorem step_inv {a : Pl} {m : Int} (h : 0 ≤ m ∧ m ≤ 3) : mvG (mvG a m) (invM m) = a := by
  obtain ⟨f, r⟩ := a
  have : m = 0 ∨ m = 1 ∨ m = 2 ∨ m = 3 := by omega
  rcases this with rfl | rfl | rfl | rfl <;> simp [mvG, invM] <;> omega
/-- The moves w lead from a to b, and never to a crossed gear. -/
def leads (x : Trn) (lm : Int) : Pl → List Int → Pl → Prop
  | a, [], b => a = b
  | a, m :: w, b => (0 ≤ m ∧ m ≤ 3) ∧ okG x lm (mvG a m) = true ∧ leads x lm (mvG a m) w b
theorem leads_snoc {x : Trn} {lm : Int} {m : Int} {b : Pl} (hm : 0 ≤ m ∧ m ≤ 3) (hok : okG x lm (mvG b m) = true) : ∀ {w : List Int} {a : Pl}, leads x lm a w b → leads x lm a (w ++ [m]) (mvG b m)
  | [], a, h => by
    obtain rfl : a = b := h
    exact ⟨hm, hok, rfl⟩
  | k :: w, a, h => ⟨h.1, h.2.1, leads_snoc hm hok h.2.2⟩
theorem leads_back {x : Trn} {lm : Int} : ∀ {w : List Int} {a b : Pl}, okG x lm a = true → leads x lm a w b → ∃ v, leads x lm b v a ∧ v.length = w.length
  | [], a, b, _, h => ⟨[], h.symm, rfl⟩
  | m :: w, a, b, ha, h => by
    obtain ⟨v, h1, h2⟩ := leads_back h.2.1 h.2.2
    have e := step_inv (a := a) h.1
    have := leads_snoc (x := x) (lm := lm) (invM_rng h.1) (by rw [e]; exact ha) h1
    rw [e] at this
    exact ⟨_, this, by simp [h2]⟩
/-- A search in breadth: the places in the order in which they are found, and the way to each. -/
structure Bf where
  seen : List Pl
  ways : List (List Int)
def Bf.s (b : Bf) (i : Nat) : Pl := b.seen.getD i (0, 0)
def Bf.w (b : Bf) (i : Nat) : List Int := b.ways.getD i []
def bfM (x : Trn) (lm : Int) (b : Bf) (i : Nat) (m : Int) : Bf :=
  if okG x lm (mvG (b.s i) m) && !(b.seen.contains (mvG (b.s i) m)) then ⟨b.seen ++ [mvG (b.s i) m], b.ways ++ [b.w i ++ [m]]⟩ else b
def bfI (x : Trn) (lm : Int) (b : Bf) (i : Nat) : Bf := bfM x lm (bfM x lm (bfM x lm (bfM x lm b i 0) i 1) i 2) i 3
def bfTo (x : Trn) (lm : Int) (a : Pl) : Nat → Bf
  | 0 => ⟨[a], [[]]⟩
  | k + 1 => if k < (bfTo x lm a k).seen.length then bfI x lm (bfTo x lm a k) k else bfTo x lm a k
/-- What holds of a search at every time; i: whose neighbours are being found. -/
structure BfOk (x : Trn) (lm : Int) (a : Pl) (b : Bf) (i : Nat) : Prop where
  len : b.ways.length = b.seen.length
  nd : b.seen.Nodup
  ok : ∀ p ∈ b.seen, okG x lm p = true
  pos : 0 < b.seen.length
  s0 : b.s 0 = a
  w0 : b.w 0 = []
  path : ∀ j, j < b.seen.length → leads x lm a (b.w j) (b.s j)
  mono : ∀ j k, j ≤ k → k < b.seen.length → (b.w j).length ≤ (b.w k).length
  cap : i < b.seen.length → ∀ j, j < b.seen.length → (b.w j).length ≤ (b.w i).length + 1
  done : ∀ j, j < i → j < b.seen.length → ∀ m : Int, 0 ≤ m ∧ m ≤ 3 → okG x lm (mvG (b.s j) m) = true → ∃ k, k < b.seen.length ∧ b.s k = mvG (b.s j) m ∧ (b.w k).length ≤ (b.w j).length + 1
theorem getD_l {α : Type} {l : List α} {d v : α} {i : Nat} (h : i < l.length) : (l ++ [v]).getD i d = l.getD i d := by
  simp [List.getD_eq_getElem?_getD, List.getElem?_append_left h]
theorem getD_r {α : Type} {l : List α} {d v : α} {i : Nat} (h : i = l.length) : (l ++ [v]).getD i d = v := by
  subst h
  simp
theorem s_mem {b : Bf} {i : Nat} (h : i < b.seen.length) : b.s i ∈ b.seen := by
  unfold Bf.s
  rw [List.getD_eq_getElem?_getD, List.getElem?_eq_getElem h]
  exact List.getElem_mem h
theorem mem_s {b : Bf} {p : Pl} (h : p ∈ b.seen) : ∃ i, i < b.seen.length ∧ b.s i = p := by
  obtain ⟨i, hi, e⟩ := List.getElem_of_mem h
  exact ⟨i, hi, by unfold Bf.s; rw [List.getD_eq_getElem?_getD, List.getElem?_eq_getElem hi]; exact e⟩
theorem bfM_len (x : Trn) (lm : Int) (b : Bf) (i : Nat) (m : Int) : b.seen.length ≤ (bfM x lm b i m).seen.length := by
  unfold bfM
  split
  · simp
  · exact Nat.le_refl _
/-- One move: what held holds on, and where the move leads is found. -/
theorem BfOk.move {x : Trn} {lm : Int} {a : Pl} {b : Bf} {i : Nat} (h : BfOk x lm a b i) (hi : i < b.seen.length) {m : Int} (hm : 0 ≤ m ∧ m ≤ 3) :
    BfOk x lm a (bfM x lm b i m) i ∧ (∀ j, j < b.seen.length → (bfM x lm b i m).s j = b.s j ∧ (bfM x lm b i m).w j = b.w j) ∧
      (okG x lm (mvG (b.s i) m) = true → ∃ k, k < (bfM x lm b i m).seen.length ∧ (bfM x lm b i m).s k = mvG (b.s i) m ∧ ((bfM x lm b i m).w k).length ≤ (b.w i).length + 1) := by
  unfold bfM
  by_cases hc : (okG x lm (mvG (b.s i) m) && !(b.seen.contains (mvG (b.s i) m))) = true
  · rw [if_pos hc]
    simp only [Bool.and_eq_true, Bool.not_eq_true', List.contains_eq_mem, decide_eq_false_iff_not] at hc
    obtain ⟨hok, hnew⟩ := hc
    have hl := h.len
    have old : ∀ j, j < b.seen.length → Bf.s ⟨b.seen ++ [mvG (b.s i) m], b.ways ++ [b.w i ++ [m]]⟩ j = b.s j ∧ Bf.w ⟨b.seen ++ [mvG (b.s i) m], b.ways ++ [b.w i ++ [m]]⟩ j = b.w j := fun j hj => ⟨getD_l hj, getD_l (by omega)⟩
    have new : Bf.s ⟨b.seen ++ [mvG (b.s i) m], b.ways ++ [b.w i ++ [m]]⟩ b.seen.length = mvG (b.s i) m ∧ Bf.w ⟨b.seen ++ [mvG (b.s i) m], b.ways ++ [b.w i ++ [m]]⟩ b.seen.length = b.w i ++ [m] := ⟨getD_r rfl, getD_r (by omega)⟩
    have hlen : (b.seen ++ [mvG (b.s i) m]).length = b.seen.length + 1 := by simp
    refine ⟨⟨by simp [hl], ?_, ?_, by simp, ?_, ?_, ?_, ?_, ?_, ?_⟩, old, fun _ => ⟨b.seen.length, by rw [hlen]; omega, new.1, by rw [new.2]; simp⟩⟩
    · rw [List.nodup_append]
      exact ⟨h.nd, by simp, fun p hp q hq e => by
        rw [List.mem_singleton] at hq
        exact hnew (hq ▸ e ▸ hp)⟩
    · intro p hp
      rcases List.mem_append.1 hp with h1 | h1
      · exact h.ok p h1
      · rw [List.mem_singleton] at h1
        rw [h1]; exact hok
    · rw [(old 0 h.pos).1]; exact h.s0
    · rw [(old 0 h.pos).2]; exact h.w0
    · intro j hj
      rw [hlen] at hj
      rcases Nat.lt_or_ge j b.seen.length with h1 | h1
      · rw [(old j h1).1, (old j h1).2]; exact h.path j h1
      · obtain rfl : j = b.seen.length := by omega
        rw [new.1, new.2]
        exact leads_snoc hm hok (h.path i hi)
    · intro j k hjk hk
      rw [hlen] at hk
      rcases Nat.lt_or_ge k b.seen.length with h1 | h1
      · rw [(old k h1).2, (old j (by omega)).2]; exact h.mono j k hjk h1
      · obtain rfl : k = b.seen.length := by omega
        rcases Nat.lt_or_ge j b.seen.length with h2 | h2
        · rw [(old j h2).2, new.2]
          have := h.cap hi j h2
          simpa using this
        · obtain rfl : j = b.seen.length := by omega
          exact Nat.le_refl _
    · intro _ j hj
      rw [hlen] at hj
      rw [(old i hi).2]
      rcases Nat.lt_or_ge j b.seen.length with h1 | h1
      · rw [(old j h1).2]; exact h.cap hi j h1
      · obtain rfl : j = b.seen.length := by omega
        rw [new.2]; simp
    · intro j hj1 hj2 k hk hok2
      have hj : j < b.seen.length := by omega
      rw [(old j hj).1] at hok2
      obtain ⟨t, h1, h2, h3⟩ := h.done j hj1 hj k hk hok2
      exact ⟨t, by rw [hlen]; omega, by rw [(old t h1).1, (old j hj).1]; exact h2, by rw [(old t h1).2, (old j hj).2]; exact h3⟩
  · rw [if_neg hc]
    refine ⟨h, fun j _ => ⟨rfl, rfl⟩, fun hok => ?_⟩
    have hmem : mvG (b.s i) m ∈ b.seen := by
      rw [hok, Bool.true_and, Bool.not_eq_true, Bool.not_eq_false', List.contains_eq_mem, decide_eq_true_eq] at hc
      exact hc
    obtain ⟨k, h1, h2⟩ := mem_s hmem
    exact ⟨k, h1, h2, h.cap hi k h1⟩
end Go.Proofs.Ythedanpldebjcaa
