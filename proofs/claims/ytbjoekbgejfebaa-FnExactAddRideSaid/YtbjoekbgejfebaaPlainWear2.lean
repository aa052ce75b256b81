/- Rides in numbers: the answers, and what the laws say of them. No program. -/
import Derived.Test.YtbjoekbgejfebaaPlainWear
import Derived.Test.YtbjoekbgejfebaaPlainChain
namespace Go.Proofs.Ytbjoekbgejfebaa
set_option linter.unusedSimpArgs false
set_option linter.unusedVariables false

def inW (z a b : Int) : Bool := decide (a ≤ z) && decide (z ≤ b)
def code12 (xs : List Rid) (L : Int) : Int := if ridesB xs then if inW L 1 10000000 then 0 else 2 else 1
def wearR (xs : List Rid) : Int × Int := if ridesB xs then ((wears xs).sum, 0) else (0, 1)
def chW (xs : List Rid) (L : Int) : List Int × Int := chg L 0 0 (wears xs)
def changeR (xs : List Rid) (L : Int) : List Int × Int := if code12 xs L = 0 then ((chW xs L).1, 0) else ([], code12 xs L)
def wornR (xs : List Rid) (L : Int) : Int × Int := if code12 xs L = 0 then (100 * (chW xs L).2 / L, 0) else (0, code12 xs L)
def lastD (xs : List Rid) : Int := (xs.getD (xs.length - 1) rid0).day
def dayI (xs : List Rid) (L : Int) : Int := lastD xs + ceilI ((L - (chW xs L).2) * (lastD xs - (xs.getD 0 rid0).day + 1)) (wears xs).sum
def dayR (xs : List Rid) (L : Int) : Int × Int := if code12 xs L = 0 then if xs.length = 0 then (0, 4) else if 100000 < dayI xs L then (0, 4) else (dayI xs L, 0) else (0, code12 xs L)
def leastTo (ws : List Int) (c : Int) : Nat → Int
  | 0 => 1
  | n + 1 => if c < (cnt ((n : Int) + 1) 0 ws : Int) then (n : Int) + 2 else leastTo ws c n
def lifeI (ws : List Int) (c : Int) : Int := leastTo ws c ws.sum.toNat
def lifeR (xs : List Rid) (c : Int) : Int × Int := if ridesB xs then if inW c 0 40 then (lifeI (wears xs) c, 0) else (0, 2) else (0, 1)
def wetI (xs : List Rid) : Int := (xs.map fun r => if r.wet then r.tens else 0).sum
def allI (xs : List Rid) : Int := (xs.map (·.tens)).sum
def shareR (xs : List Rid) : Int × Int := if ridesB xs then if allI xs = 0 then (0, 0) else (1000 * wetI xs / allI xs, 0) else (0, 1)
/-- The first of the longest among the first n. -/
def longN (xs : List Rid) : Nat → Nat
  | 0 => 0
  | n + 1 => if (xs.getD (longN xs n) rid0).tens < (xs.getD n rid0).tens then n else longN xs n
def longR (xs : List Rid) : Int × Int := if ridesB xs then if xs.length = 0 then (0, 4) else ((longN xs xs.length : Int), 0) else (0, 1)
def addR (xs : List Rid) (r : Rid) : List Rid × Int := if ridesB xs then if xs.length = 40 then ([], 3) else if ridesB (xs ++ [r]) then (xs ++ [r], 0) else ([], 5) else ([], 1)

theorem code12_iff {xs : List Rid} {L : Int} : code12 xs L = 0 ↔ ridesB xs = true ∧ 1 ≤ L ∧ L ≤ 10000000 := by
  unfold code12 inW
  by_cases h : ridesB xs = true <;> simp [h]
theorem wears_pos {xs : List Rid} (h : ridesB xs = true) : ∀ w ∈ wears xs, 1 ≤ w ∧ w ≤ 30000 := by
  intro w hw
  obtain ⟨r, hr, rfl⟩ := List.mem_map.1 hw
  exact (okRide_rng (rides_all h r hr)).2.2.2
theorem wears_len (xs : List Rid) : (wears xs).length = xs.length := by simp [wears]
theorem sum_bd {b : Int} : ∀ {ws : List Int}, (∀ w ∈ ws, 0 ≤ w ∧ w ≤ b) → 0 ≤ ws.sum ∧ ws.sum ≤ b * ws.length
  | [], _ => by simp
  | x :: ws, h => by
    have h1 := h x (by simp)
    have ih := sum_bd (b := b) (ws := ws) fun w hw => h w (List.mem_cons_of_mem _ hw)
    simp only [List.sum_cons, List.length_cons, Int.natCast_add, Int.natCast_one, Int.mul_add, Int.mul_one]
    omega
theorem wears_sum {xs : List Rid} (h : ridesB xs = true) : (xs.length : Int) ≤ (wears xs).sum ∧ (wears xs).sum ≤ 30000 * xs.length := by
  have h1 := sum_bd (b := 30000) (ws := wears xs) fun w hw => by have := wears_pos h w hw; omega
  rw [wears_len] at h1
  refine ⟨?_, h1.2⟩
  have : ∀ ws : List Int, (∀ w ∈ ws, 1 ≤ w) → (ws.length : Int) ≤ ws.sum := fun ws => by
    induction ws with
    | nil => simp
    | cons y ws ih => intro hy; simp only [List.sum_cons, List.length_cons]; have := ih fun z hz => hy z (by simp [hz]); have := hy y (by simp); omega
  have := this (wears xs) fun w hw => (wears_pos h w hw).1
  rwa [wears_len] at this
theorem rides_len {xs : List Rid} (h : ridesB xs = true) : xs.length ≤ 40 := (ridesB_iff.1 h).1

theorem leastTo_is {ws : List Int} {c : Int} : ∀ n : Nat, (cnt ((n : Int) + 1) 0 ws : Int) ≤ c → isLeast ws c (leastTo ws c n) ∧ leastTo ws c n ≤ (n : Int) + 1
  | 0, h => ⟨⟨Int.le_refl _, h, .inl rfl⟩, by simp [leastTo]⟩
  | n + 1, h => by
    unfold leastTo
    split
    · rename_i q
      rw [show ((n + 1 : Nat) : Int) + 1 = (n : Int) + 2 by omega] at h
      refine ⟨⟨by omega, h, .inr ?_⟩, by omega⟩
      rw [show (n : Int) + 2 - 1 = (n : Int) + 1 by omega]
      exact q
    · obtain ⟨a, b⟩ := leastTo_is (ws := ws) (c := c) n (by omega)
      exact ⟨a, by omega⟩
theorem lifeI_is {ws : List Int} (hx : ∀ x ∈ ws, 0 ≤ x) {c : Int} (hc : 0 ≤ c) : isLeast ws c (lifeI ws c) ∧ lifeI ws c ≤ ws.sum + 1 := by
  have hs : 0 ≤ ws.sum := by
    have : ∀ ys : List Int, (∀ x ∈ ys, 0 ≤ x) → 0 ≤ ys.sum := fun ys => by
      induction ys with
      | nil => simp
      | cons y ys ih => intro hy; simp only [List.sum_cons]; have := ih fun z hz => hy z (by simp [hz]); have := hy y (by simp); omega
    exact this ws hx
  have := leastTo_is (ws := ws) (c := c) ws.sum.toNat (by rw [cnt_none hx (by omega)]; exact hc)
  unfold lifeI
  exact ⟨this.1, by omega⟩
/-- FnLives: the least life is one, and with it, and with one less, so many changes. -/
theorem life_law {xs : List Rid} {c : Int} (h : ridesB xs = true) (hc : 0 ≤ c) : 1 ≤ lifeI (wears xs) c ∧ lifeI (wears xs) c ≤ 1200001 ∧ ((chW xs (lifeI (wears xs) c)).1.length : Int) ≤ c ∧ (lifeI (wears xs) c ≠ 1 → c < ((chW xs (lifeI (wears xs) c - 1)).1.length : Int)) := by
  obtain ⟨⟨h1, h2, h3⟩, h4⟩ := lifeI_is (ws := wears xs) (fun w hw => by have := (wears_pos h w hw).1; omega) hc
  have := (wears_sum h).2
  have := rides_len h
  unfold chW
  rw [chg_len, chg_len]
  exact ⟨h1, by omega, h2, fun hne => h3.resolve_left hne⟩
theorem wet_law {xs : List Rid} (h : ridesB xs = true) : 0 ≤ wetI xs ∧ wetI xs ≤ allI xs ∧ (xs.length : Int) ≤ allI xs ∧ allI xs ≤ 10000 * xs.length := by
  have key : ∀ ys : List Rid, (∀ r ∈ ys, okRide r = true) → 0 ≤ wetI ys ∧ wetI ys ≤ allI ys ∧ (ys.length : Int) ≤ allI ys ∧ allI ys ≤ 10000 * ys.length := fun ys => by
    induction ys with
    | nil => simp [wetI, allI]
    | cons y ys ih =>
      intro hy
      have a := ih fun z hz => hy z (by simp [hz])
      have b := (okRide_rng (hy y (by simp))).2
      simp only [wetI, allI, List.map_cons, List.sum_cons, List.length_cons] at *
      by_cases q : y.wet = true <;> simp only [q, if_true, Bool.false_eq_true, if_false] <;> omega
  exact key xs (rides_all h)
theorem share_law {xs : List Rid} (h : ridesB xs = true) : 0 ≤ (shareR xs).1 ∧ (shareR xs).1 ≤ 1000 ∧ (shareR xs).2 = 0 := by
  obtain ⟨h1, h2, h3, _⟩ := wet_law h
  unfold shareR
  rw [if_pos h]
  split
  · simp
  · have hp : 0 < allI xs := by omega
    refine ⟨Int.ediv_nonneg (by omega) (by omega), ?_, rfl⟩
    exact Int.le_of_lt_add_one (Int.ediv_lt_of_lt_mul hp (by omega))
theorem longN_lt (xs : List Rid) : ∀ n, 0 < n → longN xs n < n
  | n + 1, _ => by
    unfold longN
    split
    · omega
    · by_cases h : n = 0
      · subst h; simp [longN]
      · have := longN_lt xs n (by omega); omega
theorem longN_max (xs : List Rid) : ∀ n k, k < n → (xs.getD k rid0).tens ≤ (xs.getD (longN xs n) rid0).tens
  | n + 1, k, hk => by
    unfold longN
    by_cases e : k = n
    · subst e
      split
      · exact Int.le_refl _
      · omega
    · have := longN_max xs n k (by omega)
      split <;> omega

/-- Where the part begins that ends with the j-th change. -/
def frm (s : Int) (c : List Int) (j : Nat) : Int := if j = 0 then s else c.getD (j - 1) 0 + 1
theorem win_self (xs : List Int) (i : Nat) : win xs i i = 0 := by simp [win]
theorem win_succ {xs : List Int} {i n : Nat} (hi : i ≤ n) (hn : n < xs.length) : win xs i (n + 1) = win xs i n + xs.getD n 0 := by
  unfold win
  rw [show n + 1 - i = (n - i) + 1 by omega, List.take_succ_eq_append_getElem (by simp; omega)]
  simp [show i + (n - i) = n by omega, List.getD, hn]
theorem chg_parts {L : Int} (hL : 0 < L) {all : List Int} : ∀ (xs : List Int) (n s : Nat), all.drop n = xs → s ≤ n → n ≤ all.length → win all s n < L →
    (∀ j, j < (chg L (win all s n) n xs).1.length → (s : Int) ≤ frm s (chg L (win all s n) n xs).1 j ∧ frm s (chg L (win all s n) n xs).1 j ≤ (chg L (win all s n) n xs).1.getD j 0 ∧ (chg L (win all s n) n xs).1.getD j 0 < all.length ∧ L ≤ win all (frm s (chg L (win all s n) n xs).1 j).toNat (((chg L (win all s n) n xs).1.getD j 0).toNat + 1)) ∧
    (s : Int) ≤ frm s (chg L (win all s n) n xs).1 (chg L (win all s n) n xs).1.length ∧ frm s (chg L (win all s n) n xs).1 (chg L (win all s n) n xs).1.length ≤ all.length ∧
    (chg L (win all s n) n xs).2 = win all (frm s (chg L (win all s n) n xs).1 (chg L (win all s n) n xs).1.length).toNat all.length ∧ (chg L (win all s n) n xs).2 < L
  | [], n, s, e, hs, hn, hw => by
    have : n = all.length := by
      have := List.drop_eq_nil_iff.1 e
      omega
    subst this
    simp only [chg, frm, List.length_nil, if_true, Int.toNat_natCast]
    exact ⟨fun j h => absurd h (by omega), Int.le_refl _, by omega, trivial, hw⟩
  | x :: xs, n, s, e, hs, hn0, hw => by
    have hn : n < all.length := by
      rcases Nat.lt_or_ge n all.length with h | h
      · exact h
      · rw [List.drop_eq_nil_of_le h] at e; simp at e
    have e2 : all.drop (n + 1) = xs := by rw [← List.drop_drop, e]; rfl
    have hx : all.getD n 0 = x := by
      have := List.drop_eq_getElem_cons hn
      rw [e] at this
      simp [List.getD, hn, (List.cons.inj this).1]
    have hs1 := win_succ hs hn
    rw [hx] at hs1
    unfold chg
    by_cases q : L ≤ win all s n + x
    · rw [if_pos q]
      have ih := chg_parts hL xs (n + 1) (n + 1) e2 (by omega) (by omega) (by rw [win_self]; exact hL)
      rw [win_self] at ih
      generalize chg L 0 (n + 1) xs = p at ih ⊢
      obtain ⟨c, w⟩ := p
      simp only at ih ⊢
      have hf : ∀ j, frm (s : Int) ((n : Int) :: c) (j + 1) = frm ((n + 1 : Nat) : Int) c j := fun j => by
        unfold frm
        match j with
        | 0 => simp
        | j + 1 => simp
      obtain ⟨a, b, d, f, g⟩ := ih
      refine ⟨fun j hj => ?_, ?_, ?_, ?_, g⟩
      · match j with
        | 0 =>
          simp only [frm, if_true, List.getD_cons_zero, Int.toNat_natCast]
          rw [hs1]
          omega
        | j + 1 =>
          rw [hf]
          have := a j (by simpa using hj)
          simp only [List.getD_cons_succ]
          exact ⟨by omega, this.2⟩
      · rw [List.length_cons, hf]; omega
      · rw [List.length_cons, hf]; exact d
      · rw [List.length_cons, hf]; exact f
    · rw [if_neg q]
      rw [← hs1]
      exact chg_parts hL xs (n + 1) s e2 (by omega) (by omega) (by omega)
theorem win_part {xs : List Rid} {a b : Nat} (h : a ≤ b) : (wears ((xs.drop a).take (b - a))).sum = win (wears xs) a b := by
  unfold win wears
  rw [List.map_take, List.map_drop]
/-- FnRides: each part that is changed wore its life, the last one did not. -/
theorem parts_law {xs : List Rid} {L : Int} (hL : 0 < L) :
    (∀ j, j < (chW xs L).1.length → 0 ≤ frm 0 (chW xs L).1 j ∧ frm 0 (chW xs L).1 j ≤ (chW xs L).1.getD j 0 ∧ (chW xs L).1.getD j 0 < xs.length ∧ L ≤ (wears ((xs.drop (frm 0 (chW xs L).1 j).toNat).take (((chW xs L).1.getD j 0).toNat + 1 - (frm 0 (chW xs L).1 j).toNat))).sum) ∧
    0 ≤ frm 0 (chW xs L).1 (chW xs L).1.length ∧ frm 0 (chW xs L).1 (chW xs L).1.length ≤ xs.length ∧
    (chW xs L).2 = (wears (xs.drop (frm 0 (chW xs L).1 (chW xs L).1.length).toNat)).sum ∧ (chW xs L).2 < L := by
  have h := chg_parts hL (all := wears xs) (wears xs) 0 0 rfl (Nat.le_refl _) (Nat.zero_le _) (by rw [win_self]; exact hL)
  rw [win_self, wears_len] at h
  unfold chW
  obtain ⟨a, b, d, f, g⟩ := h
  simp only [Int.natCast_zero] at a b d f g
  refine ⟨fun j hj => ?_, b, d, ?_, g⟩
  · obtain ⟨p, q, r, s⟩ := a j hj
    refine ⟨p, q, r, ?_⟩
    rw [win_part (by omega)]
    exact s
  · rw [f]
    unfold win wears
    rw [List.map_drop, List.take_of_length_le (by simp)]
theorem chW_nonneg {xs : List Rid} (h : ridesB xs = true) {L : Int} (hL : 0 < L) : 0 ≤ (chW xs L).2 ∧ (chW xs L).2 ≤ 30000 * xs.length := by
  rw [(parts_law hL).2.2.2.1]
  have := sum_bd (b := 30000) (ws := wears (xs.drop (frm 0 (chW xs L).1 (chW xs L).1.length).toNat)) fun w hw => by
    have := wears_pos h w (by
      obtain ⟨r, hr, rfl⟩ := List.mem_map.1 hw
      exact List.mem_map.2 ⟨r, List.mem_of_mem_drop hr, rfl⟩)
    omega
  rw [wears_len, List.length_drop] at this
  omega
theorem last_ge {xs : List Rid} (h : ridesB xs = true) (h0 : xs.length ≠ 0) : 0 ≤ (xs.getD 0 rid0).day ∧ (xs.getD 0 rid0).day ≤ lastD xs ∧ lastD xs ≤ 100000 := by
  have a := okRide_rng (rides_at h (k := 0) (by omega))
  have b := okRide_rng (rides_at h (k := xs.length - 1) (by omega))
  have c := rides_mono h (i := 0) (k := xs.length - 1) (by omega) (by omega)
  exact ⟨a.1.1, c, b.1.2⟩
/-- FnRides: the day for a change lies behind the last ride. -/
theorem day_law {xs : List Rid} {L : Int} (h : ridesB xs = true) (hL : 0 < L) (h0 : xs.length ≠ 0) : lastD xs < dayI xs L := by
  obtain ⟨a, b, _⟩ := last_ge h h0
  have c := (wears_sum h).1
  have d := (parts_law (xs := xs) hL).2.2.2.2
  unfold dayI ceilI
  have hp : 0 < (L - (chW xs L).2) * (lastD xs - (xs.getD 0 rid0).day + 1) := Int.mul_pos (by omega) (by omega)
  have := Int.ediv_lt_of_lt_mul (a := -((L - (chW xs L).2) * (lastD xs - (xs.getD 0 rid0).day + 1))) (b := 0) (c := (wears xs).sum) (by omega) (by omega)
  omega
theorem add_law {xs : List Rid} {r : Rid} (h : (addR xs r).2 = 0) : ridesB (addR xs r).1 = true ∧ (addR xs r).1 = xs ++ [r] := by
  unfold addR at h ⊢
  by_cases a : ridesB xs = true
  · by_cases b : xs.length = 40
    · simp [a, b] at h
    · by_cases c : ridesB (xs ++ [r]) = true
      · simp [a, b, c]
      · simp [a, b, c] at h
  · simp [a] at h
theorem chW_len (xs : List Rid) (L : Int) : (chW xs L).1.length ≤ xs.length := by
  unfold chW
  rw [chg_len]
  have := cnt_le L 0 (wears xs)
  rwa [wears_len] at this
theorem changeR_few (xs : List Rid) (L : Int) (h : xs.length ≤ 1048576) : (changeR xs L).1.length ≤ 1048576 := by
  unfold changeR
  split
  · exact Nat.le_trans (chW_len xs L) h
  · simp
end Go.Proofs.Ytbjoekbgejfebaa
