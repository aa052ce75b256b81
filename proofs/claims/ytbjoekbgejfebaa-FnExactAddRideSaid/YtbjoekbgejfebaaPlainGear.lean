/- Gears in numbers: trains, ratios, the order of gears. No program. -/
import Derived.Test.YtbjoekbgejfebaaPlainTen2
namespace Go.Proofs.Ytbjoekbgejfebaa

/-- A drive train: chainrings, sprockets, the wheel. -/
structure Trn where
  f : List Int
  r : List Int
  n : Int
def okAt (lo hi : Int) (zs : List Int) (i : Nat) : Bool := (decide (lo ≤ zs.getD i 0) && decide (zs.getD i 0 ≤ hi)) && (decide (i = 0) || decide (zs.getD (i - 1) 0 < zs.getD i 0))
def okTo (lo hi : Int) (zs : List Int) (k : Nat) : Bool := (List.range k).all (okAt lo hi zs)
theorem okTo_zero (lo hi : Int) (zs : List Int) : okTo lo hi zs 0 = true := rfl
theorem okTo_succ (lo hi : Int) (zs : List Int) (k : Nat) : okTo lo hi zs (k + 1) = (okTo lo hi zs k && okAt lo hi zs k) := by
  unfold okTo
  rw [List.range_succ, List.all_append]
  simp
theorem okTo_miss {lo hi : Int} {zs : List Int} {k n : Nat} (h : okAt lo hi zs k = false) (hk : k < n) : okTo lo hi zs n = false := by
  rw [← Bool.not_eq_true]
  intro e
  have := List.all_eq_true.1 e k (List.mem_range.2 hk)
  rw [h] at this
  cases this
theorem okTo_at {lo hi : Int} {zs : List Int} {n : Nat} (h : okTo lo hi zs n = true) {k : Nat} (hk : k < n) : okAt lo hi zs k = true := List.all_eq_true.1 h k (List.mem_range.2 hk)
def teethB (lo hi : Int) (most : Int) (zs : List Int) : Bool := okTo lo hi zs zs.length && (decide (1 ≤ (zs.length : Int)) && decide ((zs.length : Int) ≤ most))
structure Teeth (lo hi most : Int) (zs : List Int) : Prop where
  one : 1 ≤ zs.length
  few : (zs.length : Int) ≤ most
  rng : ∀ k, k < zs.length → lo ≤ zs.getD k 0 ∧ zs.getD k 0 ≤ hi
  rise : ∀ k, k + 1 < zs.length → zs.getD k 0 < zs.getD (k + 1) 0
theorem teethB_ok {lo hi most : Int} {zs : List Int} (h : teethB lo hi most zs = true) : Teeth lo hi most zs := by
  unfold teethB at h
  simp only [Bool.and_eq_true, decide_eq_true_eq] at h
  obtain ⟨h1, h2, h3⟩ := h
  refine ⟨by omega, h3, fun k hk => ?_, fun k hk => ?_⟩
  · have := okTo_at h1 hk
    unfold okAt at this
    simp only [Bool.and_eq_true, decide_eq_true_eq] at this
    exact this.1
  · have := okTo_at h1 (k := k + 1) (by omega)
    unfold okAt at this
    simp only [Bool.and_eq_true, Bool.or_eq_true, decide_eq_true_eq] at this
    rcases this.2 with e | e
    · omega
    · simpa using e
theorem Teeth.up {lo hi most : Int} {zs : List Int} (h : Teeth lo hi most zs) : ∀ j k, j < k → k < zs.length → zs.getD j 0 < zs.getD k 0
  | j, 0, hj, _ => by omega
  | j, k + 1, hj, hk => by
    have h1 := h.rise k hk
    by_cases e : j = k
    · subst e; exact h1
    · have := Teeth.up h j k (by omega) (by omega)
      omega
def trainB (x : Trn) : Bool := (teethB 20 60 3 x.f && teethB 9 52 12 x.r) && (decide (1000 ≤ x.n) && decide (x.n ≤ 2500))
structure Train (x : Trn) : Prop where
  f : Teeth 20 60 3 x.f
  r : Teeth 9 52 12 x.r
  n0 : 1000 ≤ x.n
  n1 : x.n ≤ 2500
theorem trainB_ok {x : Trn} (h : trainB x = true) : Train x := by
  unfold trainB at h
  simp only [Bool.and_eq_true, decide_eq_true_eq] at h
  exact ⟨teethB_ok h.1.1, teethB_ok h.1.2, h.2.1, h.2.2⟩
/-- A gear: the indices of a chainring and of a sprocket. -/
abbrev Gr := Nat × Nat
def rowG (g : Gr) : List Int := [(g.1 : Int), (g.2 : Int)]
def rowsG (gs : List Gr) : List (List Int) := gs.map rowG
def fI (x : Trn) (i : Nat) : Int := x.f.getD i 0
def rI (x : Trn) (j : Nat) : Int := x.r.getD j 0
def GOk (x : Trn) (g : Gr) : Prop := g.1 < x.f.length ∧ g.2 < x.r.length
theorem Train.fb {x : Trn} (h : Train x) {g : Gr} (hg : GOk x g) : 20 ≤ fI x g.1 ∧ fI x g.1 ≤ 60 := h.f.rng _ hg.1
theorem Train.rb {x : Trn} (h : Train x) {g : Gr} (hg : GOk x g) : 9 ≤ rI x g.2 ∧ rI x g.2 ≤ 52 := h.r.rng _ hg.2
/-- The ratio of a is not greater than that of b. -/
def leG (x : Trn) (a b : Gr) : Prop := fI x a.1 * rI x b.2 ≤ fI x b.1 * rI x a.2
instance (x : Trn) (a b : Gr) : Decidable (leG x a b) := inferInstanceAs (Decidable (_ ≤ _))
def ins (x : Trn) (g : Gr) : List Gr → List Gr
  | [] => [g]
  | a :: t => if leG x a g then a :: ins x g t else g :: a :: t
theorem ins_at {x : Trn} {g : Gr} : ∀ {gs : List Gr} {j : Nat}, j ≤ gs.length → (∀ i, i < j → leG x (gs.getD i (0, 0)) g) → (j < gs.length → ¬ leG x (gs.getD j (0, 0)) g) → ins x g gs = gs.take j ++ [g] ++ gs.drop j
  | [], j, hj, _, _ => by
    have : j = 0 := by simpa using hj
    subst this
    rfl
  | a :: t, 0, _, _, h2 => by
    have := h2 (by simp)
    unfold ins
    rw [if_neg (by simpa using this)]
    rfl
  | a :: t, j + 1, hj, h1, h2 => by
    have h0 := h1 0 (by omega)
    unfold ins
    rw [if_pos (by simpa using h0), ins_at (j := j) (by simpa using hj) (fun i hi => by simpa using h1 (i + 1) (by omega)) (fun hl => by simpa using h2 (by simpa using hl))]
    rfl
theorem ins_perm (x : Trn) (g : Gr) : ∀ gs : List Gr, (ins x g gs).Perm (g :: gs)
  | [] => List.Perm.refl _
  | a :: t => by
    unfold ins
    split
    · exact ((ins_perm x g t).cons a).trans (List.Perm.swap g a t)
    · exact List.Perm.refl _
theorem ins_len (x : Trn) (g : Gr) (gs : List Gr) : (ins x g gs).length = gs.length + 1 := by
  have := (ins_perm x g gs).length_eq
  simpa using this
/-- Gear number k: chainring by chainring. -/
def nthG (x : Trn) (k : Nat) : Gr := (k / x.r.length, k % x.r.length)
def ordTo (x : Trn) : Nat → List Gr
  | 0 => []
  | k + 1 => ins x (nthG x k) (ordTo x k)
theorem ordTo_len (x : Trn) : ∀ k, (ordTo x k).length = k
  | 0 => rfl
  | k + 1 => by rw [ordTo, ins_len, ordTo_len x k]
def allG (x : Trn) (k : Nat) : List Gr := (List.range k).map (nthG x)
theorem ordTo_perm (x : Trn) : ∀ k, (ordTo x k).Perm (allG x k)
  | 0 => List.Perm.refl _
  | k + 1 => by
    rw [ordTo]
    refine (ins_perm x _ _).trans (((ordTo_perm x k).cons _).trans ?_)
    unfold allG
    rw [List.range_succ, List.map_append]
    exact (List.perm_append_comm (l₁ := [nthG x k])).trans (List.Perm.refl _)
theorem nthG_ok {x : Trn} {k : Nat} (hk : k < x.f.length * x.r.length) : GOk x (nthG x k) := by
  have hr : 0 < x.r.length := by
    rcases Nat.eq_zero_or_pos x.r.length with e | e
    · rw [e] at hk; simp at hk
    · exact e
  exact ⟨(Nat.div_lt_iff_lt_mul hr).2 hk, Nat.mod_lt _ hr⟩
theorem ordTo_ok {x : Trn} {k : Nat} (hk : k ≤ x.f.length * x.r.length) {g : Gr} (hg : g ∈ ordTo x k) : GOk x g := by
  have := (ordTo_perm x k).mem_iff.1 hg
  obtain ⟨i, hi, rfl⟩ := List.mem_map.1 this
  exact nthG_ok (by have := List.mem_range.1 hi; omega)
def ordI (x : Trn) : List Gr := ordTo x (x.f.length * x.r.length)
theorem ordI_len (x : Trn) : (ordI x).length = x.f.length * x.r.length := ordTo_len ..
theorem nth_of {x : Trn} {f r : Nat} (hr : r < x.r.length) : nthG x (f * x.r.length + r) = (f, r) := by
  unfold nthG
  rw [Nat.mul_comm, Nat.mul_add_div (by omega), Nat.div_eq_of_lt hr, Nat.mul_add_mod, Nat.mod_eq_of_lt hr, Nat.add_zero]
theorem mem_getD {gs : List Gr} {i : Nat} (hi : i < gs.length) : gs.getD i (0, 0) ∈ gs := by simp [List.getD, hi]
theorem rowsG_len (gs : List Gr) : (rowsG gs).length = gs.length := by simp [rowsG]
/-- The development of a gear. -/
def devI (x : Trn) (g : Gr) : Int := (2 * (x.n * fI x g.1) + rI x g.2) / (2 * rI x g.2)
theorem mul_bd {a b A B : Int} (a0 : 0 ≤ a) (a1 : a ≤ A) (b0 : 0 ≤ b) (b1 : b ≤ B) : 0 ≤ a * b ∧ a * b ≤ A * B := ⟨Int.mul_nonneg a0 b0, Int.mul_le_mul a1 b1 b0 (by omega)⟩
theorem devI_bd {x : Trn} (h : Train x) {g : Gr} (hg : GOk x g) : 0 ≤ devI x g ∧ devI x g ≤ 20000 := by
  have hf := h.fb hg
  have hr := h.rb hg
  have hm := mul_bd (show 0 ≤ x.n by have := h.n0; omega) h.n1 (show 0 ≤ fI x g.1 by omega) hf.2
  unfold devI
  refine ⟨Int.ediv_nonneg (by omega) (by omega), ?_⟩
  have : (2 * (x.n * fI x g.1) + rI x g.2) / (2 * rI x g.2) < 20001 := (Int.ediv_lt_iff_lt_mul (by omega)).2 (by omega)
  omega
/-- Answers. -/
def gearB (x : Trn) (f r : Int) : Bool := (decide (0 ≤ f) && decide (f ≤ (x.f.length : Int) - 1)) && (decide (0 ≤ r) && decide (r ≤ (x.r.length : Int) - 1))
def code9 (x : Trn) (f r : Int) : Int := if trainB x then if gearB x f r then 0 else 2 else 1
def devR (x : Trn) (f r : Int) : Int × Int := if trainB x then if gearB x f r then (devI x (f.toNat, r.toNat), 0) else (0, 2) else (0, 1)
def orderR (x : Trn) : List (List Int) × Int := if trainB x then (rowsG (ordI x), 0) else ([], 1)
/-- The nearest gear up to k. -/
def farI (x : Trn) (d : Int) (g : Gr) : Int := max (devI x g - d) (-(devI x g - d))
def nearTo (x : Trn) (d : Int) (gs : List Gr) : Nat → Gr
  | 0 => gs.getD 0 (0, 0)
  | k + 1 => if farI x d (gs.getD k (0, 0)) < farI x d (nearTo x d gs k) then gs.getD k (0, 0) else nearTo x d gs k
def nearI (x : Trn) (d : Int) : Gr := nearTo x d (ordI x) (ordI x).length
def nearR (x : Trn) (d : Int) : Int × Int × Int := if trainB x then if decide (0 ≤ d) && decide (d ≤ 20000) then ((nearI x d).1, (nearI x d).2, 0) else (0, 0, 2) else (0, 0, 1)
/-- The step from a to b. -/
def stepG (x : Trn) (a b : Gr) : Int := 1000 * (fI x b.1 * rI x a.2 - fI x a.1 * rI x b.2) / (fI x a.1 * rI x b.2)
def stepsTo (x : Trn) (gs : List Gr) (k : Nat) : List Int := (List.range k).map fun i => stepG x (gs.getD i (0, 0)) (gs.getD (i + 1) (0, 0))
def stepsR (x : Trn) : List Int × Int := if trainB x then (stepsTo x (ordI x) ((ordI x).length - 1), 0) else ([], 1)
def sameG (x : Trn) (a b : Gr) : Bool := decide (fI x a.1 * rI x b.2 = fI x b.1 * rI x a.2)
def equalTo (x : Trn) (gs : List Gr) (k : Nat) : List Gr := ((List.range k).filter fun i => sameG x (gs.getD i (0, 0)) (gs.getD (i + 1) (0, 0))).map fun i => gs.getD (i + 1) (0, 0)
def equalR (x : Trn) : List (List Int) × Int := if trainB x then (rowsG (equalTo x (ordI x) ((ordI x).length - 1)), 0) else ([], 1)
def rangeI (x : Trn) : Int := 100 * fI x (x.f.length - 1) * rI x (x.r.length - 1) / (fI x 0 * rI x 0)
def rangeR (x : Trn) : Int × Int := if trainB x then (rangeI x, 0) else (0, 1)
def speedI (x : Trn) (g : Gr) (c : Int) : Int := 60 * c * x.n * fI x g.1 / (1000 * rI x g.2)
def speedR (x : Trn) (f r c : Int) : Int × Int := if trainB x then if gearB x f r && (decide (0 ≤ c) && decide (c ≤ 200)) then (speedI x (f.toNat, r.toNat) c, 0) else (0, 2) else (0, 1)
def cadTo (x : Trn) (g : Gr) (s : Int) (c : Int) : Nat → Int × Int
  | 0 => (0, 4)
  | m + 1 => if s ≤ speedI x g c then (c, 0) else cadTo x g s (c + 1) m
def cadR (x : Trn) (f r s : Int) : Int × Int := if trainB x then if gearB x f r && (decide (0 ≤ s) && decide (s ≤ 200000)) then cadTo x (f.toNat, r.toNat) s 0 201 else (0, 2) else (0, 1)
end Go.Proofs.Ytbjoekbgejfebaa
