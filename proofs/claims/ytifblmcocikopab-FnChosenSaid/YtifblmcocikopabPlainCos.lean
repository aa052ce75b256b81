/- Angles: what the functions of chapter 3 answer, in numbers. No program. -/
import Derived.KernelRfl
import Derived.Test.YtifblmcocikopabPlainIv
namespace Go.Proofs.Ytifblmcocikopab

/-- The nearest integer to a fraction with the denominator of the cosines. -/
def nrm (n : Int) : Int := (n + 500000000) / 1000000000
/-- The numbers C(0) to C(180). -/
def cosTab : List Int := [1000000000, 999961923, 999847695, 999657325, 999390827, 999048221, 998629533, 998134795, 997564045, 996917327, 996194690, 995396189, 994521885, 993571844,
  992546139, 991444848, 990268055, 989015849, 987688325, 986285585, 984807735, 983254888, 981627162, 979924681, 978147575, 976295979, 974370034, 972369887,
  970295690, 968147601, 965925784, 963630408, 961261648, 958819684, 956304702, 953716894, 951056457, 948323593, 945518510, 942641422, 939692548, 936672113,
  933580347, 930417485, 927183768, 923879442, 920504759, 917059976, 913545355, 909961164, 906307676, 902585169, 898793927, 894934238, 891006396, 887010700,
  882947455, 878816970, 874619560, 870355544, 866025247, 861628999, 857167135, 852639994, 848047921, 843391266, 838670383, 833885632, 829037377, 824125987,
  819151837, 814115305, 809016775, 803856635, 798635278, 793353102, 788010509, 782607906, 777145704, 771624319, 766044172, 760405688, 754709296, 748955430,
  743144528, 737277033, 731353391, 725374054, 719339477, 713250119, 707106444, 700908920, 694658019, 688354217, 681997994, 675589834, 669130225, 662619659,
  656058632, 649447644, 642787198, 636077801, 629319964, 622514202, 615661033, 608760979, 601814565, 594822320, 587784777, 580702472, 573575944, 566405736,
  559192394, 551936467, 544638508, 537299073, 529918721, 522498014, 515037517, 507537798, 499999428, 492422981, 484809034, 477158167, 469470962, 461748005,
  453989884, 446197190, 438370516, 430510458, 422617615, 414692588, 406735981, 398748399, 390730451, 382682747, 374605900, 366500525, 358367240, 350206664,
  342019418, 333806126, 325567413, 317303907, 309016237, 300705034, 292370931, 284014563, 275636566, 267237578, 258818239, 250379190, 241921074, 233444535,
  224950218, 216438770, 207910839, 199367075, 190808128, 182234650, 173647294, 165046714, 156433565, 147808503, 139172185, 130525268, 121868411, 113202273,
  104527514, 95844795, 87154777, 78458122, 69755492, 61047550, 52334959, 43618382, 34898483, 26175926, 17451376, 8725497, 0]
def cN (k : Nat) : Int := cosTab.getD k 0
def cosStep (k : Nat) : Bool := cN (k + 2) == nrm (2 * 999961923 * cN (k + 1)) - cN k
def cosFit (k : Nat) : Bool := decide (0 ≤ cN k) && decide (cN k ≤ 1000000000) && decide (999999000000000000 ≤ cN k * cN k + cN (180 - k) * cN (180 - k)) && decide (cN k * cN k + cN (180 - k) * cN (180 - k) ≤ 1000001000000000000)
theorem cosTab_len : cosTab.length = 181 := by decide +kernel
theorem cos_steps : (List.range 178).all cosStep = true := by decide +kernel
theorem cos_fits : (List.range 181).all cosFit = true := by decide +kernel
theorem cN_step {k : Nat} (h : k < 178) : cN (k + 2) = nrm (2 * 999961923 * cN (k + 1)) - cN k := by
  have := List.all_eq_true.1 cos_steps k (by simpa using h)
  simpa [cosStep] using this
theorem cN_fit {k : Nat} (h : k ≤ 180) : 0 ≤ cN k ∧ cN k ≤ 1000000000 ∧ 999999000000000000 ≤ cN k * cN k + cN (180 - k) * cN (180 - k) ∧ cN k * cN k + cN (180 - k) * cN (180 - k) ≤ 1000001000000000000 := by
  have := List.all_eq_true.1 cos_fits k (by simp; omega)
  simp only [cosFit, Bool.and_eq_true, decide_eq_true_eq] at this
  exact ⟨this.1.1.1, this.1.1.2, this.1.2, this.2⟩
theorem cN_0 : cN 0 = 1000000000 := rfl
theorem cN_1 : cN 1 = 999961923 := rfl
theorem cN_180 : cN 180 = 0 := by decide +kernel

/-- The steps, turned into 0..360. -/
def foldI (n : Int) : Int := if n % 720 ≤ 360 then n % 720 else 720 - n % 720
theorem foldI_bd (n : Int) : 0 ≤ foldI n ∧ foldI n ≤ 360 := by unfold foldI; split <;> omega
/-- The cosine of a number of steps. -/
def cosI (n : Int) : Int := if foldI n ≤ 180 then cN (foldI n).toNat else -cN (360 - foldI n).toNat
theorem cosI_bd (n : Int) : -1000000000 ≤ cosI n ∧ cosI n ≤ 1000000000 := by
  have h := foldI_bd n
  unfold cosI
  split
  · have := cN_fit (k := (foldI n).toNat) (by omega); omega
  · have := cN_fit (k := (360 - foldI n).toNat) (by omega); omega
theorem cosI_turn (n : Int) : cosI (n + 720) = cosI n := by
  have : foldI (n + 720) = foldI n := by unfold foldI; rw [show (n + 720) % 720 = n % 720 by omega]
  unfold cosI; rw [this]
theorem cosI_neg (n : Int) : cosI (-n) = cosI n := by
  have : foldI (-n) = foldI n := by unfold foldI; split <;> split <;> omega
  unfold cosI; rw [this]
theorem cosI_half (n : Int) : cosI (n + 360) = -cosI n := by
  have hf : foldI (n + 360) = 360 - foldI n := by unfold foldI; split <;> split <;> omega
  have hb := foldI_bd n
  unfold cosI
  rw [hf]
  generalize foldI n = f at hb ⊢
  rcases Int.lt_trichotomy f 180 with h | h | h
  · rw [if_neg (by omega), if_pos (by omega), show 360 - (360 - f) = f by omega]
  · subst h; rw [if_pos (by omega), if_pos (by omega)]; show cN 180 = -cN 180; rw [cN_180]; rfl
  · rw [if_pos (by omega), if_neg (by omega)]; omega
/-- Cosine and sine of some steps are, but for their signs, numbers of the table that belong together. -/
theorem cos_sin (n : Int) : ∃ j : Nat, j ≤ 180 ∧ (cosI n = cN j ∨ cosI n = -cN j) ∧ (cosI (180 - n) = cN (180 - j) ∨ cosI (180 - n) = -cN (180 - j)) := by
  have hb := foldI_bd n
  have hs : foldI (180 - n) = 180 - foldI n ∨ foldI (180 - n) = foldI n - 180 ∨ foldI (180 - n) = 180 + foldI n ∨ foldI (180 - n) = 540 - foldI n := by
    unfold foldI; split <;> split <;> omega
  have hc := foldI_bd (180 - n)
  unfold cosI
  generalize foldI (180 - n) = g at hs hc ⊢
  generalize foldI n = f at hb hs ⊢
  by_cases hf : f ≤ 180
  · refine ⟨f.toNat, by omega, .inl (by rw [if_pos hf]), ?_⟩
    by_cases hg : g ≤ 180
    · rw [if_pos hg]; left; congr 1; omega
    · rw [if_neg hg]; right; congr 2; omega
  · refine ⟨(360 - f).toNat, by omega, .inr (by rw [if_neg hf]), ?_⟩
    by_cases hg : g ≤ 180
    · rw [if_pos hg]; left; congr 1; omega
    · rw [if_neg hg]; right; congr 2; omega
theorem sq0 (x : Int) : 0 ≤ x * x := by
  rcases Int.le_total 0 x with h | h
  · exact Int.mul_nonneg h h
  · exact Int.mul_nonneg_of_nonpos_of_nonpos h h
theorem neg_sq (x : Int) : -x * -x = x * x := by rw [Int.neg_mul_neg]
theorem cos_sq (n : Int) : 999999000000000000 ≤ cosI n * cosI n + cosI (180 - n) * cosI (180 - n) ∧ cosI n * cosI n + cosI (180 - n) * cosI (180 - n) ≤ 1000001000000000000 := by
  obtain ⟨j, hj, h1, h2⟩ := cos_sin n
  have hf := cN_fit hj
  have e1 : cosI n * cosI n = cN j * cN j := by rcases h1 with h | h <;> rw [h] <;> simp [neg_sq]
  have e2 : cosI (180 - n) * cosI (180 - n) = cN (180 - j) * cN (180 - j) := by rcases h2 with h | h <;> rw [h] <;> simp [neg_sq]
  rw [e1, e2]
  exact ⟨hf.2.2.1, hf.2.2.2⟩

/-- A product within bounds. -/
theorem prod_le {a b p q : Int} (h1 : -p ≤ a ∧ a ≤ p) (h2 : -q ≤ b ∧ b ≤ q) : -(p * q) ≤ a * b ∧ a * b ≤ p * q := by
  have hp : 0 ≤ p := by omega
  have hq : 0 ≤ q := by omega
  have h := Int.mul_le_mul (a := (a.natAbs : Int)) (b := (b.natAbs : Int)) (c := p) (d := q) (by omega) (by omega) (by omega) hp
  rw [← Int.natCast_mul, ← Int.natAbs_mul] at h
  omega
theorem nrm_spec (n : Int) : ∃ X : Int, 1000000000 * nrm n = n + X ∧ -500000000 ≤ X ∧ X ≤ 500000000 := by
  refine ⟨1000000000 * nrm n - n, by omega, ?_⟩
  unfold nrm
  omega
/-- A product of a number of at least 0 and a cosine, in units. -/
theorem nrm_mul {p c : Int} (hp : 0 ≤ p) (hc : -1000000000 ≤ c ∧ c ≤ 1000000000) : -p ≤ nrm (p * c) ∧ nrm (p * c) ≤ p := by
  have h := prod_le (a := p) (b := c) (p := p) (q := 1000000000) (by omega) hc
  unfold nrm
  generalize p * c = m at h
  omega
theorem sq_add (a b : Int) : (a + b) * (a + b) = a * a + 2 * (a * b) + b * b := by
  rw [Int.add_mul, Int.mul_add, Int.mul_add, Int.mul_comm b a]; omega
theorem sq_scale (x : Int) : 1000000000 * x * (1000000000 * x) = 1000000000000000000 * (x * x) := by
  rw [Int.mul_assoc, Int.mul_left_comm x]; omega
theorem sq_mul (a c : Int) : a * c * (a * c) = a * a * (c * c) := by
  rw [Int.mul_assoc, Int.mul_left_comm c, ← Int.mul_assoc]
/-- A point is not far from its circle. -/
theorem point_norm (a n : Int) (h0 : 0 ≤ a) (h1 : a ≤ 10000) :
    nrm (a * cosI n) * nrm (a * cosI n) + nrm (a * cosI (180 - n)) * nrm (a * cosI (180 - n)) ≤ (a + 2) * (a + 2) ∧ max 0 (a - 2) * max 0 (a - 2) ≤ nrm (a * cosI n) * nrm (a * cosI n) + nrm (a * cosI (180 - n)) * nrm (a * cosI (180 - n)) := by
  have hc := cosI_bd n
  have hs := cosI_bd (180 - n)
  obtain ⟨hq0, hq1⟩ := cos_sq n
  generalize cosI n = c at hc hq0 hq1 ⊢
  generalize cosI (180 - n) = s at hs hq0 hq1 ⊢
  obtain ⟨X, hX, x0, x1⟩ := nrm_spec (a * c)
  obtain ⟨Y, hY, y0, y1⟩ := nrm_spec (a * s)
  generalize nrm (a * c) = x at hX ⊢
  generalize nrm (a * s) = y at hY ⊢
  have e1 := sq_add (a * c) X
  have e2 := sq_add (a * s) Y
  rw [← hX, sq_scale, sq_mul, Int.mul_assoc a c X] at e1
  rw [← hY, sq_scale, sq_mul, Int.mul_assoc a s Y] at e2
  have p1 := prod_le (a := c) (b := X) (p := 1000000000) (q := 500000000) hc ⟨x0, x1⟩
  have p2 := prod_le (a := s) (b := Y) (p := 1000000000) (q := 500000000) hs ⟨y0, y1⟩
  have p3 := prod_le (a := a) (b := c * X) (p := a) (q := 500000000000000000) ⟨by omega, by omega⟩ ⟨by omega, by omega⟩
  have p4 := prod_le (a := a) (b := s * Y) (p := a) (q := 500000000000000000) ⟨by omega, by omega⟩ ⟨by omega, by omega⟩
  have p5 := prod_le (a := X) (b := X) (p := 500000000) (q := 500000000) ⟨x0, x1⟩ ⟨x0, x1⟩
  have p6 := prod_le (a := Y) (b := Y) (p := 500000000) (q := 500000000) ⟨y0, y1⟩ ⟨y0, y1⟩
  have n1 : 0 ≤ X * X := sq0 X
  have n2 : 0 ≤ Y * Y := sq0 Y
  have haa : 0 ≤ a * a := Int.mul_nonneg h0 h0
  have ha2 : a * a ≤ 10000 * a := Int.mul_le_mul_of_nonneg_right h1 h0
  have q1 : a * a * (c * c) + a * a * (s * s) = a * a * (c * c + s * s) := by rw [Int.mul_add]
  have q2 : a * a * 999999000000000000 ≤ a * a * (c * c + s * s) := Int.mul_le_mul_of_nonneg_left hq0 haa
  have q3 : a * a * (c * c + s * s) ≤ a * a * 1000001000000000000 := Int.mul_le_mul_of_nonneg_left hq1 haa
  have t1 := sq_add a 2
  have t2 : max 0 (a - 2) * max 0 (a - 2) ≤ if a ≤ 2 then 0 else a * a - 4 * a + 4 := by
    split
    · rw [show max 0 (a - 2) = 0 by omega]; omega
    · rw [show max 0 (a - 2) = a + -2 by omega]
      have := sq_add a (-2)
      omega
  have hxx : 0 ≤ x * x := sq0 x
  have hyy : 0 ≤ y * y := sq0 y
  generalize a * a * (c * c + s * s) = Q at q1 q2 q3
  generalize a * a * (c * c) = Q1 at q1 e1
  generalize a * a * (s * s) = Q2 at q1 e2
  generalize a * (c * X) = R1 at p3 e1
  generalize a * (s * Y) = R2 at p4 e2
  generalize X * X = XX at p5 n1 e1
  generalize Y * Y = YY at p6 n2 e2
  generalize max 0 (a - 2) * max 0 (a - 2) = M at t2 ⊢
  generalize (a + 2) * (a + 2) = T at t1 ⊢
  generalize x * x = xx at e1 hxx ⊢
  generalize y * y = yy at e2 hyy ⊢
  generalize a * a = aa at *
  split at t2 <;> omega

/-- The square between two points. -/
def sqI (a b n : Int) : Int := a * a + b * b - nrm (2 * a * b * cosI n)
theorem sqI_bd {a b : Int} (n : Int) (ha : 0 ≤ a) (hb : 0 ≤ b) : (a - b) * (a - b) ≤ sqI a b n ∧ sqI a b n ≤ (a + b) * (a + b) := by
  have hp : 0 ≤ 2 * a * b := Int.mul_nonneg (by omega) hb
  have h := nrm_mul hp (cosI_bd n)
  have e1 := sq_add a b
  have e2 := sq_add a (-b)
  rw [Int.mul_neg, Int.neg_mul_neg, ← Int.sub_eq_add_neg] at e2
  unfold sqI
  rw [Int.mul_assoc 2 a b] at h ⊢
  generalize nrm (2 * (a * b) * cosI n) = m at h ⊢
  generalize a * b = ab at *
  omega
theorem sqI_nonneg {a b : Int} (n : Int) (ha : 0 ≤ a) (hb : 0 ≤ b) : 0 ≤ sqI a b n := Int.le_trans (sq0 _) (sqI_bd n ha hb).1
theorem sqI_le {a b : Int} (n : Int) (ha : 0 ≤ a) (hb : 0 ≤ b) (ha1 : a ≤ 10000) (hb1 : b ≤ 10000) : sqI a b n ≤ 400000000 := by
  have h := (sqI_bd n ha hb).2
  have := Int.mul_le_mul (a := a + b) (b := a + b) (c := 20000) (d := 20000) (by omega) (by omega) (by omega) (by omega)
  omega
theorem sqI_swap (a b n : Int) : sqI b a (-n) = sqI a b n := by
  unfold sqI
  rw [cosI_neg, Int.mul_assoc 2 b a, Int.mul_comm b a, ← Int.mul_assoc 2 a b]
  omega
/-- The nearest integer to a square root. -/
def nearI (n : Int) : Int := if rootI n < n - rootI n * rootI n then rootI n + 1 else rootI n
def distI (a b n : Int) : Int := nearI (sqI a b n)
theorem abs_le_of_sq {a r : Int} (hr : 0 ≤ r) (h : a * a < (r + 1) * (r + 1)) : a ≤ r := by
  rcases Int.lt_or_le r a with h1 | h1
  · have := Int.mul_le_mul (a := r + 1) (b := r + 1) (c := a) (d := a) (by omega) (by omega) (by omega) (by omega)
    omega
  · exact h1
theorem distI_bd {a b : Int} (n : Int) (ha : 0 ≤ a) (hb : 0 ≤ b) : max (a - b) (b - a) - 1 ≤ distI a b n ∧ distI a b n ≤ a + b + 1 := by
  obtain ⟨s0, s1⟩ := sqI_bd n ha hb
  have hn := sqI_nonneg n ha hb
  unfold distI
  generalize sqI a b n = S at *
  obtain ⟨r0, r1, r2⟩ := rootI_ok hn
  unfold nearI
  generalize rootI S = r at *
  have u1 : a - b ≤ r := abs_le_of_sq r0 (by omega)
  have e : (b - a) * (b - a) = (a - b) * (a - b) := by rw [show b - a = -(a - b) by omega, Int.neg_mul_neg]
  have u2 : b - a ≤ r := abs_le_of_sq r0 (by omega)
  have u3 : r ≤ a + b := by
    rcases Int.lt_or_le (a + b) r with h | h
    · have := Int.mul_le_mul (a := a + b + 1) (b := a + b + 1) (c := r) (d := r) (by omega) (by omega) (by omega) (by omega)
      have e3 := sq_add (a + b) 1
      omega
    · exact h
  split <;> omega
theorem distI_swap (a b n : Int) : distI b a (-n) = distI a b n := by unfold distI; rw [sqI_swap]
theorem nearI_bd {n : Int} (h0 : 0 ≤ n) (h1 : n ≤ 400000000) : 0 ≤ nearI n ∧ nearI n ≤ 20001 := by
  obtain ⟨r0, r1, r2⟩ := rootI_ok h0
  unfold nearI
  generalize rootI n = r at *
  have : r ≤ 20000 := by
    rcases Int.lt_or_le 20000 r with h | h
    · have := Int.mul_le_mul (a := 20001) (b := 20001) (c := r) (d := r) (by omega) (by omega) (by omega) (by omega)
      omega
    · exact h
  split <;> omega

/-- The first number from k on, within some tries, of which p holds. -/
def seek (p : Nat → Bool) : Nat → Nat → Option Nat
  | 0, _ => none
  | f + 1, k => if p k then some k else seek p f (k + 1)
theorem seek_some {p : Nat → Bool} : ∀ {f k m : Nat}, seek p f k = some m → p m = true ∧ k ≤ m ∧ m < k + f ∧ ∀ j, k ≤ j → j < m → p j = false
  | 0, _, _, h => by simp [seek] at h
  | f + 1, k, m, h => by
    unfold seek at h
    by_cases hp : p k = true
    · rw [if_pos hp] at h
      injection h with h
      subst h
      exact ⟨hp, by omega, by omega, fun j h1 h2 => by omega⟩
    · rw [if_neg hp] at h
      obtain ⟨h1, h2, h3, h4⟩ := seek_some h
      refine ⟨h1, by omega, by omega, fun j hj hj2 => ?_⟩
      by_cases e : j = k
      · subst e; simpa using hp
      · exact h4 j (by omega) hj2
def farB (a b z : Int) (k : Nat) : Bool := decide (z ≤ distI a b k)
def seekI (a b z : Int) : Option Nat := seek (farB a b z) 361 0

def stepsB (n : Int) : Bool := decide (-100000 ≤ n) && decide (n ≤ 100000)
theorem stepsB_iff {n : Int} : stepsB n = true ↔ -100000 ≤ n ∧ n ≤ 100000 := by simp [stepsB]
def radB (n : Int) : Bool := decide (0 ≤ n) && decide (n ≤ 10000)
theorem radB_iff {n : Int} : radB n = true ↔ 0 ≤ n ∧ n ≤ 10000 := by simp [radB]
end Go.Proofs.Ytifblmcocikopab
