/- The first and the last gear in their order; the nearest gear as the program finds it. No program. -/
import Derived.Test.YtbjoekbgejfebaaPlainGear3
namespace Go.Proofs.Ytbjoekbgejfebaa
set_option linter.unusedSimpArgs false
set_option linter.unusedVariables false

theorem ordI_mem {x : Trn} {g : Gr} (h : GOk x g) : g ∈ ordI x := by
  unfold ordI
  refine (ordTo_perm x _).mem_iff.2 ?_
  refine List.mem_map.2 ⟨g.1 * x.r.length + g.2, List.mem_range.2 ?_, nth_of h.2⟩
  have h1 : (g.1 + 1) * x.r.length ≤ x.f.length * x.r.length := Nat.mul_le_mul_right _ h.1
  rw [Nat.add_mul, Nat.one_mul] at h1
  have := h.2
  omega
theorem ordI_ok {x : Trn} {g : Gr} (h : g ∈ ordI x) : GOk x g := ordTo_ok (Nat.le_refl _) h
theorem ordI_pos {x : Trn} (h : Train x) : Pos x (ordI x) := fun q hq => by
  have := h.rb (ordI_ok hq)
  omega
theorem ordI_up (x : Trn) : UpG x (ordI x) := ordTo_up x _
theorem ordI_one {x : Trn} (h : Train x) : 1 ≤ (ordI x).length := by rw [ordI_len]; exact Nat.mul_pos h.f.one h.r.one
theorem up_last {x : Trn} {L : List Gr} (hu : UpG x L) (hp : Pos x L) (h0 : 1 ≤ L.length) {q : Gr} (hq : q ∈ L) : leG x q (L.getD (L.length - 1) (0, 0)) := by
  rcases List.eq_nil_or_concat L with rfl | ⟨l, t, rfl⟩
  · simp at h0
  · rw [List.concat_eq_append] at *
    have e : (l ++ [t]).getD ((l ++ [t]).length - 1) (0, 0) = t := by
      rw [List.length_append, List.length_singleton, Nat.add_sub_cancel]
      simp
    rw [e]
    rcases List.mem_append.1 hq with h1 | h1
    · exact UpG.le_mid (l := l) (p := t) (r := []) hu hp q h1
    · have : q = t := by simpa using h1
      subst this
      exact Int.le_refl _
theorem up_first {x : Trn} {L : List Gr} (hu : UpG x L) (hp : Pos x L) {q : Gr} (hq : q ∈ L) : leG x (L.getD 0 (0, 0)) q := by
  match L, hu, hp, hq with
  | [], _, _, hq => simp at hq
  | a :: t, hu, hp, hq =>
    show leG x a q
    rcases List.mem_cons.1 hq with rfl | h1
    · exact Int.le_refl _
    · exact UpG.head_le hu hp q h1
theorem Teeth.upto {lo hi most : Int} {zs : List Int} (h : Teeth lo hi most zs) {j k : Nat} (hj : j ≤ k) (hk : k < zs.length) : zs.getD j 0 ≤ zs.getD k 0 := by
  by_cases e : j = k
  · subst e; exact Int.le_refl _
  · exact Int.le_of_lt (h.up j k (by omega) hk)
/-- A gear with a chainring not smaller and a sprocket not greater has no smaller ratio; the same ratio only if it is the same gear. -/
theorem corner {x : Trn} (h : Train x) {a b : Gr} (ha : GOk x a) (hb : GOk x b) (h1 : a.1 ≤ b.1) (h2 : b.2 ≤ a.2) (hle : leG x b a) : a = b := by
  have f1 := h.f.upto h1 hb.1
  have r1 := h.r.upto h2 ha.2
  have fa := h.fb ha
  have fb := h.fb hb
  have ra := h.rb ha
  have rb := h.rb hb
  unfold leG at hle
  have e1 : a.1 = b.1 := by
    rcases Nat.lt_or_ge a.1 b.1 with hlt | hge
    · exfalso
      have fs : fI x a.1 < fI x b.1 := h.f.up _ _ hlt hb.1
      have k1 : fI x a.1 * rI x b.2 < fI x b.1 * rI x b.2 := Int.mul_lt_mul_of_pos_right fs (by omega)
      have k2 : fI x b.1 * rI x b.2 ≤ fI x b.1 * rI x a.2 := Int.mul_le_mul_of_nonneg_left r1 (by omega)
      omega
    · omega
  have e2 : a.2 = b.2 := by
    rcases Nat.lt_or_ge b.2 a.2 with hlt | hge
    · exfalso
      have rs : rI x b.2 < rI x a.2 := h.r.up _ _ hlt ha.2
      have k1 : fI x b.1 * rI x b.2 < fI x b.1 * rI x a.2 := Int.mul_lt_mul_of_pos_left rs (by omega)
      have k2 : fI x a.1 * rI x b.2 ≤ fI x b.1 * rI x b.2 := Int.mul_le_mul_of_nonneg_right f1 (by omega)
      omega
    · omega
  exact Prod.ext e1 e2
theorem ordI_last {x : Trn} (h : Train x) : (ordI x).getD ((ordI x).length - 1) (0, 0) = (x.f.length - 1, 0) := by
  have h1 := ordI_one h
  have hf := h.f.one
  have hr := h.r.one
  have hm := mem_getD (gs := ordI x) (i := (ordI x).length - 1) (by omega)
  have hok := ordI_ok hm
  have he : GOk x (x.f.length - 1, 0) := ⟨by show x.f.length - 1 < _; omega, by show 0 < _; omega⟩
  refine corner h hok he ?_ (Nat.zero_le _) (up_last (ordI_up x) (ordI_pos h) h1 (ordI_mem he))
  have := hok.1
  show _ ≤ x.f.length - 1
  omega
theorem ordI_first {x : Trn} (h : Train x) : (ordI x).getD 0 (0, 0) = (0, x.r.length - 1) := by
  have h1 := ordI_one h
  have hf := h.f.one
  have hr := h.r.one
  have hm := mem_getD (gs := ordI x) (i := 0) (by omega)
  have hok := ordI_ok hm
  have he : GOk x (0, x.r.length - 1) := ⟨by show 0 < _; omega, by show x.r.length - 1 < _; omega⟩
  refine (corner h he hok (Nat.zero_le _) ?_ (up_first (ordI_up x) (ordI_pos h) (ordI_mem he))).symm
  have := hok.2
  show _ ≤ x.r.length - 1
  omega
theorem rangeI_of {x : Trn} {p q : Gr} (hp : p = (x.f.length - 1, 0)) (hq : q = (0, x.r.length - 1)) : rangeI x = 100 * (fI x p.1 * rI x q.2) / (rI x p.2 * fI x q.1) := by
  subst hp hq
  unfold rangeI
  rw [Int.mul_assoc, Int.mul_comm (fI x 0)]
/-- The nearest gear so far, as it stands in the program's variables: how far, and four numbers. -/
structure Near where
  l : Int
  a : Int
  b : Int
  c : Int
  d : Int
def nearSt (x : Trn) (dv : Int) (gs : List Gr) : Nat → Near
  | 0 => ⟨20001, 0, 0, 0, 0⟩
  | k + 1 => if farI x dv (gs.getD k (0, 0)) < (nearSt x dv gs k).l then ⟨farI x dv (gs.getD k (0, 0)), (gs.getD k (0, 0)).1, (gs.getD k (0, 0)).2, fI x (gs.getD k (0, 0)).1, rI x (gs.getD k (0, 0)).2⟩ else nearSt x dv gs k
def nearOf (x : Trn) (dv : Int) (g : Gr) : Near := ⟨farI x dv g, g.1, g.2, fI x g.1, rI x g.2⟩
theorem nearSt_succ (x : Trn) (dv : Int) (gs : List Gr) (h0 : farI x dv (gs.getD 0 (0, 0)) < 20001) : ∀ k, nearSt x dv gs (k + 1) = nearOf x dv (nearTo x dv gs (k + 1))
  | 0 => by
    have e : nearTo x dv gs (0 + 1) = gs.getD 0 (0, 0) := by
      show (if _ then _ else _) = _
      split <;> rfl
    rw [e]
    show (if _ then _ else _) = _
    rw [if_pos (show farI x dv (gs.getD 0 (0, 0)) < (nearSt x dv gs 0).l from h0)]
    rfl
  | k + 1 => by
    have ih := nearSt_succ x dv gs h0 k
    unfold nearSt
    rw [ih]
    show (if farI x dv (gs.getD (k + 1) (0, 0)) < farI x dv (nearTo x dv gs (k + 1)) then _ else _) = nearOf x dv (if farI x dv (gs.getD (k + 1) (0, 0)) < farI x dv (nearTo x dv gs (k + 1)) then gs.getD (k + 1) (0, 0) else nearTo x dv gs (k + 1))
    by_cases h : farI x dv (gs.getD (k + 1) (0, 0)) < farI x dv (nearTo x dv gs (k + 1))
    · rw [if_pos h, if_pos h]; rfl
    · rw [if_neg h, if_neg h]
theorem farI_bd {x : Trn} (h : Train x) {dv : Int} (h0 : 0 ≤ dv) (h1 : dv ≤ 20000) {g : Gr} (hg : GOk x g) : farI x dv g < 20001 := by
  have := devI_bd h hg
  unfold farI
  omega
theorem nearSt_end {x : Trn} (h : Train x) {dv : Int} (h0 : 0 ≤ dv) (h1 : dv ≤ 20000) : (nearSt x dv (ordI x) (ordI x).length).a = (nearI x dv).1 ∧ (nearSt x dv (ordI x) (ordI x).length).b = (nearI x dv).2 := by
  have hl := ordI_one h
  obtain ⟨k, hk⟩ : ∃ k, (ordI x).length = k + 1 := ⟨(ordI x).length - 1, by omega⟩
  unfold nearI
  rw [hk, nearSt_succ x dv (ordI x) (farI_bd h h0 h1 (ordI_ok (mem_getD (by omega)))) k]
  exact ⟨rfl, rfl⟩
theorem nearSt_l {x : Trn} (h : Train x) {dv : Int} (h0 : 0 ≤ dv) (h1 : dv ≤ 20000) : ∀ k, k ≤ (ordI x).length → 0 ≤ (nearSt x dv (ordI x) k).l ∧ (nearSt x dv (ordI x) k).l ≤ 20001
  | 0, _ => ⟨by show (0 : Int) ≤ 20001; decide, Int.le_refl _⟩
  | k + 1, hk => by
    have ih := nearSt_l h h0 h1 k (by omega)
    have hf := farI_bd h h0 h1 (ordI_ok (mem_getD (gs := ordI x) (i := k) (by omega)))
    have hp : 0 ≤ farI x dv ((ordI x).getD k (0, 0)) := by unfold farI; omega
    unfold nearSt
    split
    · exact ⟨hp, by show farI _ _ _ ≤ 20001; omega⟩
    · exact ih
end Go.Proofs.Ytbjoekbgejfebaa
