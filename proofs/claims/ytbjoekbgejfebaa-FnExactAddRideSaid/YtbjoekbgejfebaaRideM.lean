/- Rides in memory: three cells for each; lists of them that lie somewhere, that are the call's own, that are in the making. No function of the program. -/
import Derived.Test.YtbjoekbgejfebaaPlainWear
import Derived.Test.YtbjoekbgejfebaaTenB
namespace Go.Proofs.Ytbjoekbgejfebaa
open Go.RowKit
set_option linter.unusedSimpArgs false
set_option linter.unusedVariables false

def ridC (r : Rid) : List Value := [.int .i64 r.day, .int .i64 r.tens, .bool r.wet]
def ridV (r : Rid) : Value := .agg #[.int .i64 r.day, .int .i64 r.tens, .bool r.wet]
def rids (xs : List Rid) : List Value := xs.flatMap ridC
theorem rids_len : ∀ xs : List Rid, (rids xs).length = xs.length * 3
  | [] => rfl
  | g :: t => by
    have := rids_len t
    unfold rids at *
    rw [List.flatMap_cons, List.length_append, this, List.length_cons]
    show 3 + _ = _
    omega
theorem rids_app (us vs : List Rid) : rids (us ++ vs) = rids us ++ rids vs := by simp [rids]
theorem rids_at : ∀ {xs : List Rid} {i c : Nat}, i < xs.length → c < 3 → (rids xs)[i * 3 + c]? = (ridC (xs.getD i rid0))[c]?
  | [], i, _, hi, _ => absurd hi (by simp)
  | g :: t, 0, c, _, hc => by
    unfold rids
    rw [List.flatMap_cons, Nat.zero_mul, Nat.zero_add, List.getElem?_append_left (by show c < 3; exact hc)]
    rfl
  | g :: t, i + 1, c, hi, hc => by
    have ih := rids_at (xs := t) (i := i) (c := c) (by simpa using hi) hc
    unfold rids at *
    rw [List.flatMap_cons, List.getElem?_append_right (by show 3 ≤ _; omega)]
    show (List.flatMap ridC t)[(i + 1) * 3 + c - 3]? = _
    rw [show (i + 1) * 3 + c - 3 = i * 3 + c by omega, ih]
    rfl
theorem rids_at3 {xs : List Rid} {k : Nat} (hk : k < xs.length) : (rids xs)[k * 3]? = some (.int .i64 (xs.getD k rid0).day) ∧ (rids xs)[k * 3 + 1]? = some (.int .i64 (xs.getD k rid0).tens) ∧ (rids xs)[k * 3 + 2]? = some (.bool (xs.getD k rid0).wet) := by
  refine ⟨?_, rids_at hk (by decide), rids_at hk (by decide)⟩
  have := rids_at hk (show 0 < 3 by decide)
  rwa [Nat.add_zero] at this
theorem ext_rids {xs ys : List Value} (hl : xs.length = ys.length) (h : ∀ j, j < xs.length → xs[j]? = ys[j]?) : xs = ys := ext_of hl h
theorem rids_set {xs : List Rid} {k : Nat} {r : Rid} (hk : k < xs.length) :
    (((rids xs).set (k * 3) (.int .i64 r.day)).set (k * 3 + 1) (.int .i64 r.tens)).set (k * 3 + 2) (.bool r.wet) = rids (xs.set k r) := by
  refine ext_of (by simp [rids_len]) fun j hj => ?_
  simp only [List.length_set, rids_len] at hj
  have hjl : (rids xs).length = xs.length * 3 := rids_len xs
  obtain ⟨i, c, rfl, hc⟩ : ∃ i c, j = i * 3 + c ∧ c < 3 := ⟨j / 3, j % 3, by omega, by omega⟩
  have hi : i < xs.length := by omega
  rw [rids_at (by rw [List.length_set]; exact hi) hc]
  by_cases e : i = k
  · subst e
    have hg : (xs.set i r).getD i rid0 = r := by simp [List.getD, hi]
    rw [hg]
    have h3 : c = 0 ∨ c = 1 ∨ c = 2 := by omega
    rcases h3 with rfl | rfl | rfl
    · rw [List.getElem?_set_ne (by omega), List.getElem?_set_ne (by omega), Nat.add_zero, List.getElem?_set_self (by omega)]; rfl
    · rw [List.getElem?_set_ne (by omega), List.getElem?_set_self (by simp only [List.length_set]; omega)]; rfl
    · rw [List.getElem?_set_self (by simp only [List.length_set]; omega)]; rfl
  · have hg : (xs.set k r).getD i rid0 = xs.getD i rid0 := by
      simp only [List.getD_eq_getElem?_getD]
      rw [List.getElem?_set_ne (by omega)]
    rw [hg, List.getElem?_set_ne (by omega), List.getElem?_set_ne (by omega), List.getElem?_set_ne (by omega), rids_at hi hc]
/-- The slice (A, n) of rides reads as xs; its cells lie in a block from lo on and below hi. -/
def RdR (w : World) (lo hi : Nat) (A : Option Addr) (xs : List Rid) : Prop := Rd w lo hi A (xs.length * 3) (rids xs)
theorem RdR.at_ {w : World} {lo hi k : Nat} {A : Option Addr} {xs : List Rid} (h : RdR w lo hi A xs) (hk : k < xs.length) :
    ∃ b o, A = some ⟨b, o, none⟩ ∧ lo ≤ b ∧ b < hi ∧ ∀ j, j < xs.length → w.cell? ⟨b, o + j * 3, none⟩ = some (.int .i64 (xs.getD j rid0).day) ∧ w.cell? ⟨b, o + j * 3 + 1, none⟩ = some (.int .i64 (xs.getD j rid0).tens) ∧ w.cell? ⟨b, o + j * 3 + 2, none⟩ = some (.bool (xs.getD j rid0).wet) := by
  obtain ⟨b, o, e, p, q, hc⟩ := Rd.at_ h (k := k * 3) (by omega)
  refine ⟨b, o, e, p, q, fun j hj => ?_⟩
  obtain ⟨a1, a2, a3⟩ := rids_at3 hj
  exact ⟨hc _ _ a1, hc _ _ a2, hc _ _ a3⟩
/-- The slice (A, n, cap) of rides is the call's own, in a block from lo on and below hi. -/
def OwR (w : World) (lo hi : Nat) (e : TypeId) (A : Option Addr) (cap : Nat) (xs : List Rid) : Prop :=
  w.ownsRow lo e 3 (.slice A xs.length cap) xs.length (rids xs) ∧ ∀ g, (Value.slice A xs.length cap).ownBlock = some g → g < hi
section
variable {w w' : World} {lo hi lo' hi' cap : Nat} {e : TypeId} {A : Option Addr} {xs : List Rid}
theorem OwR.le (h : OwR w lo hi e A cap xs) : xs.length ≤ cap := by
  rcases h.1.2 with ⟨hv, h0⟩ | ⟨g, cap', cur, hv, hg, hh, hle, _⟩
  · omega
  · injection hv with _ _ e3
    omega
theorem OwR.form (h : OwR w lo hi e A cap xs) (hn : 0 < xs.length) : ∃ g, A = some ⟨g, 0, none⟩ ∧ lo ≤ g ∧ g < hi ∧ g < w.heap.size := by
  rcases h.1.2 with ⟨_, h0⟩ | ⟨g, cap', cur, hv, hg, hh, _⟩
  · omega
  · have hA : A = some ⟨g, 0, none⟩ := by injection hv
    subst hA
    have hl := h.1.lt g rfl
    exact ⟨g, rfl, hg, h.2 g rfl, hl.2⟩
theorem OwR.rd (h : OwR w lo hi e A cap xs) : RdR w lo hi A xs := by
  refine ⟨rids_len xs, fun hn => ?_⟩
  obtain ⟨g, rfl, p, q, _⟩ := h.form (by omega)
  exact ⟨g, 0, rfl, p, q, fun j u hu => by
    have := h.1.cells (g := g) rfl j u hu
    by_cases hj : j = 0
    · subst hj; simpa [Addr.add] using this
    · simpa [Addr.add, hj] using this⟩
theorem OwR.of_blocks (h : OwR w lo hi e A cap xs) (hk : ∀ k, lo ≤ k → k < hi → w'.heap[k]? = w.heap[k]?) : OwR w' lo hi e A cap xs := by
  refine ⟨⟨h.1.1, ?_⟩, h.2⟩
  rcases h.1.2 with h0 | ⟨g, cap', cur, hv, hg, hh, r⟩
  · exact .inl h0
  · have hlt : g < hi := h.2 g (by rw [hv]; rfl)
    exact .inr ⟨g, cap', cur, hv, hg, (hk g hg hlt).trans hh, r⟩
theorem OwR.below {B : Nat} (h : OwR w lo hi e A cap xs) (hb : Below B w w') (hB : hi ≤ B) : OwR w' lo hi e A cap xs := h.of_blocks fun k _ q => hb.block k (by omega)
theorem OwR.keep (h : OwR w lo hi e A cap xs) (hk : Keep lo' hi' w w') (hs : hi ≤ w.heap.size) (hd : hi ≤ lo' ∨ hi' ≤ lo) : OwR w' lo hi e A cap xs :=
  h.of_blocks fun k p q => hk.block k (by omega) (by omega)
theorem OwR.lower (h : OwR w lo hi e A cap xs) (h1 : lo' ≤ lo) : OwR w lo' hi e A cap xs := by
  refine ⟨⟨h.1.1, ?_⟩, h.2⟩
  rcases h.1.2 with h0 | ⟨g, cap', cur, hv, hg, r⟩
  · exact .inl h0
  · exact .inr ⟨g, cap', cur, hv, by omega, r⟩
theorem OwR.raise (h : OwR w lo hi e A cap xs) (k : hi ≤ hi') : OwR w lo hi' e A cap xs := ⟨h.1, fun g hg => Nat.lt_of_lt_of_le (h.2 g hg) k⟩
theorem OwR.drewN (h : OwR w lo hi e A cap xs) (m : Nat) : OwR (w.drewN m) lo hi e A cap xs := h
theorem OwR.nil (w : World) (lo hi : Nat) (t : TypeId) : OwR w lo hi t none 0 [] := ⟨⟨rfl, .inl ⟨rfl, rfl⟩⟩, fun g hg => by simp [Value.ownBlock] at hg⟩
theorem OwR.free {g : Nat} (h : OwR w lo hi e (some ⟨g, 0, none⟩) cap xs) (k : Nat) : w.frozen? ⟨g, k, none⟩ = false := h.1.frozenAt k
end
/-- Three stores, a ride. -/
def put3 (w : World) (g k : Nat) (r : Rid) : World := ((w.setCell ⟨g, k, none⟩ (.int .i64 r.day)).setCell ⟨g, k + 1, none⟩ (.int .i64 r.tens)).setCell ⟨g, k + 2, none⟩ (.bool r.wet)
theorem owns_raw {w : World} {base sz n cap g k : Nat} {t : TypeId} {xs : List Value} (h : w.ownsRow base t sz (.slice (some ⟨g, 0, none⟩) n cap) n xs) (u : Value) : (w.setCell ⟨g, k, none⟩ u).ownsRow base t sz (.slice (some ⟨g, 0, none⟩) n cap) n (xs.set k u) := (h.stored k u).1
theorem OwR.put {w : World} {lo hi cap g k : Nat} {e : TypeId} {xs : List Rid} (h : OwR w lo hi e (some ⟨g, 0, none⟩) cap xs) (hk : k < xs.length) (r : Rid) : OwR (put3 w g (k * 3) r) lo hi e (some ⟨g, 0, none⟩) cap (xs.set k r) := by
  refine ⟨?_, by rw [List.length_set]; exact h.2⟩
  rw [← rids_set hk, List.length_set]
  exact owns_raw (owns_raw (owns_raw h.1 _) _) _
theorem below_put3 {B : Nat} {a w : World} (h : Below B a w) {g k : Nat} (hg : B ≤ g) (r : Rid) : Below B a (put3 w g k r) := ((h.setCell (p := ⟨g, k, none⟩) hg _).setCell (p := ⟨g, k + 1, none⟩) hg _).setCell (p := ⟨g, k + 2, none⟩) hg _
theorem Keep.put3 {lo hi : Nat} {a w : World} (h : Keep lo hi a w) {g k : Nat} (h1 : lo ≤ g) (h2 : g < hi) (r : Rid) : Keep lo hi a (put3 w g k r) := ((h.setCell (p := ⟨g, k, none⟩) h1 h2 _).setCell (p := ⟨g, k + 1, none⟩) h1 h2 _).setCell (p := ⟨g, k + 2, none⟩) h1 h2 _
/-- A list of rides that lies somewhere. -/
structure Lr (xs : List Rid) (B : Option Addr) (c : Nat) (W : World) : Prop where
  rd : RdR W 0 W.heap.size B xs
  le : xs.length ≤ c
  few : xs.length ≤ 1048576
theorem Lr.below {xs : List Rid} {B : Option Addr} {c : Nat} {W W1 : World} (h : Lr xs B c W) (b : Below W.heap.size W W1) : Lr xs B c W1 := ⟨(Rd.below h.rd b (Nat.le_refl _)).mono (Nat.le_refl _) b.size, h.le, h.few⟩
theorem Lr.drewN {xs : List Rid} {B : Option Addr} {c : Nat} {W : World} (h : Lr xs B c W) (m : Nat) : Lr xs B c (W.drewN m) := ⟨Rd.drewN h.rd m, h.le, h.few⟩
theorem Lr.eqw {xs : List Rid} {B : Option Addr} {c : Nat} {W W1 : World} (h : Lr xs B c W) : Eqw W W1 → Lr xs B c W1
  | ⟨m, e⟩ => by subst e; exact h.drewN m
theorem Lr.of {xs : List Rid} {B : Option Addr} {c : Nat} {W : World} {lo hi : Nat} (h : RdR W lo hi B xs) (hc : xs.length ≤ c) (hz : xs.length ≤ 1048576) : Lr xs B c W := ⟨Rd.here h, hc, hz⟩
theorem Lr.at_ {xs : List Rid} {B : Option Addr} {c : Nat} {W : World} (h : Lr xs B c W) {k : Nat} (hk : k < xs.length) : ∃ b o, B = some ⟨b, o, none⟩ ∧ b < W.heap.size ∧ ∀ j, j < xs.length → W.cell? ⟨b, o + j * 3, none⟩ = some (.int .i64 (xs.getD j rid0).day) ∧ W.cell? ⟨b, o + j * 3 + 1, none⟩ = some (.int .i64 (xs.getD j rid0).tens) ∧ W.cell? ⟨b, o + j * 3 + 2, none⟩ = some (.bool (xs.getD j rid0).wet) := by
  obtain ⟨b, o, e, -, q, hc⟩ := h.rd.at_ hk
  exact ⟨b, o, e, q, hc⟩
theorem lr0 {W W1 : World} {xs : List Rid} {B : Option Addr} {c : Nat} {t : TypeId} (o : OwR W1 W.heap.size W1.heap.size t B c xs) (hf : xs.length ≤ 1048576) : Lr xs B c W1 := ⟨Rd.mono o.rd (Nat.zero_le _) (Nat.le_refl _), o.le, hf⟩
/-- Neighbours of rides that lie somewhere. -/
theorem Lr.part {xs : List Rid} {b o c a n : Nat} {W : World} (h : Lr xs (some ⟨b, o, none⟩) c W) (ha : a + n ≤ xs.length) (hn : 0 < n) : Lr ((xs.drop a).take n) (some ⟨b, o + a * 3, none⟩) (c - a) W := by
  have hl : ((xs.drop a).take n).length = n := by simp; omega
  have hle := h.le
  refine ⟨⟨rids_len _, fun h0 => ?_⟩, by omega, by have := h.few; omega⟩
  obtain ⟨b', o', e, q, hc⟩ := h.at_ (k := a) (by omega)
  injection e with e
  injection e with e1 e2
  subst e1; subst e2
  refine ⟨b, o + a * 3, rfl, Nat.zero_le _, q, fun j u hu => ?_⟩
  have hj : j < n * 3 := by
    have := (List.getElem?_eq_some_iff.1 hu).1
    rwa [rids_len, hl] at this
  obtain ⟨i, k, rfl, hk⟩ : ∃ i k, j = i * 3 + k ∧ k < 3 := ⟨j / 3, j % 3, by omega, by omega⟩
  have hi : i < n := by omega
  rw [rids_at (by rw [hl]; exact hi) hk] at hu
  have eg : ((xs.drop a).take n).getD i rid0 = xs.getD (a + i) rid0 := by simp [List.getD, List.getElem?_take, List.getElem?_drop, hi]
  rw [eg] at hu
  obtain ⟨c1, c2, c3⟩ := hc (a + i) (by omega)
  have ea : o + a * 3 + (i * 3 + k) = o + (a + i) * 3 + k := by omega
  rw [ea]
  have h3 : k = 0 ∨ k = 1 ∨ k = 2 := by omega
  rcases h3 with rfl | rfl | rfl
  · exact c1.trans hu
  · exact c2.trans hu
  · exact c3.trans hu
end Go.Proofs.Ytbjoekbgejfebaa
