/- Ways through gears in numbers: the search ends, its ways are shortest; what the functions of chapter 11 answer. No program. -/
import Derived.Test.YthedanpldebjcaaPlainShift
import Derived.Test.YthedanpldebjcaaMgWays2
namespace Go.Proofs.Ythedanpldebjcaa
set_option linter.unusedSimpArgs false
set_option linter.unusedVariables false

/-- Where a move leads is found. -/
def Found (x : Trn) (lm : Int) (b : Bf) (i : Nat) (m : Int) : Prop := okG x lm (mvG (b.s i) m) = true → ∃ k, k < b.seen.length ∧ b.s k = mvG (b.s i) m ∧ (b.w k).length ≤ (b.w i).length + 1
theorem Found.keep {x : Trn} {lm : Int} {b c : Bf} {i : Nat} {m : Int} (h : Found x lm b i m) (hi : i < b.seen.length) (hl : b.seen.length ≤ c.seen.length) (he : ∀ j, j < b.seen.length → c.s j = b.s j ∧ c.w j = b.w j) : Found x lm c i m := by
  intro hok
  rw [(he i hi).1] at hok
  obtain ⟨k, h1, h2, h3⟩ := h hok
  exact ⟨k, by omega, by rw [(he k h1).1, (he i hi).1]; exact h2, by rw [(he k h1).2, (he i hi).2]; exact h3⟩
theorem BfOk.round {x : Trn} {lm : Int} {a : Pl} {b : Bf} {i : Nat} (h : BfOk x lm a b i) (hi : i < b.seen.length) : BfOk x lm a (bfI x lm b i) (i + 1) := by
  obtain ⟨h0, e0, f0⟩ := h.move hi (m := 0) (by omega)
  have l0 := bfM_len x lm b i 0
  obtain ⟨h1, e1, f1⟩ := h0.move (by omega) (m := 1) (by omega)
  have l1 := bfM_len x lm (bfM x lm b i 0) i 1
  obtain ⟨h2, e2, f2⟩ := h1.move (by omega) (m := 2) (by omega)
  have l2 := bfM_len x lm (bfM x lm (bfM x lm b i 0) i 1) i 2
  obtain ⟨h3, e3, f3⟩ := h2.move (by omega) (m := 3) (by omega)
  have l3 := bfM_len x lm (bfM x lm (bfM x lm (bfM x lm b i 0) i 1) i 2) i 3
  have g0 : Found x lm (bfM x lm b i 0) i 0 := by
    intro hok
    rw [(e0 i hi).1] at hok ⊢
    rw [(e0 i hi).2]
    exact f0 hok
  have g1 : Found x lm (bfM x lm (bfM x lm b i 0) i 1) i 1 := by
    intro hok
    rw [(e1 i (by omega)).1] at hok ⊢
    rw [(e1 i (by omega)).2]
    exact f1 hok
  have g2 : Found x lm (bfM x lm (bfM x lm (bfM x lm b i 0) i 1) i 2) i 2 := by
    intro hok
    rw [(e2 i (by omega)).1] at hok ⊢
    rw [(e2 i (by omega)).2]
    exact f2 hok
  have g3 : Found x lm (bfI x lm b i) i 3 := by
    unfold bfI
    intro hok
    rw [(e3 i (by omega)).1] at hok ⊢
    rw [(e3 i (by omega)).2]
    exact f3 hok
  have k2 := g2.keep (c := bfI x lm b i) (by omega) l3 e3
  have k1 := (g1.keep (by omega) l2 e2).keep (c := bfI x lm b i) (by omega) l3 e3
  have k0 := ((g0.keep (by omega) l1 e1).keep (by omega) l2 e2).keep (c := bfI x lm b i) (by omega) l3 e3
  have hb : BfOk x lm a (bfI x lm b i) i := h3
  have hlen : i < (bfI x lm b i).seen.length := by
    unfold bfI
    omega
  refine ⟨hb.len, hb.nd, hb.ok, hb.pos, hb.s0, hb.w0, hb.path, hb.mono, fun hi1 j hj => ?_, fun j hj1 hj2 m hm hok => ?_⟩
  · have q1 := hb.cap hlen j hj
    have q2 := hb.mono i (i + 1) (by omega) hi1
    omega
  · rcases Nat.lt_or_ge j i with q | q
    · exact hb.done j q hj2 m hm hok
    · obtain rfl : j = i := by omega
      have : m = 0 ∨ m = 1 ∨ m = 2 ∨ m = 3 := by omega
      rcases this with rfl | rfl | rfl | rfl
      · exact k0 hok
      · exact k1 hok
      · exact k2 hok
      · exact g3 hok
theorem bfTo_ok {x : Trn} {lm : Int} {a : Pl} (ha : okG x lm a = true) : ∀ k, BfOk x lm a (bfTo x lm a k) k
  | 0 => ⟨rfl, by simp [bfTo], fun p hp => by
      have : p = a := by simpa [bfTo] using hp
      rw [this]; exact ha, by simp [bfTo], rfl, rfl, fun j hj => by
      obtain rfl : j = 0 := by simpa [bfTo] using hj
      rfl, fun j k _ hk => by
      obtain rfl : k = 0 := by simpa [bfTo] using hk
      obtain rfl : j = 0 := by omega
      exact Nat.le_refl _, fun _ j hj => by
      obtain rfl : j = 0 := by simpa [bfTo] using hj
      omega, fun j hj => by omega⟩
  | k + 1 => by
    have h := bfTo_ok ha k
    show BfOk x lm a (if k < (bfTo x lm a k).seen.length then bfI x lm (bfTo x lm a k) k else bfTo x lm a k) (k + 1)
    by_cases hk : k < (bfTo x lm a k).seen.length
    · rw [if_pos hk]; exact h.round hk
    · rw [if_neg hk]
      exact ⟨h.len, h.nd, h.ok, h.pos, h.s0, h.w0, h.path, h.mono, fun hi => by omega, fun j hj1 hj2 => h.done j (by omega) hj2⟩
theorem okG_gear {x : Trn} {lm : Int} {p : Pl} (h : okG x lm p = true) : (0 ≤ p.1 ∧ p.1 ≤ (x.f.length : Int) - 1) ∧ 0 ≤ p.2 ∧ p.2 ≤ (x.r.length : Int) - 1 := by
  unfold okG gearB at h
  simp only [Bool.and_eq_true, decide_eq_true_eq] at h
  exact ⟨h.1.1, h.1.2⟩
def plG (g : Gr) : Pl := ((g.1 : Int), (g.2 : Int))
theorem bf_few {x : Trn} (hx : Train x) {lm : Int} {a : Pl} {b : Bf} {i : Nat} (h : BfOk x lm a b i) : b.seen.length ≤ (ordI x).length := by
  have := nodup_len b.seen ((ordI x).map plG) h.nd fun p hp => by
    obtain ⟨⟨h1, h2⟩, h3, h4⟩ := okG_gear (h.ok p hp)
    refine List.mem_map.2 ⟨(p.1.toNat, p.2.toNat), ordI_mem ⟨by show p.1.toNat < _; omega, by show p.2.toNat < _; omega⟩, ?_⟩
    unfold plG
    obtain ⟨f, r⟩ := p
    simp only [Prod.mk.injEq]
    exact ⟨Int.toNat_of_nonneg h1, Int.toNat_of_nonneg h3⟩
  simpa using this
def bfEnd (x : Trn) (lm : Int) (a : Pl) : Bf := bfTo x lm a (ordI x).length
theorem bfTo_stop {x : Trn} {lm : Int} {a : Pl} {k : Nat} (h : (bfTo x lm a k).seen.length ≤ k) : ∀ d, bfTo x lm a (k + d) = bfTo x lm a k
  | 0 => rfl
  | d + 1 => by
    have e := bfTo_stop h d
    show (if k + d < (bfTo x lm a (k + d)).seen.length then bfI x lm (bfTo x lm a (k + d)) (k + d) else bfTo x lm a (k + d)) = _
    rw [e, if_neg (by omega)]
/-- A loop over the places found that has come to their end has come to the end. -/
theorem bfEnd_is {x : Trn} {lm : Int} {a : Pl} {k : Nat} (h : (bfTo x lm a k).seen.length ≤ k) (hk : k ≤ (ordI x).length) : bfEnd x lm a = bfTo x lm a k := by
  unfold bfEnd
  have := bfTo_stop h ((ordI x).length - k)
  rwa [show k + ((ordI x).length - k) = (ordI x).length by omega] at this
theorem bfEnd_ok {x : Trn} (hx : Train x) {lm : Int} {a : Pl} (ha : okG x lm a = true) : BfOk x lm a (bfEnd x lm a) (bfEnd x lm a).seen.length := by
  have h := bfTo_ok ha (ordI x).length
  have h36 := bf_few hx h
  show BfOk x lm a (bfTo x lm a (ordI x).length) (bfTo x lm a (ordI x).length).seen.length
  exact ⟨h.len, h.nd, h.ok, h.pos, h.s0, h.w0, h.path, h.mono, fun hi => by omega, fun j hj1 hj2 => h.done j (by omega) hj2⟩
theorem bf_from {x : Trn} {lm : Int} {a : Pl} {b : Bf} (h : BfOk x lm a b b.seen.length) : ∀ (w : List Int) (c t : Pl) (j : Nat), leads x lm c w t → j < b.seen.length → b.s j = c → ∃ k, k < b.seen.length ∧ b.s k = t ∧ (b.w k).length ≤ (b.w j).length + w.length
  | [], c, t, j, hw, hj, e => ⟨j, hj, e.trans hw, by simp⟩
  | m :: w, c, t, j, hw, hj, e => by
    obtain ⟨k, h1, h2, h3⟩ := h.done j hj hj m hw.1 (by rw [e]; exact hw.2.1)
    obtain ⟨i, g1, g2, g3⟩ := bf_from h w (mvG c m) t k hw.2.2 h1 (by rw [h2, e])
    exact ⟨i, g1, g2, by simp only [List.length_cons]; omega⟩
/-- No way is shorter than the one that is found. -/
theorem bf_short {x : Trn} (hx : Train x) {lm : Int} {a t : Pl} (ha : okG x lm a = true) {w : List Int} (hw : leads x lm a w t) : ∃ k, k < (bfEnd x lm a).seen.length ∧ (bfEnd x lm a).s k = t ∧ ((bfEnd x lm a).w k).length ≤ w.length := by
  have h := bfEnd_ok hx ha
  obtain ⟨k, h1, h2, h3⟩ := bf_from h w a t 0 hw h.pos h.s0
  rw [h.w0] at h3
  exact ⟨k, h1, h2, by simpa using h3⟩
theorem s_inj {b : Bf} (hn : b.seen.Nodup) {i j : Nat} (hi : i < b.seen.length) (hj : j < b.seen.length) (e : b.s i = b.s j) : i = j := by
  unfold Bf.s at e
  rw [List.getD_eq_getElem?_getD, List.getD_eq_getElem?_getD, List.getElem?_eq_getElem hi, List.getElem?_eq_getElem hj] at e
  have e : b.seen[i] = b.seen[j] := e
  have hp := List.pairwise_iff_getElem.1 hn
  rcases Nat.lt_trichotomy i j with q | q | q
  · exact absurd e (hp i j hi hj q)
  · exact q
  · exact absurd e.symm (hp j i hj hi q)
/-- The way to a place. -/
def wayOf (b : Bf) (t : Pl) : List Int × Int := if b.seen.contains t then (b.w (b.seen.findIdx (· == t)), 0) else ([], 4)
theorem wayOf_at {b : Bf} (hn : b.seen.Nodup) {k : Nat} (hk : k < b.seen.length) : wayOf b (b.s k) = (b.w k, 0) := by
  unfold wayOf
  have hm : b.s k ∈ b.seen := s_mem hk
  rw [if_pos (by simpa using hm)]
  have hlt : b.seen.findIdx (· == b.s k) < b.seen.length := List.findIdx_lt_length_of_exists ⟨_, hm, by simp⟩
  have he : b.s (b.seen.findIdx (· == b.s k)) = b.s k := by
    have h1 := List.findIdx_getElem (xs := b.seen) (p := (· == b.s k)) (w := hlt)
    have h2 : b.seen[b.seen.findIdx (· == b.s k)] = b.s k := by simpa using h1
    unfold Bf.s at *
    rw [List.getD_eq_getElem?_getD, List.getElem?_eq_getElem hlt]
    exact h2
  rw [s_inj hn hlt hk he]
theorem wayOf_no {b : Bf} {t : Pl} (h : ∀ k, k < b.seen.length → b.s k ≠ t) : wayOf b t = ([], 4) := by
  unfold wayOf
  rw [if_neg]
  intro hc
  obtain ⟨k, h1, h2⟩ := mem_s (b := b) (p := t) (by simpa using hc)
  exact h k h1 h2
theorem wayOf_some {b : Bf} {t : Pl} {w : List Int} (h : wayOf b t = (w, 0)) : ∃ k, k < b.seen.length ∧ b.s k = t := by
  unfold wayOf at h
  split at h
  · exact mem_s (by simpa using (by assumption : b.seen.contains t = true))
  · exact absurd (Prod.mk.inj h).2 (by decide)
/-- Back there is a way that is as long. -/
theorem way_back {x : Trn} (hx : Train x) {lm : Int} {a t : Pl} (ha : okG x lm a = true) (ht : okG x lm t = true) {w : List Int} (h : wayOf (bfEnd x lm a) t = (w, 0)) :
    leads x lm a w t ∧ ∃ v, wayOf (bfEnd x lm t) a = (v, 0) ∧ v.length = w.length := by
  have hA := bfEnd_ok hx ha
  have hT := bfEnd_ok hx ht
  obtain ⟨k, h1, h2⟩ := wayOf_some h
  have e := wayOf_at hA.nd h1
  rw [h2, h] at e
  have ew : w = (bfEnd x lm a).w k := (Prod.mk.inj e).1
  have hl := hA.path k h1
  rw [h2, ← ew] at hl
  refine ⟨hl, ?_⟩
  obtain ⟨v0, g1, g2⟩ := leads_back ha hl
  obtain ⟨i, i1, i2, i3⟩ := bf_short hx ht g1
  have e2 := wayOf_at hT.nd i1
  rw [i2] at e2
  refine ⟨_, e2, ?_⟩
  have hb := hT.path i i1
  rw [i2] at hb
  obtain ⟨v1, j1, j2⟩ := leads_back ht hb
  obtain ⟨n, n1, n2, n3⟩ := bf_short hx ha j1
  have := s_inj hA.nd n1 h1 (by rw [n2, h2])
  subst this
  rw [← ew] at n3
  omega
end Go.Proofs.Ythedanpldebjcaa
