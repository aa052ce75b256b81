/- The model: a list of one's own, and turning it. -/
import Derived.Test.YthedanpldebjcaaTenB
import Derived.Test.YthedanpldebjcaaPlainTen
namespace Go.Proofs.Ythedanpldebjcaa
open Go.RowKit
set_option linter.unusedSimpArgs false
set_option linter.unusedVariables false

set_option maxRecDepth 100000 in
set_option maxHeartbeats 4000000 in
theorem specOwn (A : Option Addr) (c : Nat) (zs : List Int) (w : World) (L : Ls zs A c w) (hp : 0 < zs.length) :
    Calls Try.prog 83 #[.slice A zs.length c] w fun e w' => ∃ g cap, e = .returned (.slice (some ⟨g, 0, none⟩) zs.length cap) ∧ Ow w' w.heap.size w'.heap.size 2 (some ⟨g, 0, none⟩) zs.length cap (ints zs) ∧ Below w.heap.size w w' := by
  have hn := L.few
  obtain ⟨b, o, rfl, hlt, hcs⟩ := L.at_ hp
  have hc : ∀ j u, (ints zs)[j]? = some u → w.cell? ⟨b, o + j, none⟩ = some u := fun j u hu => by
    have hj : j < zs.length := by have := (List.getElem?_eq_some_iff.1 hu).1; rwa [ints_len] at this
    rw [hcs j hj, ← hu, ints_at zs j hj]
  have hnews := news_of (w := w.alloc (.cells #[] 2)) (b := b) (o := o) (zs := zs) (fun j u hu => (World.cell?_alloc_lt _ _ _ hlt).trans (hc j u hu))
  have hG := (Gat.start (Below.refl w.heap.size w))
  have hown := hG.row
  have HB := Go.Lib.hid hG.b
  obtain ⟨i0, hi, hz0, hz1, hz2⟩ := info_parts infoI64
  have hlen : (ints zs).length = zs.length * 1 := by rw [ints_len]; omega
  have HP := Go.Lib.hid hp
  clear hc hG hp hcs L
  go_enter Try.func83, Try.ntmps83
  go_wp2_with (at_builtin; refine wpList_append_own_at _ rfl _ _ 24 rfl w.heap.size 2 i0 (.int .i64 0) 1 8 Try.underlying24 hi hz0 hz1 hz2 rfl (by decide) _ 0 [] rfl hown ⟨b, o, none⟩ zs.length c (ints zs) rfl hlen hnews (ints_one zs) (by unfold maxLen; omega) (by omega) (by simp) ?_; intro v' w3 hown' hgrow hnil hat; clear hnil hat)
  rw [Nat.zero_add, List.nil_append] at hown'
  obtain ⟨A', cap', rfl, ho⟩ := row_ow hown'
  obtain ⟨g, rfl, -⟩ := ho.form HP.out
  have HO := Go.Lib.hid ho
  have HB3 := Go.Lib.hid (HB.out.trans ((Below.refl _ _).grown hgrow (by simp) (fun j e => by cases e; exact Nat.le_refl _)))
  clear hown' ho hgrow hown hnews
  go_wp2_with fail
  go_ret
  exact ⟨g, cap', rfl, HO.out, HB3.out⟩
/-- The list that is turned: a block of the call's own. -/
structure Tur (w : World) (n g cap : Nat) (xs : List Int) (wr : World) : Prop where
  ow : Ow wr w.heap.size wr.heap.size 2 (some ⟨g, 0, none⟩) n cap (ints xs)
  b : Below w.heap.size w wr
theorem Tur.len {w wr : World} {n g cap : Nat} {xs : List Int} (h : Tur w n g cap xs wr) : xs.length = n := by have := h.ow.len; rwa [ints_len] at this
theorem Tur.lo {w wr : World} {n g cap : Nat} {xs : List Int} (h : Tur w n g cap xs wr) (hn : 0 < n) : w.heap.size ≤ g ∧ g < wr.heap.size := by
  obtain ⟨g', e, p, q, -⟩ := h.ow.form hn
  cases e
  exact ⟨p, q⟩
theorem Tur.cell {w wr : World} {n g cap : Nat} {xs : List Int} (h : Tur w n g cap xs wr) {k : Nat} (hk : k < n) : wr.cell? ⟨g, k, none⟩ = some (.int .i64 (xs.getD k 0)) :=
  (h.ow.cell hk).trans (ints_at xs k (by rw [h.len]; exact hk))
theorem Tur.drewN {w wr : World} {n g cap : Nat} {xs : List Int} (h : Tur w n g cap xs wr) (m : Nat) : Tur w n g cap xs (wr.drewN m) := ⟨h.ow.drewN m, below_drewN h.b m⟩
theorem Tur.add {w wr : World} {n g cap : Nat} {xs : List Int} (h : Tur w n g cap xs wr) (hn : 0 < n) (k : Nat) (v : Int) : Tur w n g cap (addAt xs k v) (wr.setCell ⟨g, k, none⟩ (.int .i64 (xs.getD k 0 + v))) := by
  have h1 := h.ow.set_ (k := k) (.int .i64 (xs.getD k 0 + v))
  rw [ints_set] at h1
  exact ⟨by simpa [World.setCell, addAt] using h1, h.b.setCell (p := ⟨g, k, none⟩) (h.lo hn).1 _⟩
end Go.Proofs.Ythedanpldebjcaa
namespace Go.Proofs.Ythedanpldebjcaa
open Go.RowKit
set_option linter.unusedSimpArgs false
set_option linter.unusedVariables false

set_option maxRecDepth 100000 in
set_option maxHeartbeats 4000000 in
theorem specOwnG (A : Option Addr) (c : Nat) (zs : List Int) (w : World) (lo : Nat) (h : Ow w lo w.heap.size 2 A zs.length c (ints zs)) (hn : zs.length ≤ 1048576) :
    Calls Try.prog 83 #[.slice A zs.length c] w fun e w' => ∃ v, e = .returned v ∧ Gat w zs v w' := by
  by_cases hp : 0 < zs.length
  case pos =>
    refine (specOwn A c zs w ⟨h.rd.here, h.le, hn⟩ hp).mono ?_
    rintro e w' ⟨g, cap, rfl, ho, hb⟩
    exact ⟨_, rfl, ho.1, hb⟩
  case neg =>
    have hz : zs = [] := List.length_eq_zero_iff.1 (by omega)
    subst hz
    obtain ⟨i0, hi, hz0, hz1, hz2⟩ := info_parts infoI64
    have hG := (Gat.start (Below.refl w.heap.size w))
    have hown := hG.row
    have HG := Go.Lib.hid hG
    have hform : (A = none ∧ c = 0) ∨ ∃ g, A = some ⟨g, 0, none⟩ := by
      rcases h.1.2 with ⟨e, _⟩ | ⟨g, cap, cur, e, _⟩
      · injection e with e1 _ e3; exact .inl ⟨e1, e3⟩
      · injection e with e1; exact .inr ⟨g, e1⟩
    clear h hp hn hG
    simp only [List.length_nil] at *
    go_enter Try.func83, Try.ntmps83
    go_wp2_with (at_builtin; refine wpList_append_fits_any _ rfl _ _ 24 rfl w.heap.size 2 i0 1 Try.underlying24 hi hz1 w.heap.size 0 0 [] rfl hown A 0 c [] rfl rfl (fun e => by rcases hform with ⟨_, h2⟩ | ⟨g, h2⟩; exact ⟨rfl, h2⟩; exact absurd (h2.symm.trans e) (by simp)) (fun ad _ j u hu => by simp at hu) (by simp) (Nat.le_refl _) ?_; intro w3 hown' hgrow; have HR := Go.Lib.hid (show Gat w [] (.slice (some ⟨w.heap.size, 0, none⟩) 0 0) w3 from ⟨hown', HG.out.b.trans ((Below.refl _ _).grown hgrow (by simp) (fun j e => by cases e; exact Nat.le_refl _))⟩); clear hown' hgrow hown)
    go_ret
    exact ⟨_, rfl, HR.out⟩
end Go.Proofs.Ythedanpldebjcaa
