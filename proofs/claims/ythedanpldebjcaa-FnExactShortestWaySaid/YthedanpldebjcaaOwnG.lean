/- The model: a list of one's own, an empty one too. -/
import Derived.Test.YthedanpldebjcaaTur
namespace Go.Proofs.Ythedanpldebjcaa
open Go.RowKit
set_option linter.unusedSimpArgs false
set_option linter.unusedVariables false

set_option maxRecDepth 100000 in
set_option maxHeartbeats 4000000 in
theorem specOwnG (A : Option Addr) (c : Nat) (zs : List Int) (w : World) (lo : Nat) (h : Ow w lo w.heap.size 2 A zs.length c (ints zs)) (hn : zs.length ≤ 1048576) :
    Calls Try.prog 83 #[.slice A zs.length c] w fun e w' => ∃ v, e = .returned v ∧ Gat w zs v w' := by
  by_cases hp : 0 < zs.length
  case pos =>
    refine (specOwn A c zs w ⟨h.rd.here, h.le, hn⟩ hp).mono ?_
    rintro e w' ⟨g, cap, rfl, ho, hb⟩
    exact ⟨_, rfl, ho.1, hb⟩
  case neg =>
    have hz : zs = [] := List.length_eq_zero_iff.1 (by omega)
    subst hz
    obtain ⟨i0, hi, hz0, hz1, hz2⟩ := info_parts infoI64
    have hG := (Gat.start (Below.refl w.heap.size w))
    have hown := hG.row
    have HG := Go.Lib.hid hG
    have hform : (A = none ∧ c = 0) ∨ ∃ g, A = some ⟨g, 0, none⟩ := by
      rcases h.1.2 with ⟨e, _⟩ | ⟨g, cap, cur, e, _⟩
      · injection e with e1 _ e3; exact .inl ⟨e1, e3⟩
      · injection e with e1; exact .inr ⟨g, e1⟩
    clear h hp hn hG
    simp only [List.length_nil] at *
    go_enter Try.func83, Try.ntmps83
    go_wp2_with (at_builtin; refine wpList_append_fits_any _ rfl _ _ 24 rfl w.heap.size 2 i0 1 Try.underlying24 hi hz1 w.heap.size 0 0 [] rfl hown A 0 c [] rfl rfl (fun e => by rcases hform with ⟨_, h2⟩ | ⟨g, h2⟩; exact ⟨rfl, h2⟩; exact absurd (h2.symm.trans e) (by simp)) (fun ad _ j u hu => by simp at hu) (by simp) (Nat.le_refl _) ?_; intro w3 hown' hgrow; have HR := Go.Lib.hid (show Gat w [] (.slice (some ⟨w.heap.size, 0, none⟩) 0 0) w3 from ⟨hown', HG.out.b.trans ((Below.refl _ _).grown hgrow (by simp) (fun j e => by cases e; exact Nat.le_refl _))⟩); clear hown' hgrow hown)
    go_ret
    exact ⟨_, rfl, HR.out⟩
end Go.Proofs.Ythedanpldebjcaa
