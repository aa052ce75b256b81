/- The draws of a word; the whole draws of a list and of a word. -/
import Derived.Test.YtgdibahflhlakaaDraw4
namespace Go.Proofs.Ytgdibahflhlakaa
open Go.RowKit

/-- Is each cell a short text? -/
def shorts (cs : List Value) : Bool := cs.all fun v => match v with | .string x => decide (x.size ≤ 17) | _ => false
theorem lit_at {w w2 : World} {g : Nat} (cs : Array Value) (t : TypeId) (m : Nat) (hm : cs.size = m) (hall : shorts cs.toList = true) (hg : g < w.heap.size) (hK : Keep g (g + 1) (w.alloc (.cells cs t)) w2) (k : Nat) (hk : k < m) :
    ∃ x : ByteArray, w2.cell? ⟨w.heap.size, k, none⟩ = some (.string x) ∧ x.size ≤ 17 := by
  have hh := heap_alloc_new w (.cells cs t)
  have h1 : (w.alloc (.cells cs t)).cell? ⟨w.heap.size, k, none⟩ = cs[k]? := by
    simp only [World.cell?, hh, Option.isSome_none, Bool.false_eq_true, if_false]
  have h2 : w2.cell? ⟨w.heap.size, k, none⟩ = cs[k]? := (World.cell?_of_block (hK.block w.heap.size (by simp) (.inr (by omega)))).trans h1
  have hlt : k < cs.size := by omega
  have h3 : cs[k]? = some cs[k] := by simp [hlt]
  have h4 := List.all_eq_true.1 hall cs[k] (by simp)
  rw [h2, h3]
  generalize cs[k] = v at h4 ⊢
  cases v <;> simp at h4
  exact ⟨_, rfl, h4⟩

/-- What a draw of a text hands back. -/
def TextEnd (w : World) (g : Nat) (A : Option Addr) (n cap : Nat) (bs : List Int) (e : Ending) (w' : World) : Prop :=
  ∃ x : ByteArray, e = .returned (.string x) ∧ x.size ≤ 17 ∧ Src w' g A n cap bs ∧ Keep g (g + 1) w w'

theorem good (g : Nat) (A : Option Addr) (n cap : Nat) (bs : List Int) (w : World) (h : Src w g A n cap bs) :
    Calls Try.prog 44 #[.pointer (some ⟨g, 0, none⟩)] w (TextEnd w g A n cap bs) := by
  have HN := Go.Lib.hid (fun m w' h' => next g A n cap bs m w' h')
  have hg := h.lt
  have HA := Go.Lib.hid (fun o => h.below ((Below.refl w.heap.size w).alloc (Nat.le_refl _) o))
  have HK := Go.Lib.hid (fun o => keepAlloc w g o)
  clear h
  go_enter Try.func44, Try.ntmps44
  go_wp2_with fail
  refine (HN.out 12 _ (HA.out _)).mono ?_
  rintro e w1 ⟨r, rfl, hr0, hr1, hS1, hK1⟩
  obtain ⟨k, rfl⟩ : ∃ k : Nat, r = k := ⟨r.toNat, by omega⟩
  have hk : k < 12 := by omega
  obtain ⟨x, hx, hsz⟩ := lit_at _ _ 12 rfl rfl hg hK1 k hk
  have hK := (HK.out _).trans hK1
  go_wp2_with fail
  go_ret
  exact ⟨x, rfl, hsz, hS1, hK⟩

theorem drawWord (g : Nat) (A : Option Addr) (n cap : Nat) (bs : List Int) (w : World) (h : Src w g A n cap bs) :
    Calls Try.prog 31 #[.pointer (some ⟨g, 0, none⟩)] w (TextEnd w g A n cap bs) := by
  have HN := Go.Lib.hid (fun m w' h' => next g A n cap bs m w' h')
  go_enter Try.func31, Try.ntmps31
  go_wp2_with fail
  refine (HN.out 24 w h).mono ?_
  rintro e w1 ⟨r, rfl, hr0, hr1, hS1, hK1⟩
  by_cases hr : r = 0
  · subst hr
    have hg := hS1.lt
    have HA := Go.Lib.hid (fun o => hS1.below ((Below.refl w1.heap.size w1).alloc (Nat.le_refl _) o))
    have HK := Go.Lib.hid (fun o => hK1.trans (keepAlloc w1 g o))
    clear hS1 h hK1
    go_wp2_with fail
    refine (HN.out 6 _ (HA.out _)).mono ?_
    rintro e w2 ⟨r, rfl, hr0, hr1, hS2, hK2⟩
    obtain ⟨k, rfl⟩ : ∃ k : Nat, r = k := ⟨r.toNat, by omega⟩
    have hk : k < 6 := by omega
    obtain ⟨x, hx, hsz⟩ := lit_at _ _ 6 rfl rfl hg hK2 k hk
    have hK := (HK.out _).trans hK2
    go_wp2_with fail
    go_ret
    exact ⟨x, rfl, hsz, hS2, hK⟩
  · have hrb : (r == 0) = false := by simpa using hr
    go_wp2_with fail
    refine (good g A n cap bs w1 hS1).mono ?_
    rintro e w2 ⟨x, rfl, hx, hS2, hK2⟩
    go_wp2_with fail
    go_ret
    exact ⟨x, rfl, hx, hS2, hK1.trans hK2⟩

/-- The whole draw of a list. -/
theorem drawSort (A : Option Addr) (n cap : Nat) (bs : List Int) (w : World) (h : Rd w 0 w.heap.size A n (byts bs)) (hs : ∀ z ∈ bs, 0 ≤ z ∧ z ≤ 255) (hn : n ≤ 140737488355328) :
    Calls Try.prog 8 #[.slice A n cap] w fun e w' => ∃ zs q c2, e = .returned (.slice (some ⟨q, 0, none⟩) zs.length c2) ∧ Ow w' w.heap.size w'.heap.size 2 (some ⟨q, 0, none⟩) zs.length c2 (ints zs) ∧ zs.length ≤ 61 ∧ (∀ z ∈ zs, Fair z) ∧ Below w.heap.size w w' := by
  go_enter Try.func8, Try.ntmps8
  go_wp2_with fail
  refine (from_ A n cap bs w h hs hn).mono ?_
  rintro e w1 ⟨g, rfl, hg, hS1, hb1⟩
  go_wp2_with fail
  refine (drawList g A n cap bs w1 hS1).mono ?_
  rintro e w2 ⟨zs, q, c2, rfl, ho, hl, hf, hS2, hK2⟩
  go_wp2_with fail
  go_ret
  exact ⟨zs, q, c2, rfl, ho.lower hb1.size, hl, hf, hb1.trans (hK2.below hg hb1.size)⟩

/-- The whole draw of a word. -/
theorem drawIsWord (A : Option Addr) (n cap : Nat) (bs : List Int) (w : World) (h : Rd w 0 w.heap.size A n (byts bs)) (hs : ∀ z ∈ bs, 0 ≤ z ∧ z ≤ 255) (hn : n ≤ 140737488355328) :
    Calls Try.prog 11 #[.slice A n cap] w fun e w' => ∃ x : ByteArray, e = .returned (.string x) ∧ x.size ≤ 17 ∧ Below w.heap.size w w' := by
  go_enter Try.func11, Try.ntmps11
  go_wp2_with fail
  refine (from_ A n cap bs w h hs hn).mono ?_
  rintro e w1 ⟨g, rfl, hg, hS1, hb1⟩
  go_wp2_with fail
  refine (drawWord g A n cap bs w1 hS1).mono ?_
  rintro e w2 ⟨x, rfl, hx, hS2, hK2⟩
  go_wp2_with fail
  go_ret
  exact ⟨x, rfl, hx, hb1.trans (hK2.below hg hb1.size)⟩
end Go.Proofs.Ytgdibahflhlakaa
