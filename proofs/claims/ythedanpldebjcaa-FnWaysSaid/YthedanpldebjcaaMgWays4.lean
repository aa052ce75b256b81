/- Draws: what stays, and an empty list of one's own. -/
import Derived.Test.YthedanpldebjcaaDraw2
import Derived.Deep.RegionHeld3
namespace Go.Proofs.Ythedanpldebjcaa
open Go.RowKit
theorem keepAlloc (w : World) (g : Nat) (o : Obj) : Keep g (g + 1) w (w.alloc o) := Keep.of_below ((Below.refl w.heap.size w).alloc (Nat.le_refl _) o) (Nat.le_refl _) _ _
theorem Src.below' {w w' : World} {g B : Nat} {A : Option Addr} {n cap : Nat} {bs : List Int} (h : Src w g A n cap bs) (hb : Below B w w') (hB : g < B) : Src w' g A n cap bs := by
  have hc : ∀ j, w'.cell? ⟨g, j, none⟩ = w.cell? ⟨g, j, none⟩ := fun j => World.cell?_of_block (hb.block g hB)
  refine ⟨Nat.lt_of_lt_of_le h.lt hb.size, (hc 0).trans h.code, ?_, ?_, fun j => ?_, h.rd.below hb (by omega), h.small, h.many⟩
  · obtain ⟨k, hk, hp⟩ := h.place
    exact ⟨k, hk, (hc 1).trans hp⟩
  · obtain ⟨z, h0, h1, hp⟩ := h.seed
    exact ⟨z, h0, h1, (hc 2).trans hp⟩
  · have := h.free j
    simp only [World.frozen?] at this ⊢
    rw [hb.block g hB]
    exact this
theorem Keep.then_below {w w1 w2 : World} {g : Nat} (h : Keep g (g + 1) w w1) (hb : Below w.heap.size w1 w2) : Keep g (g + 1) w w2 :=
  ⟨hb.os.trans h.os, hb.tape.trans h.tape, hb.output.trans h.output, Nat.le_trans h.size hb.size, fun k hk ho => (hb.block k hk).trans (h.block k hk ho)⟩

theorem own_empty' {w : World} {base g : Nat} {t : TypeId} (hg : w.heap.size = g) (hb : base ≤ g) : (w.alloc (.cells #[] t)).ownsRow base t 1 (.slice (some ⟨g, 0, none⟩) 0 0) 0 [] := by
  subst hg
  exact ⟨rfl, .inr ⟨w.heap.size, 0, #[], rfl, hb, heap_alloc_new w _, Nat.le_refl _, Nat.zero_le _, rfl, rfl⟩⟩

theorem Keep.setNew {w w' : World} {lo hi : Nat} (h : Keep lo hi w w') {p : Addr} (hp : w.heap.size ≤ p.block) (u : Value) : Keep lo hi w (w'.setCell p u) :=
  ⟨h.os, h.tape, h.output, by simpa [World.setCell] using h.size, fun k hk ho => (Below.heap_setCell _ _ _ _ (by omega)).trans (h.block k hk ho)⟩
theorem Src.other {w : World} {g : Nat} {A : Option Addr} {n cap : Nat} {bs : List Int} (h : Src w g A n cap bs) {p : Addr} (hp : g < p.block) (u : Value) : Src (w.setCell p u) g A n cap bs := by
  have hk : Keep p.block (p.block + 1) w (w.setCell p u) := (Keep.refl _ _ w).setCell (Nat.le_refl _) (Nat.lt_succ_self _) u
  have hb : ∀ k, k < w.heap.size → k ≤ g → (w.setCell p u).heap[k]? = w.heap[k]? := fun k h1 h2 => hk.block k h1 (.inl (by omega))
  have hc : ∀ j, (w.setCell p u).cell? ⟨g, j, none⟩ = w.cell? ⟨g, j, none⟩ := fun j => World.cell?_of_block (hb g h.lt (Nat.le_refl _))
  refine ⟨Nat.lt_of_lt_of_le h.lt hk.size, (hc 0).trans h.code, ?_, ?_, fun j => ?_, h.rd.of_blocks fun k _ q => hb k (by have := h.lt; omega) (by omega), h.small, h.many⟩
  · obtain ⟨k, hk, hp⟩ := h.place
    exact ⟨k, hk, (hc 1).trans hp⟩
  · obtain ⟨z, h0, h1, hp⟩ := h.seed
    exact ⟨z, h0, h1, (hc 2).trans hp⟩
  · have := h.free j
    simp only [World.frozen?] at this ⊢
    rw [hb g h.lt (Nat.le_refl _)]
    exact this

end Go.Proofs.Ythedanpldebjcaa
namespace Go.Proofs.Ythedanpldebjcaa
open Go.RowKit

/-- What a draw of a number hands back: a number of which p holds. -/
def NumEnd (w : World) (g : Nat) (A : Option Addr) (n cap : Nat) (bs : List Int) (p : Int → Prop) (e : Ending) (w' : World) : Prop :=
  ∃ x : Int, e = .returned (.int .i64 x) ∧ p x ∧ Src w' g A n cap bs ∧ Keep g (g + 1) w w'

theorem pick (g : Nat) (A : Option Addr) (n cap : Nat) (bs : List Int) (B : Option Addr) (m c2 : Nat) (zs : List Int) (lo hi : Nat) (w : World) (h : Src w g A n cap bs) (hz : Rd w lo hi B m (ints zs)) (hm : 0 < m) (hg : g < lo) (hhi : hi ≤ w.heap.size) (hbig : m ≤ 140737488355328) :
    Calls Try.prog 78 #[.pointer (some ⟨g, 0, none⟩), .slice B m c2] w (NumEnd w g A n cap bs (· ∈ zs)) := by
  have hl : zs.length = m := by have := hz.len; rwa [ints_len] at this
  have HN := Go.Lib.hid (next g A n cap bs m w h)
  have HR := Go.Lib.hid (fun w' (hk : Keep g (g + 1) w w') => hz.keep hk hhi (.inr (by omega)))
  go_enter Try.func78, Try.ntmps78
  go_wp2_with fail
  refine HN.out.mono ?_
  rintro e w1 ⟨r, rfl, hr0, hr1, hS1, hK1⟩
  have hr : r < m := by omega
  obtain ⟨k, rfl⟩ : ∃ k : Nat, r = k := ⟨r.toNat, by omega⟩
  have hkm : k < m := by omega
  obtain ⟨b, o, rfl, _, _, hcs⟩ := (HR.out w1 hK1).at_ hkm
  have hcell := hcs k _ (ints_at zs k (by omega))
  have hmem : zs.getD k 0 ∈ zs := by
    have : k < zs.length := by omega
    simp [List.getD, this]
  generalize zs.getD k 0 = x at hcell hmem
  clear hcs
  go_wp2_with fail
  go_ret
  exact ⟨_, rfl, hmem, hS1, hK1⟩

/-- A list literal in a block of its own. -/
theorem rd_new {w : World} {g0 : Nat} {zs : List Int} {t : TypeId} {cs : Array Value} (hg : w.heap.size = g0) (hc : cs = (ints zs).toArray) : Rd (w.alloc (.cells cs t)) g0 (g0 + 1) (some ⟨g0, 0, none⟩) zs.length (ints zs) := by
  subst hg
  subst hc
  refine ⟨ints_len zs, fun _ => ⟨w.heap.size, 0, rfl, Nat.le_refl _, Nat.lt_succ_self _, fun j u hu => ?_⟩⟩
  have hh := heap_alloc_new w (.cells (ints zs).toArray t)
  simp only [World.cell?, hh, Option.isSome_none, Bool.false_eq_true, if_false, Nat.zero_add]
  simpa using hu

/-- A pick out of a list literal. -/
theorem pickNew (g : Nat) (A : Option Addr) (n cap : Nat) (bs : List Int) (w : World) (h : Src w g A n cap bs) (zs : List Int) (m : Nat) (hm : zs.length = m) (h0 : 0 < m) (hbig : m ≤ 140737488355328) (p : Int → Prop) (hp : ∀ x ∈ zs, p x) {t : TypeId} {cs : Array Value} (hc : cs = (ints zs).toArray) :
    Calls Try.prog 78 #[.pointer (some ⟨g, 0, none⟩), .slice (some ⟨w.heap.size, 0, none⟩) m m] (w.alloc (.cells cs t)) (NumEnd w g A n cap bs p) := by
  have hk := keepAlloc w g (.cells cs t)
  have hS : Src (w.alloc (.cells cs t)) g A n cap bs := h.below ((Below.refl _ _).alloc (Nat.le_refl _) _)
  have hr := rd_new (w := w) (t := t) rfl hc
  rw [hm] at hr
  refine (pick g A n cap bs _ m m zs w.heap.size (w.heap.size + 1) _ hS hr h0 h.lt (by simp) hbig).mono ?_
  rintro e w1 ⟨x, rfl, hx, hS1, hK1⟩
  exact ⟨x, rfl, hp x hx, hS1, hk.trans hK1⟩
end Go.Proofs.Ythedanpldebjcaa
