/- Draws of lists: what is held on the way. -/
import Derived.Test.YthedanpldebjcaaMgWays6
import Derived.Test.YthedanpldebjcaaDraw2
import Derived.Test.YthedanpldebjcaaMgWays4
import Derived.Test.YthedanpldebjcaaTenB
namespace Go.Proofs.Ythedanpldebjcaa
open Go.RowKit
set_option linter.unusedSimpArgs false
set_option linter.unusedVariables false

/-- What a draw of a list holds. -/
structure StL (w : World) (g : Nat) (A : Option Addr) (n cap : Nat) (bs : List Int) (zs : List Int) (B : Option Addr) (c : Nat) (W : World) : Prop where
  src : Src W g A n cap bs
  kp : Keep g (g + 1) w W
  ow : Ow W w.heap.size W.heap.size 2 B zs.length c (ints zs)
/-- The same where it is only read from now on. -/
structure StR (w : World) (g : Nat) (A : Option Addr) (n cap : Nat) (bs : List Int) (zs : List Int) (B : Option Addr) (c : Nat) (W : World) : Prop where
  src : Src W g A n cap bs
  kp : Keep g (g + 1) w W
  rd : Rd W w.heap.size W.heap.size B zs.length (ints zs)
  le : zs.length ≤ c
section
variable {w W W1 : World} {g : Nat} {A : Option Addr} {n cap : Nat} {bs : List Int} {zs : List Int} {B : Option Addr} {c : Nat}
theorem StL.next (h : StL w g A n cap bs zs B c W) (hg : g < w.heap.size) (s : Src W1 g A n cap bs) (k : Keep g (g + 1) W W1) : StL w g A n cap bs zs B c W1 :=
  ⟨s, h.kp.trans k, (h.ow.keep k (Nat.le_refl _) (.inr hg)).raise k.size⟩
theorem StL.r (h : StL w g A n cap bs zs B c W) : StR w g A n cap bs zs B c W := ⟨h.src, h.kp, h.ow.rd, h.ow.le⟩
theorem StL.empty (s : Src W g A n cap bs) (k : Keep g (g + 1) w W) : StL w g A n cap bs [] (some ⟨W.heap.size, 0, none⟩) 0 (W.alloc (.cells #[] 2)) :=
  ⟨s.below ((Below.refl _ _).alloc (Nat.le_refl _) _), k.trans (keepAlloc W g _), ⟨own_empty' rfl k.size, fun g' hg' => by
    have : W.heap.size = g' := by simpa [Value.ownBlock] using hg'
    subst this; simp⟩⟩
theorem StL.one (s : Src W g A n cap bs) (k : Keep g (g + 1) w W) (x : Int) : StL w g A n cap bs [x] (some ⟨W.heap.size, 0, none⟩) 1 (W.alloc (.cells #[.int .i64 x] 2)) :=
  ⟨s.below ((Below.refl _ _).alloc (Nat.le_refl _) _), k.trans (keepAlloc W g _), ⟨World.ownsRow_lit W #[.int .i64 x] 1 k.size (by unfold maxLen; omega) rfl, fun g' hg' => by
    have : W.heap.size = g' := by simpa [Value.ownBlock] using hg'
    subst this; simp⟩⟩
theorem StL.append {o : Obj} {v' : Value} {z : Int} {m : Nat} (h : StL w g A n cap bs zs B c W) (hg : g < w.heap.size) (hm : zs.length = m) (hown : W1.ownsRow w.heap.size 2 1 v' (m + 1) (ints zs ++ [.int .i64 z])) (hgrow : (W.alloc o).grownBy W1 (Value.slice B m c).ownBlock) :
    ∃ B' c', v' = .slice B' (m + 1) c' ∧ StL w g A n cap bs (zs ++ [z]) B' c' W1 := by
  subst hm
  obtain ⟨B', c', rfl, ho⟩ := row_ow hown
  have hbs := h.kp.size
  have b6 : Below w.heap.size W W1 := ((Below.refl w.heap.size W).alloc hbs _).grown hgrow (by simp; omega) (fun j ej => by
    rcases h.ow.1.2 with ⟨e1, _⟩ | ⟨g1, cap1, cur, e1, hb, _, _⟩
    · rw [e1] at ej; simp [Value.ownBlock] at ej
    · rw [e1] at ej
      obtain rfl : g1 = j := by simpa [Value.ownBlock] using ej
      exact hb)
  refine ⟨B', c', rfl, h.src.below' b6 hg, h.kp.then_below b6, ?_⟩
  have e : ints (zs ++ [z]) = ints zs ++ [.int .i64 z] := by simp [ints]
  rw [e, List.length_append]
  exact ho
theorem StL.set {gd : Nat} {z : Int} (h : StL w g A n cap bs zs (some ⟨gd, 0, none⟩) c W) (hg : g < w.heap.size) (hd : w.heap.size ≤ gd) (k : Nat) : StL w g A n cap bs (zs.set k z) (some ⟨gd, 0, none⟩) c (W.setCell ⟨gd, k, none⟩ (.int .i64 z)) :=
  ⟨h.src.other (p := ⟨gd, k, none⟩) (Nat.lt_of_lt_of_le hg hd) _, h.kp.setNew (p := ⟨gd, k, none⟩) hd _, by
    have := h.ow.set_ (k := k) (.int .i64 z)
    rw [ints_set] at this
    simpa [World.setCell] using this⟩
theorem StR.next (h : StR w g A n cap bs zs B c W) (hg : g < w.heap.size) (s : Src W1 g A n cap bs) (k : Keep g (g + 1) W W1) : StR w g A n cap bs zs B c W1 :=
  ⟨s, h.kp.trans k, (h.rd.keep k (Nat.le_refl _) (.inr hg)).mono (Nat.le_refl _) k.size, h.le⟩
theorem StR.ls {lo : Nat} (h : StR w g A n cap bs zs B c W) (hz : zs.length ≤ 1048576) : Ls zs B c W := ⟨h.rd.mono (Nat.zero_le _) (Nat.le_refl _), h.le, hz⟩
theorem StR.take (h : StR w g A n cap bs zs B c W) {k : Nat} (hk : k ≤ zs.length) : StR w g A n cap bs (zs.take k) B c W := by
  refine ⟨h.src, h.kp, ⟨ints_len _, fun hn => ?_⟩, by rw [List.length_take]; have := h.le; omega⟩
  have hlt : (zs.take k).length ≤ zs.length := by rw [List.length_take]; omega
  obtain ⟨b, o, e, p, q, hc⟩ := h.rd.2 (by omega)
  refine ⟨b, o, e, p, q, fun j u hu => hc j u ?_⟩
  have hj : j < (ints (zs.take k)).length := (List.getElem?_eq_some_iff.1 hu).1
  rw [ints_len, List.length_take] at hj
  rw [← hu]
  simp [ints, List.getElem?_take_of_lt (show j < k by omega)]
end
def lenM : Value → Nat
  | .slice _ n _ => n
  | _ => 0
/-- A list that has been drawn: from lo to hi numbers. -/
def DrawnL (w : World) (g : Nat) (A : Option Addr) (n cap : Nat) (bs : List Int) (lo hi : Nat) (e : Ending) (w' : World) : Prop :=
  ∃ (zs : List Int) (B : Option Addr) (c : Nat), e = .returned (.slice B zs.length c) ∧ (lo ≤ zs.length ∧ zs.length ≤ hi) ∧ StR w g A n cap bs zs B c w'

end Go.Proofs.Ythedanpldebjcaa
