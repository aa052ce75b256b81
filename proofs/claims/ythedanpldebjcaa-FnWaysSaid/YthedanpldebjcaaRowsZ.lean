/- Rows: lists of lists of numbers that lie somewhere; appends within a region that draws. -/
import Derived.Test.YthedanpldebjcaaTenB
import Derived.OrdersHeld
import Derived.Deep.RegionHeld
namespace Go.Proofs.Ythedanpldebjcaa
open Go.RowKit
set_option linter.unusedSimpArgs false
set_option linter.unusedVariables false

/-- Cells that are rows. -/
def RowsZ (W : World) : List Value → List (List Int) → Prop
  | [], [] => True
  | u :: us, z :: zs => (∃ B d, u = .slice B z.length d ∧ Ls z B d W) ∧ RowsZ W us zs
  | _, _ => False
section
variable {W W1 : World}
theorem RowsZ.len : ∀ {us : List Value} {zs : List (List Int)}, RowsZ W us zs → us.length = zs.length
  | [], [], _ => rfl
  | _ :: _, _ :: _, h => by simp [RowsZ.len h.2]
theorem RowsZ.below (b : Below W.heap.size W W1) : ∀ {us : List Value} {zs : List (List Int)}, RowsZ W us zs → RowsZ W1 us zs
  | [], [], _ => trivial
  | _ :: _, _ :: _, ⟨⟨B, d, e, l⟩, h⟩ => ⟨⟨B, d, e, l.below b⟩, h.below b⟩
theorem RowsZ.at_ : ∀ {us : List Value} {zs : List (List Int)} {i : Nat}, RowsZ W us zs → i < zs.length → ∃ B d, us[i]? = some (.slice B (zs.getD i []).length d) ∧ Ls (zs.getD i []) B d W
  | [], [], _, _, hi => absurd hi (by simp)
  | u :: us, z :: zs, 0, ⟨⟨B, d, e, l⟩, _⟩, _ => ⟨B, d, by simp [e], by simpa using l⟩
  | u :: us, z :: zs, i + 1, ⟨_, h⟩, hi => by
    obtain ⟨B, d, e, l⟩ := h.at_ (i := i) (by simpa using hi)
    exact ⟨B, d, by simpa using e, by simpa using l⟩
theorem RowsZ.take : ∀ {us : List Value} {zs : List (List Int)} (j : Nat), RowsZ W us zs → RowsZ W (us.take j) (zs.take j)
  | [], [], j, _ => by simp [RowsZ]
  | u :: us, z :: zs, 0, _ => by simp [RowsZ]
  | u :: us, z :: zs, j + 1, ⟨h1, h2⟩ => ⟨h1, h2.take j⟩
theorem RowsZ.drop : ∀ {us : List Value} {zs : List (List Int)} (j : Nat), RowsZ W us zs → RowsZ W (us.drop j) (zs.drop j)
  | [], [], j, _ => by simp [RowsZ]
  | u :: us, z :: zs, 0, h => h
  | u :: us, z :: zs, j + 1, ⟨_, h2⟩ => h2.drop j
theorem RowsZ.app : ∀ {us vs : List Value} {zs ys : List (List Int)}, RowsZ W us zs → RowsZ W vs ys → RowsZ W (us ++ vs) (zs ++ ys)
  | [], vs, [], ys, _, h => h
  | u :: us, vs, z :: zs, ys, ⟨h1, h2⟩, h => ⟨h1, h2.app h⟩
theorem RowsZ.one {z : List Int} {B : Option Addr} {d : Nat} (l : Ls z B d W) : RowsZ W [.slice B z.length d] [z] := ⟨⟨B, d, rfl, l⟩, trivial⟩
theorem RowsZ.cells : ∀ {us : List Value} {zs : List (List Int)}, RowsZ W us zs → ∀ u ∈ us, u.oneCell' = true
  | [], _, _, v, hv => by cases hv
  | u :: us, z :: zs, ⟨⟨B, d, e, _⟩, h⟩, v, hv => by
    rcases List.mem_cons.1 hv with rfl | hv
    · subst e; rfl
    · exact h.cells v hv
end
/-- Rows that lie somewhere. -/
structure LsZ (zs : List (List Int)) (B : Option Addr) (c : Nat) (W : World) : Prop where
  us : ∃ us, Rd W 0 W.heap.size B zs.length us ∧ RowsZ W us zs
  le : zs.length ≤ c
  few : zs.length ≤ 1048576
theorem LsZ.below {zs : List (List Int)} {B : Option Addr} {c : Nat} {W W1 : World} (h : LsZ zs B c W) (b : Below W.heap.size W W1) : LsZ zs B c W1 := by
  obtain ⟨us, r, z⟩ := h.us
  exact ⟨⟨us, (r.below b (Nat.le_refl _)).mono (Nat.le_refl _) b.size, z.below b⟩, h.le, h.few⟩
/-- Row k: where its header lies, and the row. -/
theorem LsZ.at_ {zs : List (List Int)} {B : Option Addr} {c : Nat} {W : World} (h : LsZ zs B c W) {k : Nat} (hk : k < zs.length) : ∃ b o D d, B = some ⟨b, o, none⟩ ∧ b < W.heap.size ∧ W.cell? ⟨b, o + k, none⟩ = some (.slice D (zs.getD k []).length d) ∧ Ls (zs.getD k []) D d W := by
  obtain ⟨us, r, z⟩ := h.us
  obtain ⟨b, o, e, -, q, hc⟩ := r.at_ hk
  obtain ⟨D, d, hu, l⟩ := z.at_ hk
  exact ⟨b, o, D, d, e, q, hc k _ hu, l⟩
theorem infoRow : (Try.prog.info? 24).map (fun i => (i.zero, i.size, i.bytes)) = some (some (.slice none 0 0), 1, 24) := by kernel_rfl
/-- An empty literal: a block of its own with no cell. -/
theorem own_none {w : World} {base : Nat} {t : TypeId} (hb : base ≤ w.heap.size) : (w.alloc (.cells #[] t)).ownsRow base t 1 (.slice (some ⟨w.heap.size, 0, none⟩) 0 0) 0 [] :=
  ⟨rfl, .inr ⟨w.heap.size, 0, #[], rfl, hb, heap_alloc_new w _, Nat.le_refl _, Nat.zero_le _, rfl, rfl⟩⟩
/-- append onto a slice that is not nil, at a step of a region that draws its order. -/
theorem op_app {P : Program} {ops : Array Oper} {o : Oper} {a : Act} {w : World} {K : Act → World → Prop} {Q : Exit → Act → World → Prop} {E : Prop} (hgd : o.guard = none) (s x : Operand) (t : TypeId)
    (ho : o.op = .call { callee := .builtin .append, args := #[s, x], argTypes := #[t, t] })
    (base : Nat) (e : TypeId) (i : TypeInfo) (z : Value) (bytes : Nat) (ht : P.underlying t = some (.slice e)) (hi : P.info? e = some i) (hz : i.zero = some z)
    (hsize : i.size = 1) (hby : i.bytes = bytes) (hzs : z.cells.size = 1)
    (g n cap : Nat) (xs : List Value) (hs : a.eval s = .slice (some ⟨g, 0, none⟩) n cap) (hown : w.ownsRow base e 1 (.slice (some ⟨g, 0, none⟩) n cap) n xs)
    (ad : Addr) (m c : Nat) (news : List Value) (hx : a.eval x = .slice (some ad) m c) (hl : news.length = m) (hnews : ∀ j u, news[j]? = some u → w.cell? (ad.add j) = some u) (h1 : ∀ u ∈ news, u.oneCell' = true)
    (h63 : n + m ≤ maxLen) (hbytes : (n + m) * bytes ≤ 140737488355328) (hbase : base ≤ w.heap.size) (N : Nat) (hN : n + m = N) (L : List Value) (hL : xs ++ news = L)
    (h : ∀ g' cap' w', w'.ownsRow base e 1 (.slice (some ⟨g', 0, none⟩) N cap') N L → w.grownBy w' (some g) → (g' = g ∨ g' = w.heap.size) → g' < w'.heap.size → K (a.put o.dst (.slice (some ⟨g', 0, none⟩) N cap')) w') :
    if Region.wanted o (yielded ops a.tmps) = true then Oper.wp P o a w K Q else E := by
  have hw : Region.wanted o (yielded ops a.tmps) = true := by simp [Region.wanted, hgd]
  rw [if_pos hw]
  subst hN
  subst hL
  obtain ⟨v', w', hr, h2, h3, h4, h5⟩ := run_append_own_at (P := P) w base t o.type e i z 1 bytes ht hi hz hsize hby hzs (by omega) _ n xs hown ad m c news (by omega) hnews h1 h63 hbytes hbase
  obtain ⟨g', cap', rfl, hlt⟩ : ∃ g' cap', v' = .slice (some ⟨g', 0, none⟩) (n + m) cap' ∧ g' < w'.heap.size := by
    rcases h2.2 with ⟨hv, _⟩ | ⟨g', cap', cur, hv, _, hg, _⟩
    · have := (h4.1 hv).1
      cases this
    · subst hv
      exact ⟨g', cap', rfl, (h2.lt g' rfl).2⟩
  unfold Oper.wp execOp
  simp only [ho, resolve, invoke, builtin, Sem.run_bind, Sem.run_pure, Result.andThen_ok, List.map_toArray, List.map_cons, List.map_nil, hs, hx, hr]
  refine h g' cap' w' h2 h3 ?_ hlt
  rcases h5 with h5 | h5
  · exact .inl (by simpa [Value.ownBlock] using h5)
  · exact .inr (by simpa [Value.ownBlock] using h5)

theorem own_top {base n g cap : Nat} {t : TypeId} {us : List Value} {W : World} (o : W.ownsRow base t 1 (.slice (some ⟨g, 0, none⟩) n cap) n us) : Ow W base W.heap.size t (some ⟨g, 0, none⟩) n cap us :=
  ⟨o, fun g' e => (o.lt g' e).2⟩
/-- A list of rows of the call's own; the rows lie somewhere. -/
structure OwZ (base : Nat) (zs : List (List Int)) (g cap : Nat) (W : World) : Prop where
  us : ∃ us, W.ownsRow base 24 1 (.slice (some ⟨g, 0, none⟩) zs.length cap) zs.length us ∧ RowsZ W us zs
theorem OwZ.lt {base : Nat} {zs : List (List Int)} {g cap : Nat} {W : World} (h : OwZ base zs g cap W) : base ≤ g ∧ g < W.heap.size := by
  obtain ⟨us, o, -⟩ := h.us
  exact o.lt g rfl
theorem OwZ.below {base : Nat} {zs : List (List Int)} {g cap : Nat} {W W1 : World} (h : OwZ base zs g cap W) (b : Below W.heap.size W W1) : OwZ base zs g cap W1 := by
  have hl := h.lt
  obtain ⟨us, o, r⟩ := h.us
  have hO : Ow W base W.heap.size 24 (some ⟨g, 0, none⟩) zs.length cap us := own_top o
  exact ⟨⟨us, (hO.below b (Nat.le_refl _)).1, r.below b⟩⟩
theorem OwZ.ls {base : Nat} {zs : List (List Int)} {g cap : Nat} {W : World} (h : OwZ base zs g cap W) (hf : zs.length ≤ 1048576) : LsZ zs (some ⟨g, 0, none⟩) cap W := by
  have hl := h.lt
  obtain ⟨us, o, r⟩ := h.us
  have hO : Ow W base W.heap.size 24 (some ⟨g, 0, none⟩) zs.length cap us := own_top o
  exact ⟨⟨us, hO.rd.mono (Nat.zero_le _) (Nat.le_refl _), r⟩, hO.le, hf⟩
end Go.Proofs.Ythedanpldebjcaa
