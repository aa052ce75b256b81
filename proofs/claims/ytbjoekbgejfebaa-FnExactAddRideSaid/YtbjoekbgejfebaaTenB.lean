/- What the contracts of chapter 7 lean on: answers, rows in the making, small functions. -/
import Derived.Test.YtbjoekbgejfebaaInts
import Derived.Test.YtbjoekbgejfebaaNum
import Derived.Test.YtbjoekbgejfebaaBox
import Derived.Test.YtbjoekbgejfebaaHold
import Derived.Test.YtbjoekbgejfebaaPlainTen
import Derived.Deep.RegionHeld3
import Derived.Maps.AppendAt
import Derived.Handy
namespace Go.Proofs.Ytbjoekbgejfebaa
open Go.RowKit
set_option linter.unusedSimpArgs false
set_option linter.unusedVariables false

def IsB (w : World) (b : Bool) (e : Ending) (w' : World) : Prop := e = .returned (.bool b) ∧ Below w.heap.size w w'
def IsV (w : World) (v : Value) (e : Ending) (w' : World) : Prop := e = .returned v ∧ Below w.heap.size w w'
theorem upB {a w w1 : World} (h : Below a.heap.size a w) (k : Below w.heap.size w w1) : Below a.heap.size a w1 := h.trans (k.mono h.size)
def inB (n a b : Int) : Bool := decide (a ≤ n) && decide (n ≤ b)
theorem inB_iff {n a b : Int} : inB n a b = true ↔ a ≤ n ∧ n ≤ b := by simp [inB]
theorem inN2 (n a b : Int) (w : World) : Calls Try.prog 66 #[.int .i64 n, .int .i64 a, .int .i64 b] w (Just (.bool (inB n a b)) w) := inN n a b w
theorem implInR (n a b : Int) (w : World) :
    Calls Try.prog 63 #[.int .i64 n, .int .i64 a, .int .i64 b] w (Just (.bool (inB n a b)) w) := by
  by_cases h1 : a ≤ n
  · go_enter Try.func63, Try.ntmps63
    go_wp2
    go_ret
    exact ⟨by simp [inB, h1], rfl⟩
  · go_enter Try.func63, Try.ntmps63
    go_wp2
    go_ret
    exact ⟨by simp [inB]; intro; omega, rfl⟩

theorem Rd.here {w : World} {lo hi n : Nat} {A : Option Addr} {xs : List Value} (h : Rd w lo hi A n xs) : Rd w 0 w.heap.size A n xs := by
  refine ⟨h.1, fun hn => ?_⟩
  obtain ⟨b, off, e, -, -, hc⟩ := h.2 hn
  have hx : 0 < xs.length := by have := h.1; omega
  exact ⟨b, off, e, Nat.zero_le _, World.block_lt_of_cell? w _ (hc 0 xs[0] (List.getElem?_eq_getElem hx)), hc⟩
theorem ow_nil (w : World) (lo hi : Nat) (t : TypeId) : Ow w lo hi t none 0 0 [] := ⟨⟨rfl, .inl ⟨rfl, rfl⟩⟩, fun g hg => by simp [Value.ownBlock] at hg⟩
theorem Ow.raise {w : World} {lo hi hi' n cap : Nat} {t : TypeId} {A : Option Addr} {xs : List Value} (h : Ow w lo hi t A n cap xs) (k : hi ≤ hi') : Ow w lo hi' t A n cap xs := ⟨h.1, fun g hg => Nat.lt_of_lt_of_le (h.2 g hg) k⟩
/-- A call's answer: a list of int64 of its own, and a number. -/
def GivesLN (p : List Int × Int) (w : World) (e : Ending) (w' : World) : Prop :=
  ∃ A cap, e = .returned (.tuple #[.slice A p.1.length cap, .int .i64 p.2]) ∧ Ow w' w.heap.size w'.heap.size 2 A p.1.length cap (ints p.1) ∧ Below w.heap.size w w'
theorem GivesLN.nil {p : List Int × Int} {w w' : World} {z : Int} (hp : p = ([], z)) (hb : Below w.heap.size w w') : GivesLN p w (.returned (.tuple #[.slice none 0 0, .int .i64 z])) w' := by
  subst hp
  exact ⟨none, 0, rfl, ow_nil _ _ _ _, hb⟩
theorem GivesLN.up {p : List Int × Int} {a w w' : World} {e : Ending} (h : GivesLN p w e w') (hb : Below a.heap.size a w) : GivesLN p a e w' := by
  obtain ⟨A, cap, he, ho, b⟩ := h
  exact ⟨A, cap, he, ho.lower hb.size, upB hb b⟩
theorem GivesLN.own {p : List Int × Int} {us : List Int} {w w' : World} {D : Option Addr} {n cap : Nat} (hp : p = (us, 0)) (hl : us.length = n) (ho : Ow w' w.heap.size w'.heap.size 2 D n cap (ints us)) (hb : Below w.heap.size w w') : GivesLN p w (.returned (.tuple #[.slice D n cap, .int .i64 0])) w' := by
  subst hp
  subst hl
  exact ⟨D, cap, rfl, ho, hb⟩
/-- A call's answer: two numbers. -/
def Gives2 (p : Int × Int) (w : World) (e : Ending) (w' : World) : Prop := e = .returned (.tuple #[.int .i64 p.1, .int .i64 p.2]) ∧ Below w.heap.size w w'
theorem Gives2.of {p : Int × Int} {a b : Int} {w w' : World} (hp : p = (a, b)) (hb : Below w.heap.size w w') : Gives2 p w (.returned (.tuple #[.int .i64 a, .int .i64 b])) w' := by
  subst hp
  exact ⟨rfl, hb⟩
theorem ints_set (zs : List Int) (k : Nat) (z : Int) : (ints zs).set k (.int .i64 z) = ints (zs.set k z) := by simp [ints, List.map_set]
theorem ints_zeros (n : Nat) : List.replicate n (Value.int .i64 0) = ints (List.replicate n 0) := by simp [ints]
theorem infoI64 : (Try.prog.info? 2).map (fun i => (i.zero, i.size, i.bytes)) = some (some (.int .i64 0), 1, 8) := by kernel_rfl
theorem cell_far {w : World} {b1 o1 b2 o2 : Nat} {v : Value} (h : b1 ≠ b2) : (w.setCell ⟨b2, o2, none⟩ v).cell? ⟨b1, o1, none⟩ = w.cell? ⟨b1, o1, none⟩ := World.cell?_setCell_other _ _ _ _ (by simp [h])
theorem row_ow {w : World} {base k : Nat} {t : TypeId} {v : Value} {xs : List Value} (h : w.ownsRow base t 1 v k xs) : ∃ A cap, v = .slice A k cap ∧ Ow w base w.heap.size t A k cap xs := by
  rcases h.2 with ⟨rfl, h0⟩ | ⟨g, cap, cur, rfl, r⟩
  · subst h0
    exact ⟨none, 0, rfl, h, fun g hg => by simp [Value.ownBlock] at hg⟩
  · exact ⟨_, _, rfl, h, fun g' hg' => (h.lt g' hg').2⟩
/-- A list in the making. -/
structure Gat (w : World) (zs : List Int) (v : Value) (wr : World) : Prop where
  row : wr.ownsRow w.heap.size 2 1 v zs.length (ints zs)
  b : Below w.heap.size w wr
theorem Gat.start {w w1 : World} (hb : Below w.heap.size w w1) : Gat w [] (.slice (some ⟨w1.heap.size, 0, none⟩) 0 0) (w1.alloc (.cells #[] 2)) :=
  ⟨⟨rfl, .inr ⟨w1.heap.size, 0, #[], rfl, hb.size, heap_alloc_new w1 _, Nat.le_refl _, Nat.zero_le _, rfl, rfl⟩⟩, hb.alloc hb.size _⟩
theorem Gat.nil {w w1 : World} (hb : Below w.heap.size w w1) : Gat w [] (.slice none 0 0) w1 := ⟨World.ownsRow_nil _ _ _ _, hb⟩
theorem Gat.step {w wr w3 : World} {zs : List Int} {v v' : Value} {z : Int} {o : Obj} (h : Gat w zs v wr) (hown : w3.ownsRow w.heap.size 2 1 v' (zs.length + 1) (ints zs ++ [.int .i64 z])) (hgrow : (wr.alloc o).grownBy w3 v.ownBlock) : Gat w (zs ++ [z]) v' w3 := by
  have e : ints (zs ++ [z]) = ints zs ++ [.int .i64 z] := by simp [ints]
  refine ⟨by rw [e, List.length_append]; exact hown, h.b.trans ((((Below.refl w.heap.size wr).alloc h.b.size o).grown hgrow (by simp; have := h.b.size; omega) fun j ej => ?_))⟩
  rcases h.row.2 with ⟨rfl, _⟩ | ⟨g, cap, cur, rfl, hb, _, _⟩
  · simp [Value.ownBlock] at ej
  · obtain rfl : g = j := by simpa [Value.ownBlock] using ej
    exact hb
theorem Gat.done {w wr : World} {zs : List Int} {v : Value} {p : List Int × Int} (h : Gat w zs v wr) (hp : p = (zs, 0)) : GivesLN p w (.returned (.tuple #[v, .int .i64 0])) wr := by
  subst hp
  obtain ⟨A, cap, rfl, ho⟩ := row_ow h.row
  exact ⟨A, cap, rfl, ho, h.b⟩
theorem Gat.drewN {w wr : World} {zs : List Int} {v : Value} (h : Gat w zs v wr) (m : Nat) : Gat w zs v (wr.drewN m) := ⟨h.row, below_drewN h.b m⟩
theorem Gat.form {w wr : World} {zs : List Int} {v : Value} (h : Gat w zs v wr) : ∃ A cap, v = .slice A zs.length cap ∧ Ow wr w.heap.size wr.heap.size 2 A zs.length cap (ints zs) := row_ow h.row
theorem results_tmp3 {fn : Func} {t u v : Tmp} (h : fn.results = #[.tmp t, .tmp u, .tmp v]) (tmps : Array Value) (P : Program) (w : World) :
    (results fn tmps).run P w = .ok (.tuple #[tmps.getD t undef, tmps.getD u undef, tmps.getD v undef]) w := by
  simp [results, h]
theorem results_four {fn : Func} {t u v x : Tmp} (h : fn.results = #[.tmp t, .tmp u, .tmp v, .tmp x]) (tmps : Array Value) (P : Program) (w : World) :
    (results fn tmps).run P w = .ok (.tuple #[tmps.getD t undef, tmps.getD u undef, tmps.getD v undef, tmps.getD x undef]) w := by
  simp [results, h]
theorem news_of {w : World} {b o : Nat} {zs : List Int} (hc : ∀ j u, (ints zs)[j]? = some u → w.cell? ⟨b, o + j, none⟩ = some u) : ∀ j u, (ints zs)[j]? = some u → w.cell? ((⟨b, o, none⟩ : Addr).add j) = some u := fun j u hu => by
  rw [Addr.add_mid]
  exact hc j u hu
theorem ints_one (zs : List Int) : ∀ u ∈ ints zs, u.oneCell' = true := fun u hu => by
  obtain ⟨z, -, rfl⟩ := List.mem_map.1 hu
  rfl
theorem below_of_drewN {W W1 : World} {d : Nat} (h : W1 = W.drewN d) : Below W.heap.size W W1 := by subst h; exact below_drewN (Below.refl _ _) d
/-- A list that lies somewhere. -/
structure Ls (zs : List Int) (B : Option Addr) (c : Nat) (W : World) : Prop where
  rd : Rd W 0 W.heap.size B zs.length (ints zs)
  le : zs.length ≤ c
  few : zs.length ≤ 1048576
theorem Ls.below {zs : List Int} {B : Option Addr} {c : Nat} {W W1 : World} (h : Ls zs B c W) (b : Below W.heap.size W W1) : Ls zs B c W1 := ⟨(h.rd.below b (Nat.le_refl _)).mono (Nat.le_refl _) b.size, h.le, h.few⟩
theorem Ls.drewN {zs : List Int} {B : Option Addr} {c : Nat} {W : World} (h : Ls zs B c W) (m : Nat) : Ls zs B c (W.drewN m) := ⟨h.rd.drewN m, h.le, h.few⟩
theorem Ls.of {zs : List Int} {B : Option Addr} {c : Nat} {W : World} {lo hi : Nat} (h : Rd W lo hi B zs.length (ints zs)) (hc : zs.length ≤ c) (hz : zs.length ≤ 1048576) : Ls zs B c W := ⟨h.here, hc, hz⟩
theorem lst0 {W W1 : World} {zs : List Int} {B : Option Addr} {c : Nat} (o : Ow W1 W.heap.size W1.heap.size 2 B zs.length c (ints zs)) (hf : zs.length ≤ 1048576) : Ls zs B c W1 := ⟨o.rd.mono (Nat.zero_le _) (Nat.le_refl _), o.le, hf⟩
theorem Ls.at_ {zs : List Int} {B : Option Addr} {c : Nat} {W : World} (h : Ls zs B c W) {k : Nat} (hk : k < zs.length) : ∃ b o, B = some ⟨b, o, none⟩ ∧ b < W.heap.size ∧ ∀ j, j < zs.length → W.cell? ⟨b, o + j, none⟩ = some (.int .i64 (zs.getD j 0)) := by
  obtain ⟨b, o, e, -, q, hc⟩ := h.rd.at_ hk
  exact ⟨b, o, e, q, fun j hj => hc j _ (ints_at zs j hj)⟩
/-- At most draws lie between. -/
def Eqw (w w' : World) : Prop := ∃ m, w' = w.drewN m
theorem Eqw.refl (w : World) : Eqw w w := ⟨0, rfl⟩
theorem Eqw.drewN {w w' : World} (m : Nat) : Eqw w w' → Eqw w (w'.drewN m)
  | ⟨k, e⟩ => ⟨k + m, by rw [e]; simp [World.drewN]; omega⟩
theorem Eqw.below {w w' : World} : Eqw w w' → Below w.heap.size w w'
  | ⟨m, e⟩ => by subst e; exact below_drewN (Below.refl _ _) m
theorem Ls.eqw {zs : List Int} {B : Option Addr} {c : Nat} {W W1 : World} (h : Ls zs B c W) : Eqw W W1 → Ls zs B c W1
  | ⟨m, e⟩ => by subst e; exact h.drewN m
end Go.Proofs.Ytbjoekbgejfebaa
