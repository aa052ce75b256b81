/- A round of a loop over an iterator, at the wide fence: a region in it goes as everywhere. What a loop's invariant says of blocks that lay ahead of the loop. No program. -/
import Derived.RangeFuncNested
import Derived.RangeFuncBound
import Derived.RangeFuncCalls
import Derived.RangeFuncLeaves
import Derived.RangeFuncBox
import Derived.WalkKit
import Derived.OwnWalkIn
import Derived.TacticsInMore
import Derived.LoopNIn
import Derived.LoopIn
import Derived.Deep.RegionHeld3
import Derived.Test.YtlmbcidijbohiaaMem
import Derived.Test.YtlmbcidijbohiaaBox
namespace Go.Proofs.Ytlmbcidijbohiaa
open Go.RowKit

def plainOp (o : Oper) : Bool := match o.op with
  | .defer _ => false
  | _ => true
theorem plainOp_ne {o : Oper} (h : plainOp o = true) (c) : o.op ≠ .defer c := by
  intro e
  simp [plainOp, e] at h

section
variable {l n : Nat} {P : Program} {ops : Array Oper} {Q : Exit → Act → World → Prop} {md : Region.Mode} {S : World → Prop}

theorem oper_round {o : Oper} {a : Act} {w : World} {K : Act → World → Prop} (hp : plainOp o = true) (h : o.wp P a w K Q) : o.wpIn (Fence.wide.inRound l) n P a w K Q := by
  refine ⟨fun _ _ => trivial, ?_⟩
  rw [Oper.semAt_eq _ _ _ (plainOp_ne hp)]
  unfold Oper.wp at h
  generalize (execOp a.eval o).run P w = r at *
  cases r with
  | ok x w' =>
    cases x <;> simp only [Oper.upon, Oper.uponIn] at h ⊢ <;>
      first
        | exact h
        | exact ⟨fun hd => by simp [Fence.wide] at hd, CallsIn.inRound l (callsIn_wide.2 (h.mono fun e w'' he => by cases e <;> exact he))⟩
        | exact ⟨fun hd => by simp [Fence.wide] at hd, fun c cs _ => let ⟨v, w1, r1, s1⟩ := h c cs; ⟨v, w1, r1, stepsIn_wide.2 s1⟩⟩
  | halt x w' => cases x <;> simp only [Oper.upon, Oper.uponIn] at h ⊢ <;> exact h

theorem any_round (hQ : ∀ a w, ¬ Q .outgrown a w) (hnd : ∀ (i : Nat) (o : Oper), ops[i]? = some o → plainOp o = true) : ∀ (fuel : Nat) (listed : Array Bool) (a : Act) (w : World),
    wpAny P md ops Q fuel listed a w → wpAnyIn (Fence.wide.inRound l) n P md ops Q fuel listed a w
  | 0, _, _, _, h => h
  | fuel + 1, listed, a, w, h => by
    refine ⟨h.1, fun i hi => ?_⟩
    have h2 := h.2 i hi
    unfold wpOp at h2
    unfold wpOpIn
    split
    · rename_i e
      simp only [e] at h2
      exact any_round hQ hnd fuel _ a w h2
    · rename_i o e
      simp only [e] at h2
      split
      · rename_i hw
        simp only [hw, if_true] at h2
        rcases h2 with h2 | ⟨_, a1, w1, h3⟩
        · exact Oper.wpIn_mono (fun a w hh => any_round hQ hnd fuel _ a w hh) (oper_round (hnd i o e) h2)
        · exact absurd h3 (hQ a1 w1)
      · rename_i hw
        simp only [hw] at h2
        exact ⟨fun _ _ => trivial, any_round hQ hnd fuel _ _ w h2⟩

theorem wpIn_round_held {id : Nat} {a : Act} {w : World} (S : World → Prop) (hm : P.follows .mixedOrders = true) (hnd : ops.all plainOp = true) (hQ : ∀ a w, ¬ Q .outgrown a w) (hS : S w.drew)
    (h : S w.drew → wpAnyH P .any ops Q S ops.size (Array.replicate ops.size false) a w.drew) : (Code.region id ops true).wpIn (Fence.wide.inRound l) n P Q a w :=
  wpIn_region_any hm (any_round hQ (fun i o e => by
    have := Array.all_eq_true.1 hnd i (Array.getElem?_eq_some_iff.1 e).1
    rwa [(Array.getElem?_eq_some_iff.1 e).2] at this) _ _ _ _ (wpAny_of_held _ _ _ _ (h hS)))
end

/-- A call's contract, within a round. -/
theorem Calls.round {n l : Nat} {P : Program} {f : FuncId} {args : Array Value} {w : World} {R : Ending → World → Prop} (h : Calls P f args w R) : CallsIn (Fence.wide.inRound l) n P f args w R := CallsIn.inRound l (callsIn_wide.2 h)

/-- P speaks of blocks below B alone. -/
def Lo (B : Nat) (P : World → Prop) : Prop := ∀ W W' : World, (∀ k, k < B → W'.heap[k]? = W.heap[k]?) → P W → P W'
theorem Lo.and {B : Nat} {P R : World → Prop} (h : Lo B P) (k : Lo B R) : Lo B fun W => P W ∧ R W := fun W W' e p => ⟨h W W' e p.1, k W W' e p.2⟩
theorem Lo.box {B q : Nat} {cs : List Value} (hq : q < B) (hc : 0 < cs.length) : Lo B fun W => Box W q cs := fun W W' e p => by
  have hb := e q hq
  have hf : ∀ j, W'.frozen? ⟨q, j, none⟩ = false := fun j => by
    have := p.fr j
    simp only [World.frozen?] at this ⊢
    rw [hb]
    exact this
  exact ⟨fun k v hv => (World.cell?_of_block hb).trans (p.at_ k v hv), hf, by
    have h1 : W'.heap[q]? = some (W.heap[q]'p.lt) := by rw [hb]; exact Array.getElem?_eq_getElem p.lt
    exact (Array.getElem?_eq_some_iff.1 h1).1⟩
theorem Lo.ow {B lo hi n cap : Nat} {t : TypeId} {A : Option Addr} {xs : List Value} (hq : hi ≤ B) : Lo B fun W => Ow W lo hi t A n cap xs := fun W W' e p => p.of_blocks fun k _ hk => e k (Nat.lt_of_lt_of_le hk hq)
theorem Lo.rd {B lo hi n : Nat} {A : Option Addr} {xs : List Value} (hq : hi ≤ B) : Lo B fun W => Rd W lo hi A n xs := fun W W' e p => p.of_blocks fun k _ hk => e k (Nat.lt_of_lt_of_le hk hq)
theorem Lo.pure {B : Nat} {p : Prop} : Lo B fun _ => p := fun _ _ _ h => h

/-- What a loop holds between two rounds: nothing that lay below n₀ has turned; J speaks of what lay ahead of the loop. -/
structure Rnd (B n₀ : Nat) (w : World) (J : World → Prop) (W : World) : Prop where
  b : Below n₀ w W
  s : B ≤ W.heap.size
  j : J W
theorem Rnd.own {β : Type} {B n₀ : Nat} {w : World} {J : β → World → Prop} (hn : n₀ ≤ B) (h : ∀ s, Lo B (J s)) : OwnFrom B fun (s : β) W => Rnd B n₀ w (J s) W := fun s W W' row hs hg hr =>
  ⟨hs.b.grown hg (Nat.le_trans hn hs.s) fun k e => Nat.le_trans hn (hr k e).1, Nat.le_trans hs.s hg.size, h s W W' (fun k hk => hg.block k (Nat.lt_of_lt_of_le hk hs.s) fun e => absurd (hr k e.symm).1 (by omega)) hs.j⟩
/-- At the loop's end: the block for the rounds' deferred calls is shut. -/
theorem Rnd.shut {B n₀ D : Nat} {w W : World} {J : World → Prop} {o o' : Obj} (h : Rnd B n₀ w J W) (hn : n₀ ≤ B) (hJ : Lo B J) (hD : B ≤ D) (hk : W.heap[D]? = some o) : Rnd B n₀ w J (W.putObj D o') :=
  have hd := (Array.getElem?_eq_some_iff.1 hk).1
  ⟨h.b.grown (grownBy_putObj' W D o') (Nat.le_trans hn h.s) fun k e => by cases e; omega, Nat.le_trans h.s (grownBy_putObj' W D o').size, hJ W _ (fun k hk2 => (grownBy_putObj' W D o').block k (Nat.lt_of_lt_of_le hk2 h.s) fun e => by cases e; omega) h.j⟩
end Go.Proofs.Ytlmbcidijbohiaa
