/- Contracts of the laws' helpers on lists of int64: toInt64S copies, eqInt64S compares, markInt64S writes, heldInt64S looks. -/
import Derived.Test.YtbjoekbgejfebaaProg
import Derived.Test.YtbjoekbgejfebaaMem
import Derived.WalkKit
import Derived.WalkLawsBesides
import Derived.WalkSpells
import Derived.Deep.QuietTactic
import Derived.BigQuiet
import Derived.Deep.LoopGhost
namespace Go.Proofs.Ytbjoekbgejfebaa
open Go.RowKit

theorem infoInt : (Try.prog.info? 2).map (fun i => (i.zero, i.size, i.bytes)) = some (some (.int .i64 0), 1, 8) := by kernel_rfl

/-- What a call leaves that hands back a new list of int64. -/
def NewInts (w : World) (zs : List Int) (e : Ending) (w' : World) : Prop :=
  ∃ A cap, e = .returned (.slice A zs.length cap) ∧ Ow w' w.heap.size w'.heap.size 2 A zs.length cap (ints zs) ∧ Below w.heap.size w w'

def AsTo (w : World) (g n : Nat) (zs : List Int) (k : Nat) (wr : World) : Prop :=
  ∃ xs, Ow wr w.heap.size wr.heap.size 2 (some ⟨g, 0, none⟩) n n xs ∧ (∀ j, j < k → xs[j]? = (ints zs)[j]?) ∧ Below w.heap.size w wr

theorem AsTo.step {w wr : World} {g n k : Nat} {zs : List Int} (h : AsTo w g n zs k wr) (hn : zs.length = n) (hk : k < n) :
    AsTo w g n zs (k + 1) (wr.setCell ⟨g, k, none⟩ (.int .i64 (zs.getD k 0))) := by
  obtain ⟨xs, ho, hx, hb⟩ := h
  have hl := ho.len
  obtain ⟨g', e, p, q, r⟩ := ho.form (by omega)
  have : g' = g := by injection e with e; injection e with e; exact e.symm
  subst this
  refine ⟨xs.set k (.int .i64 (zs.getD k 0)), ?_, ?_, hb.setCell p _⟩
  · have := ho.set_ (k := k) (.int .i64 (zs.getD k 0))
    exact ⟨this.1, fun g1 h1 => by simpa [World.setCell] using this.2 g1 h1⟩
  · intro j hj
    by_cases he : j = k
    · subst he
      rw [ints_at zs j (by omega)]
      simp [hl, hk]
    · rw [List.getElem?_set_ne (by omega)]
      exact hx j (by omega)
theorem AsTo.done {w wr : World} {g n : Nat} {zs : List Int} (h : AsTo w g n zs n wr) (hn : zs.length = n) : NewInts w zs (.returned (.slice (some ⟨g, 0, none⟩) n n)) wr := by
  obtain ⟨xs, ho, hx, hb⟩ := h
  have hl := ho.len
  subst hn
  have : xs = ints zs := ext_of (by rw [hl, ints_len]) (fun j hj => hx j (by omega))
  subst this
  exact ⟨_, _, rfl, ho, hb⟩


/-- What a call leaves that only reads: an answer, and at most draws. -/
def Only (v : Value) (w : World) (e : Ending) (w' : World) : Prop := e = .returned v ∧ ∃ m, w' = w.drewN m

theorem eqInts_ne (A B : Option Addr) (n m c d : Nat) (w : World) (hne : n ≠ m) :
    Calls Try.prog 44 #[.slice A n c, .slice B m d] w (Only (.bool false) w) := by
  have hq : ((n : Int) == (m : Int)) = false := by simp; omega
  go_enter Try.func44, Try.ntmps44
  go_wp2
  go_ret
  exact ⟨rfl, 0, rfl⟩

def AgreeTo (zs ys : List Int) (k : Nat) : Prop := ∀ j, j < k → zs.getD j 0 = ys.getD j 0
theorem AgreeTo.no {zs ys : List Int} {k : Nat} (h : (zs[k]?.getD 0 != ys[k]?.getD 0) = true) : ¬ zs = ys := by
  rintro rfl
  simp at h
theorem AgreeTo.succ {zs ys : List Int} {k : Nat} (h : AgreeTo zs ys k) (e : (zs[k]?.getD 0 != ys[k]?.getD 0) = false) : AgreeTo zs ys (k + 1) := by
  intro j hj
  by_cases hk : j = k
  · subst hk; simpa using e
  · exact h j (by omega)
theorem AgreeTo.all {zs ys : List Int} (hl : zs.length = ys.length) (h : AgreeTo zs ys zs.length) : zs = ys := by
  apply List.ext_getElem hl
  intro j h1 h2
  have := h j h1
  simpa [h1, h2] using this

theorem eqInts (A B : Option Addr) (n c d : Nat) (zs ys : List Int) (la ha lb hb : Nat) (w : World) (h1 : Rd w la ha A n (ints zs)) (h2 : Rd w lb hb B n (ints ys)) (hn : n * 8 ≤ 140737488355328) :
    Calls Try.prog 44 #[.slice A n c, .slice B n d] w (Only (.bool (decide (zs = ys))) w) := by
  have hz1 : zs.length = n := by have := h1.len; rwa [ints_len] at this
  have hz2 : ys.length = n := by have := h2.len; rwa [ints_len] at this
  have hn' : n ≤ 140737488355328 := by omega
  have H1 := Go.Lib.hid hz1
  have H2 := Go.Lib.hid hz2
  clear hz1 hz2
  go_enter Try.func44, Try.ntmps44
  go_wp2
  go_loopw [5] (fun i wr => ∃ k m : Nat, k ≤ n ∧ i = .int .i64 k ∧ AgreeTo zs ys k ∧ wr = w.drewN m) (fun i _ => n - (intOf i).toNat)
  case atStart => exact ⟨0, 0, Nat.zero_le _, rfl, fun j h => absurd h (by omega), rfl⟩
  case round =>
    obtain ⟨k, m, hk, rfl, hag, rfl⟩ := hrel
    by_cases hlt : k < n
    · obtain ⟨b1, o1, rfl, p1, q1, c1⟩ := h1.at_ hlt
      obtain ⟨b2, o2, rfl, p2, q2, c2⟩ := h2.at_ hlt
      have hcell1 : w.cell? ⟨b1, o1 + k, none⟩ = some (.int .i64 (zs.getD k 0)) := c1 k _ (ints_at zs k (by have := H1.out; omega))
      have hcell2 : w.cell? ⟨b2, o2 + k, none⟩ = some (.int .i64 (ys.getD k 0)) := c2 k _ (ints_at ys k (by have := H2.out; omega))
      clear c1 c2 h1 h2
      go_wp2
      go_quiet (fail)
      go_wp2
      · go_ret
        have hne : (zs[k]?.getD 0 != ys[k]?.getD 0) = true := by assumption
        exact ⟨ret_bool (decide_eq_false (AgreeTo.no hne)).symm, _, World.drewN_drewN ..⟩
      · have heq : (zs[k]?.getD 0 != ys[k]?.getD 0) = false := by assumption
        go_roundw
        case rel => exact ⟨k + 1, _, by omega, by go_num, hag.succ heq, rfl⟩
        case measure => simp [intOf]; omega
    · obtain rfl : k = n := by omega
      go_wp2
      go_ret
      exact ⟨ret_bool (decide_eq_true (AgreeTo.all (H1.out.trans H2.out.symm) (by rw [H1.out]; exact hag))).symm, m, rfl⟩

theorem eqInts_same (A B : Option Addr) (n c d : Nat) (zs : List Int) (la ha lb hb : Nat) (w : World) (h1 : Rd w la ha A n (ints zs)) (h2 : Rd w lb hb B n (ints zs)) (hn : n * 8 ≤ 140737488355328) :
    Calls Try.prog 44 #[.slice A n c, .slice B n d] w (Only (.bool true) w) := by
  have h := eqInts A B n c d zs zs la ha lb hb w h1 h2 hn
  rwa [decide_eq_true (rfl : zs = zs)] at h

/-- The marks k, k + 1, .. of n elements. -/
def marks (k n : Nat) : List Int := (List.range n).map (fun j => ((k + j : Nat) : Int))
theorem marks_len (k n : Nat) : (marks k n).length = n := by simp [marks]
theorem marks_at (k n j : Nat) (h : j < n) : (marks k n).getD j 0 = ((k + j : Nat) : Int) := by simp [marks, h]

/-- Behind markInt64S: the next mark, the marks written, nothing else turned. -/
def Marked (w : World) (lo hi : Nat) (A : Option Addr) (n cap k : Nat) (e : Ending) (w' : World) : Prop :=
  e = .returned (.int .i64 ((k + n : Nat) : Int)) ∧ Ow w' lo hi 2 A n cap (ints (marks k n)) ∧ Keep lo hi w w'

def MarkTo (w : World) (lo hi : Nat) (A : Option Addr) (n cap k : Nat) (j : Nat) (wr : World) : Prop :=
  ∃ xs, Ow wr lo hi 2 A n cap xs ∧ (∀ i, i < j → xs[i]? = some (.int .i64 ((k + i : Nat) : Int))) ∧ Keep lo hi w wr
theorem MarkTo.step {w wr : World} {lo hi g n cap k j : Nat} (h : MarkTo w lo hi (some ⟨g, 0, none⟩) n cap k j wr) (hj : j < n) :
    MarkTo w lo hi (some ⟨g, 0, none⟩) n cap k (j + 1) (wr.setCell ⟨g, j, none⟩ (.int .i64 ((k + j : Nat) : Int))) := by
  obtain ⟨xs, ho, hx, hb⟩ := h
  have hl := ho.len
  obtain ⟨g', e, p, q, r⟩ := ho.form (by omega)
  have : g' = g := by injection e with e; injection e with e; exact e.symm
  subst this
  refine ⟨xs.set j (.int .i64 ((k + j : Nat) : Int)), ho.set_ _, ?_, hb.setCell p q _⟩
  intro i hi2
  by_cases he : i = j
  · subst he
    simp [hl, hj]
  · rw [List.getElem?_set_ne (by omega)]
    exact hx i (by omega)
theorem MarkTo.done {w wr : World} {lo hi n cap k : Nat} {A : Option Addr} (h : MarkTo w lo hi A n cap k n wr) : Marked w lo hi A n cap k (.returned (.int .i64 ((k + n : Nat) : Int))) wr := by
  obtain ⟨xs, ho, hx, hb⟩ := h
  have hl := ho.len
  have : xs = ints (marks k n) := ext_of (by rw [hl, ints_len, marks_len]) (fun j hj => by rw [hx j (by omega), ints_at _ _ (by rw [marks_len]; omega), marks_at k n j (by omega)])
  subst this
  exact ⟨rfl, ho, hb⟩

theorem markInts (A : Option Addr) (n cap k : Nat) (xs : List Value) (lo hi : Nat) (w : World) (h : Ow w lo hi 2 A n cap xs) (hn : n * 8 ≤ 140737488355328) (hk : k ≤ 140737488355328) :
    Calls Try.prog 45 #[.slice A n cap, .int .i64 k] w (Marked w lo hi A n cap k) := by
  have hn' : n ≤ 140737488355328 := by omega
  have h0 : MarkTo w lo hi A n cap k 0 w := ⟨xs, h, fun i hi2 => absurd hi2 (by omega), Keep.refl _ _ _⟩
  go_enter Try.func45, Try.ntmps45
  go_wp2
  go_loopw [1, 5] (fun c i wr => ∃ j : Nat, j ≤ n ∧ i = .int .i64 j ∧ c = .int .i64 ((k + j : Nat) : Int) ∧ MarkTo w lo hi A n cap k j wr) (fun _ i _ => n - (intOf i).toNat)
  case atStart => exact ⟨0, Nat.zero_le _, rfl, rfl, h0⟩
  case round =>
    obtain ⟨j, hj, rfl, rfl, hm⟩ := hrel
    clear h0 h
    by_cases hlt : j < n
    · have hst : ∃ g, A = some ⟨g, 0, none⟩ := by obtain ⟨xs', ho, _⟩ := hm; obtain ⟨g, e, _⟩ := ho.form (by omega); exact ⟨g, e⟩
      obtain ⟨g, rfl⟩ := hst
      have hs := hm.step hlt
      obtain ⟨xs', ho, hx, hb⟩ := hm
      have hfree := ho.free j
      have hxl := ho.len
      obtain ⟨u, hu⟩ : ∃ u, wr.cell? ⟨g, j, none⟩ = some u := ⟨xs'[j]'(by omega), (ho.cell hlt).trans (List.getElem?_eq_getElem (by omega))⟩
      clear ho hx hb hxl
      go_wp2
      go_roundw
      case rel => exact ⟨j + 1, by omega, by go_num, by go_num, hs⟩
      case measure => simp [intOf]; omega
    · obtain rfl : j = n := by omega
      go_wp2
      go_ret
      exact hm.done

theorem heldInts (A : Option Addr) (n cap k : Nat) (lo hi : Nat) (w : World) (h : Rd w lo hi A n (ints (marks k n))) (hn : n * 8 ≤ 140737488355328) (hk : k ≤ 140737488355328) :
    Calls Try.prog 46 #[.slice A n cap, .int .i64 k] w fun e w' => e = .returned (.int .i64 ((k + n : Nat) : Int)) ∧ w = w' := by
  have hn' : n ≤ 140737488355328 := by omega
  go_enter Try.func46, Try.ntmps46
  go_wp2
  go_loop [1, 5] (fun c i => ∃ j : Nat, j ≤ n ∧ i = .int .i64 j ∧ c = .int .i64 ((k + j : Nat) : Int)) (fun _ i => n - (intOf i).toNat)
  case atStart => exact ⟨0, Nat.zero_le _, rfl, rfl⟩
  case round =>
    obtain ⟨j, hj, rfl, rfl⟩ := hrel
    by_cases hlt : j < n
    · obtain ⟨b, o, rfl, p, q, c⟩ := h.at_ hlt
      have hcell : w.cell? ⟨b, o + j, none⟩ = some (.int .i64 ((k + j : Nat) : Int)) := c j _ (by rw [ints_at _ _ (by rw [marks_len]; exact hlt), marks_at k n j hlt])
      clear c h
      go_wp2
      go_round
      case rel => exact ⟨j + 1, by omega, by go_num, by go_num⟩
      case measure => simp [intOf]; omega
    · obtain rfl : j = n := by omega
      go_wp2
      go_ret
      exact ⟨rfl, rfl⟩
end Go.Proofs.Ytbjoekbgejfebaa
