/- Contracts of the laws' helpers on lists of strings: toStringS copies, eqStringS compares, szStringS measures. -/
import Derived.Test.YtgdibahflhlakaaProg
import Derived.Test.YtgdibahflhlakaaMem
import Derived.WalkKit
import Derived.WalkLawsBesides
import Derived.WalkSpells
import Derived.Deep.QuietTactic
import Derived.BigQuiet
import Derived.Deep.LoopGhost
namespace Go.Proofs.Ytgdibahflhlakaa
open Go.RowKit

theorem infoStr : (Try.prog.info? 9).map (fun i => (i.zero, i.size, i.bytes)) = some (some (.string ⟨#[]⟩), 1, 16) := by kernel_rfl

/-- Strings as cells. -/
def bas (zs : List ByteArray) : List Value := zs.map Value.string
theorem bas_len (zs : List ByteArray) : (bas zs).length = zs.length := by simp [bas]
theorem bas_at (zs : List ByteArray) (k : Nat) (h : k < zs.length) : (bas zs)[k]? = some (.string (zs.getD k ByteArray.empty)) := by simp [bas, h]

/-- What a call leaves that hands back a new list of strings. -/
def NewStrs (w : World) (zs : List ByteArray) (e : Ending) (w' : World) : Prop :=
  ∃ A cap, e = .returned (.slice A zs.length cap) ∧ Ow w' w.heap.size w'.heap.size 9 A zs.length cap (bas zs) ∧ Below w.heap.size w w'

def StrsTo (w : World) (g n : Nat) (zs : List ByteArray) (k : Nat) (wr : World) : Prop :=
  ∃ xs, Ow wr w.heap.size wr.heap.size 9 (some ⟨g, 0, none⟩) n n xs ∧ (∀ j, j < k → xs[j]? = (bas zs)[j]?) ∧ Below w.heap.size w wr

theorem StrsTo.step {w wr : World} {g n k : Nat} {zs : List ByteArray} (h : StrsTo w g n zs k wr) (hn : zs.length = n) (hk : k < n) :
    StrsTo w g n zs (k + 1) (wr.setCell ⟨g, k, none⟩ (.string (zs.getD k ByteArray.empty))) := by
  obtain ⟨xs, ho, hx, hb⟩ := h
  have hl := ho.len
  obtain ⟨g', e, p, q, r⟩ := ho.form (by omega)
  have : g' = g := by injection e with e; injection e with e; exact e.symm
  subst this
  refine ⟨xs.set k (.string (zs.getD k ByteArray.empty)), ?_, ?_, hb.setCell p _⟩
  · have := ho.set_ (k := k) (.string (zs.getD k ByteArray.empty))
    exact ⟨this.1, fun g1 h1 => by simpa [World.setCell] using this.2 g1 h1⟩
  · intro j hj
    by_cases he : j = k
    · subst he
      rw [bas_at zs j (by omega)]
      simp [hl, hk]
    · rw [List.getElem?_set_ne (by omega)]
      exact hx j (by omega)
theorem StrsTo.done {w wr : World} {g n : Nat} {zs : List ByteArray} (h : StrsTo w g n zs n wr) (hn : zs.length = n) : NewStrs w zs (.returned (.slice (some ⟨g, 0, none⟩) n n)) wr := by
  obtain ⟨xs, ho, hx, hb⟩ := h
  have hl := ho.len
  subst hn
  have : xs = bas zs := ext_of (by rw [hl, bas_len]) (fun j hj => hx j (by omega))
  subst this
  exact ⟨_, _, rfl, ho, hb⟩

theorem toStrs (A : Option Addr) (n cap : Nat) (zs : List ByteArray) (lo : Nat) (w : World) (h : Rd w lo w.heap.size A n (bas zs)) (hn : n * 16 ≤ 140737488355328) :
    Calls Try.prog 19 #[.slice A n cap] w (NewStrs w zs) := by
  have hz : zs.length = n := by have := h.len; rwa [bas_len] at this
  have hn' : n ≤ 140737488355328 := by omega
  obtain ⟨i0, hi, hz0, hz1, hz2⟩ := info_parts infoStr
  have HZ := Go.Lib.hid hz
  clear hz
  go_enter Try.func19, Try.ntmps19
  go_wp2_with (at_make; refine wpList_make_full _ rfl _ _ 33 rfl w.heap.size 9 i0 (.string ⟨#[]⟩) 1 Try.underlying33 hi hz0 hz1 .i64 .i64 _ _ n rfl rfl rfl rfl (by rw [hz2]; omega) (by unfold maxLen; omega) (Nat.le_refl _) ?_; intro w1 hown hg)
  have h0 : StrsTo w w.heap.size n zs 0 w1 := by
    have hs : w.heap.size < w1.heap.size := (hown.lt w.heap.size rfl).2
    exact ⟨_, ⟨hown, fun g hg' => by rw [← show w.heap.size = g by simpa [Value.ownBlock] using hg']; exact hs⟩, fun j hj => absurd hj (by omega), (Below.refl _ _).grown hg (Nat.le_refl _) (by simp)⟩
  clear hown hg hz0 hz1 hz2
  go_loopw [4] (fun i wr => ∃ k : Nat, k ≤ n ∧ i = .int .i64 k ∧ StrsTo w w.heap.size n zs k wr) (fun i _ => n - (intOf i).toNat)
  case atStart => exact ⟨0, Nat.zero_le _, rfl, h0⟩
  case round =>
    obtain ⟨k, hk, rfl, hk2⟩ := hrel
    clear h0
    by_cases hlt : k < n
    · obtain ⟨b, off, rfl, p, q, hc⟩ := h.at_ hlt
      have hst := hk2.step HZ.out hlt
      obtain ⟨xs, ho, hx, hb⟩ := hk2
      have hcell : wr.cell? ⟨b, off + k, none⟩ = some (.string (zs.getD k ByteArray.empty)) := (hb.cell (p := ⟨b, off + k, none⟩) q).trans (hc k _ (bas_at zs k (by have := HZ.out; omega)))
      have hfree := ho.free k
      have hxl := ho.len
      obtain ⟨u, hu⟩ : ∃ u, wr.cell? ⟨w.heap.size, k, none⟩ = some u := ⟨xs[k]'(by omega), (ho.cell hlt).trans (List.getElem?_eq_getElem (by omega))⟩
      clear ho hx hb hc h hxl
      go_wp2
      go_roundw
      case rel => exact ⟨k + 1, by omega, by go_num, hst⟩
      case measure => simp [intOf]; omega
    · obtain rfl : k = n := by omega
      go_wp2
      go_ret
      exact hk2.done HZ.out

theorem eqStrs_ne (A B : Option Addr) (n m c d : Nat) (w : World) (hne : n ≠ m) :
    Calls Try.prog 21 #[.slice A n c, .slice B m d] w fun e w' => e = .returned (.bool false) ∧ w = w' := by
  have hq : ((n : Int) == (m : Int)) = false := by simp; omega
  go_enter Try.func21, Try.ntmps21
  go_wp2
  go_ret
  exact ⟨rfl, rfl⟩

/-- An answer, and at most draws. -/
def OnlyS (v : Value) (w : World) (e : Ending) (w' : World) : Prop := e = .returned v ∧ ∃ m, w' = w.drewN m

/-- eqStringS of two lists that are the same. -/
theorem eqStrs_same (A B : Option Addr) (n c d : Nat) (zs : List ByteArray) (la ha lb hb : Nat) (w : World) (h1 : Rd w la ha A n (bas zs)) (h2 : Rd w lb hb B n (bas zs)) (hn : n * 16 ≤ 140737488355328) :
    Calls Try.prog 21 #[.slice A n c, .slice B n d] w (OnlyS (.bool true) w) := by
  have hz1 : zs.length = n := by have := h1.len; rwa [bas_len] at this
  have hn' : n ≤ 140737488355328 := by omega
  have H1 := Go.Lib.hid hz1
  clear hz1
  go_enter Try.func21, Try.ntmps21
  go_wp2
  go_loopw [5] (fun i wr => ∃ k m : Nat, k ≤ n ∧ i = .int .i64 k ∧ wr = w.drewN m) (fun i _ => n - (intOf i).toNat)
  case atStart => exact ⟨0, 0, Nat.zero_le _, rfl, rfl⟩
  case round =>
    obtain ⟨k, m, hk, rfl, rfl⟩ := hrel
    by_cases hlt : k < n
    · obtain ⟨b1, o1, rfl, p1, q1, c1⟩ := h1.at_ hlt
      obtain ⟨b2, o2, rfl, p2, q2, c2⟩ := h2.at_ hlt
      have hcell1 : w.cell? ⟨b1, o1 + k, none⟩ = some (.string (zs.getD k ByteArray.empty)) := c1 k _ (bas_at zs k (by have := H1.out; omega))
      have hcell2 : w.cell? ⟨b2, o2 + k, none⟩ = some (.string (zs.getD k ByteArray.empty)) := c2 k _ (bas_at zs k (by have := H1.out; omega))
      clear c1 c2 h1 h2
      go_wp2
      go_quiet (fail)
      go_wp2
      go_roundw
      case rel => exact ⟨k + 1, _, by omega, by go_num, rfl⟩
      case measure => simp [intOf]; omega
    · obtain rfl : k = n := by omega
      go_wp2
      go_ret
      exact ⟨rfl, m, rfl⟩

/-- szStringS gives some number and leaves the world as it is. -/
theorem szStrs (A : Option Addr) (n cap : Nat) (zs : List ByteArray) (lo hi : Nat) (left : Int) (w : World) (h : Rd w lo hi A n (bas zs)) (hn : n * 16 ≤ 140737488355328) (hs : ∀ z ∈ zs, z.size ≤ maxLen) (h0 : 0 ≤ left) (h1 : left ≤ 1048576) :
    Calls Try.prog 17 #[.slice A n cap, .int .i64 left] w fun e w' => (∃ r : Int, e = .returned (.int .i64 r) ∧ r ≤ 1048576) ∧ w = w' := by
  have hz : zs.length = n := by have := h.len; rwa [bas_len] at this
  have hn' : n ≤ 140737488355328 := by omega
  have HZ := Go.Lib.hid hz
  clear hz
  by_cases hneg : left - (n : Int) < 0
  · go_enter Try.func17, Try.ntmps17
    go_wp2
    go_ret
    exact ⟨⟨_, rfl, by omega⟩, rfl⟩
  · go_enter Try.func17, Try.ntmps17
    go_wp2
    go_loop [1, 5] (fun l i => ∃ (k : Nat) (y : Int), k ≤ n ∧ i = .int .i64 k ∧ l = .int .i64 y ∧ 0 ≤ y ∧ y ≤ 1048576) (fun _ i => n - (intOf i).toNat)
    case atStart => exact ⟨0, _, Nat.zero_le _, rfl, rfl, by omega, by omega⟩
    case round =>
      obtain ⟨k, y, hk, rfl, rfl, hy0, hy1⟩ := hrel
      by_cases hlt : k < n
      · obtain ⟨b1, o1, rfl, p1, q1, c1⟩ := h.at_ hlt
        have hkz : k < zs.length := by have := HZ.out; omega
        have hcell : w.cell? ⟨b1, o1 + k, none⟩ = some (.string (zs.getD k ByteArray.empty)) := c1 k _ (bas_at zs k hkz)
        have hsz := hs (zs.getD k ByteArray.empty) (by simp [hkz])
        obtain ⟨x, hx⟩ : ∃ x, x = zs.getD k ByteArray.empty := ⟨_, rfl⟩
        rw [← hx] at hcell hsz
        clear c1 h hx hs
        unfold maxLen at hsz
        by_cases hn2 : y - (x.size : Int) < 0
        · go_wp2
          go_ret
          exact ⟨⟨_, rfl, by omega⟩, rfl⟩
        · go_wp2
          go_round
          case rel => exact ⟨k + 1, _, by omega, by go_num, rfl, by omega, by omega⟩
          case measure => simp [intOf]; omega
      · obtain rfl : k = n := by omega
        go_wp2
        go_ret
        exact ⟨⟨_, rfl, by omega⟩, rfl⟩
end Go.Proofs.Ytgdibahflhlakaa
