/- The table of cosines of the model. -/
import Derived.Test.YtifblmcocikopabNum
import Derived.Test.YtifblmcocikopabPlainCos
import Derived.Deep.LoopGhost
import Derived.Deep.AppendLies
import Derived.Deep.RegionHeld3
import Derived.StillTailTactics
import Derived.Deep.RegionLaw
namespace Go.Proofs.Ytifblmcocikopab
open Go.RowKit

theorem infoInt64 : (Try.prog.info? 2).map (fun i => (i.zero, i.size, i.bytes)) = some (some (.int .i64 0), 1, 8) := by kernel_rfl
theorem nrm_eq (n : Int) : (2 * n + 1000000000) / (2 * 1000000000) = nrm n := by unfold nrm; omega
theorem specNearestU (n : Int) (w : World) (h0 : -2000000000000000000 ≤ n) (h1 : n ≤ 2000000000000000000) :
    Calls Try.prog 68 #[.int .i64 n, .int .i64 1000000000] w (Just (.int .i64 (nrm n)) w) := by
  have h := specNearest n 1000000000 w (by omega) (by omega) h0 h1
  rwa [nrm_eq] at h

/-- The first k numbers of the table. -/
def tabTo (k : Nat) : List Int := cosTab.take k
theorem tabTo_len {k : Nat} (h : k ≤ 181) : (tabTo k).length = k := by unfold tabTo; rw [List.length_take, cosTab_len]; omega
theorem tabTo_next {k : Nat} (h : k < 181) : tabTo (k + 1) = tabTo k ++ [cN k] := by
  unfold tabTo cN
  rw [List.take_succ_eq_append_getElem (by rw [cosTab_len]; exact h)]
  congr 2
  have : k < cosTab.length := by rw [cosTab_len]; exact h
  simp [List.getD, this]
theorem tabTo_at {k j : Nat} (h : j < k) (hk : k ≤ 181) : (ints (tabTo k))[j]? = some (.int .i64 (cN j)) := by
  have hj : j < (tabTo k).length := by rw [tabTo_len hk]; exact h
  rw [ints_at _ _ hj]
  unfold tabTo cN
  have h2 : j < cosTab.length := by rw [cosTab_len]; omega
  simp [List.getD, h2, h]
/-- The table under way. -/
def TabAt (w : World) (k : Nat) (v : Value) (wr : World) : Prop :=
  ∃ q c2, v = .slice (some ⟨q, 0, none⟩) k c2 ∧ Ow wr w.heap.size wr.heap.size 2 (some ⟨q, 0, none⟩) k c2 (ints (tabTo k)) ∧ Below w.heap.size w wr
theorem TabAt.start {w : World} : TabAt w 2 (.slice (some ⟨w.heap.size, 0, none⟩) 2 2) (w.alloc (.cells #[.int .i64 1000000000, .int .i64 999961923] 2)) := by
  refine ⟨_, _, rfl, ⟨⟨by rw [ints_len, tabTo_len (by omega)], .inr ⟨w.heap.size, 2, #[.int .i64 1000000000, .int .i64 999961923], rfl, Nat.le_refl _, heap_alloc_new w _, Nat.le_refl _, by decide, by simp, by rfl⟩⟩, fun g hg => ?_⟩, (Below.refl _ _).alloc (Nat.le_refl _) _⟩
  rw [← show w.heap.size = g by simpa [Value.ownBlock] using hg]
  simp
theorem TabAt.next {w wr w3 : World} {k q q3 c3 : Nat} {x : Int} (hk : k < 181) (hx : x = cN k) (hq : w.heap.size ≤ q) (hb : Below w.heap.size w wr)
    (hown : w3.ownsRow w.heap.size 2 1 (.slice (some ⟨q3, 0, none⟩) (k + 1) c3) (k + 1) (ints (tabTo k) ++ [.int .i64 x])) (hgrow : wr.grownBy w3 (some q)) (hlt : q3 < w3.heap.size) :
    TabAt w (k + 1) (.slice (some ⟨q3, 0, none⟩) (k + 1) c3) w3 := by
  subst hx
  have hb3 : Below w.heap.size w w3 := hb.grown hgrow hb.size (fun j hj => by cases hj; exact hq)
  refine ⟨q3, c3, rfl, ⟨?_, fun j hj => by rw [← show q3 = j by simpa [Value.ownBlock] using hj]; exact hlt⟩, hb3⟩
  rw [tabTo_next hk]
  simpa [ints] using hown

theorem own_drew {w : World} {b : Nat} {e : TypeId} {z : Nat} {v : Value} {n : Nat} {xs : List Value} (h : w.ownsRow b e z v n xs) : w.drew.ownsRow b e z v n xs := h
theorem news_drew {w : World} {B : Nat} {cs : Array Value} {t : TypeId} {fr : Nat × Nat} (hb : w.heap[B]? = some (.cells cs t fr)) : ∀ j u, cs.toList[j]? = some u → w.drew.cell? ((⟨B, 0, none⟩ : Addr).add j) = some u := World.news_of_block (w := w.drew) hb
set_option maxRecDepth 100000 in
theorem specTable (w : World) : Calls Try.prog 76 #[] w fun e w' => ∃ v, e = .returned v ∧ TabAt w 181 v w' := by
  obtain ⟨i0, hi, hz0, hz1, hz2⟩ := info_parts infoInt64
  have START := Go.Lib.hid (TabAt.start (w := w))
  go_enter Try.func76, Try.ntmps76
  go_wp2_with fail
  go_loopw [1, 2] (fun v i wr => ∃ (k : Nat), 2 ≤ k ∧ k ≤ 180 ∧ i = .int .i64 k ∧ TabAt w k v wr) (fun _ i _ => 180 - (intOf i).toNat)
  case atStart => exact ⟨2, by omega, by omega, rfl, START.out⟩
  case round =>
    clear START
    obtain ⟨k, hk0, hk1, rfl, q, c2, rfl, ho, hb⟩ := hrel
    by_cases hk : k < 180
    · obtain ⟨m, rfl⟩ : ∃ m, k = m + 2 := ⟨k - 2, by omega⟩
      have hc1 := (ho.cell (k := m + 1) (by omega)).trans (tabTo_at (by omega) (by omega))
      have hc0 := (ho.cell (k := m) (by omega)).trans (tabTo_at (by omega) (by omega))
      have hst := cN_step (k := m) (by omega)
      have f1 := cN_fit (k := m + 1) (by omega)
      have f0 := cN_fit (k := m) (by omega)
      have hb1 := nrm_mul (p := 1999923846) (c := cN (m + 1)) (by omega) (by omega)
      rw [show (2 * 999961923 : Int) = 1999923846 by rfl] at hst
      generalize cN (m + 1) = x1 at hc1 hst f1 hb1
      generalize cN m = x0 at hc0 hst f0
      have e1 : IntKind.i64.wrap (1999923846 * x1) = 1999923846 * x1 := IntWalk.i64_in _ (by omega)
      have e2 : IntKind.i64.wrap (nrm (1999923846 * x1) - x0) = nrm (1999923846 * x1) - x0 := IntWalk.i64_in _ (by omega)
      have i1 : IntKind.i64.wrap ((m : Int) + 2 - 1) = (m : Int) + 1 := by rw [IntWalk.i64_in _ (by omega)]; omega
      have i2 : IntKind.i64.wrap ((m : Int) + 2 - 2) = (m : Int) := by rw [IntWalk.i64_in _ (by omega)]; omega
      have i3 : IntKind.i64.wrap (m : Int) = (m : Int) := IntWalk.i64_in _ (by omega)
      have t1 : ((m : Int) + 1).toNat = m + 1 := by omega
      have g0 : (0 : Int) ≤ (m : Int) := by omega
      have g1 : (0 : Int) ≤ (m : Int) + 1 := by omega
      have g2 : (m : Int) + 1 < (m : Int) + 2 := by omega
      have g3 : (m : Int) < (m : Int) + 2 := by omega
      have k1 : m + 2 + 1 ≤ maxLen := by unfold maxLen; omega
      have k2 : (m + 2 + 1) * 8 ≤ 140737488355328 := by omega
      have k3 : ∀ o, w.heap.size ≤ (wr.alloc o).drew.heap.size := fun o => by have := hb.size; show w.heap.size ≤ (wr.alloc o).heap.size; simp; omega
      have hq := (ho.1.lt q rfl).1
      have HB := Go.Lib.hid (fun o => (hb.alloc hb.size o).drew)
      have HT := Go.Lib.hid (fun w0 => specNearestU (1999923846 * x1) w0 (by omega) (by omega))
      have HO := Go.Lib.hid ho
      clear ho f1 f0 hb1 hk0 hk1
      go_wp2_with fail
      go_region_law (first
          | (refine step_append_lies _ rfl _ _ 24 rfl w.heap.size 2 i0 (.int .i64 0) 1 8 Try.underlying24 hi hz0 hz1 hz2 rfl (by decide) _ (m + 2) _ rfl (own_drew (HO.out.1.alloc _)) ⟨wr.heap.size, 0, none⟩ 1 1 [.int .i64 (nrm (1999923846 * x1) - x0)] rfl rfl (news_drew (heap_alloc_new wr _)) (by intro u hu; simp at hu; subst hu; rfl) (by decide) k1 k2 (k3 _) _ rfl ?_; intro q4 c4 w4 hown hgrow hat hlt4)
          | (go_simp; go_at_call 68; refine (HT.out _).mono ?_; rintro _ _ ⟨rfl, rfl⟩))
      all_goals (
        have HS := Go.Lib.hid (TabAt.next (by omega) hst.symm hq (HB.out _) hown hgrow hlt4)
        clear hown hgrow hat hlt4
        go_wp2
        go_roundw
        case rel => exact ⟨m + 2 + 1, by omega, by omega, by go_num, HS.out⟩
        case measure => simp [intOf]; omega)
    · obtain rfl : k = 180 := by omega
      have hq := (ho.1.lt q rfl).1
      have hb1 := hb.alloc hb.size (.cells #[.int .i64 0] 2)
      have hbs := hb1.size
      go_wp2_with (at_builtin; refine wpList_append_lies _ rfl _ _ 24 rfl w.heap.size 2 i0 (.int .i64 0) 1 8 Try.underlying24 hi hz0 hz1 hz2 rfl (by omega) _ 180 _ rfl (ho.1.alloc _) ⟨wr.heap.size, 0, none⟩ 1 1 [.int .i64 0] rfl rfl (World.news_of_block (heap_alloc_new wr _)) (by simp [Value.oneCell']) (by omega) (by unfold maxLen; omega) (by omega) hbs _ rfl ?_; intro q4 c4 w4 hown hgrow hat hlt4)
      go_ret
      exact ⟨_, rfl, TabAt.next (by omega) cN_180.symm hq hb1 hown hgrow hlt4⟩
end Go.Proofs.Ytifblmcocikopab
