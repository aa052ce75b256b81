/- The program: how many holes; ranges; the places of n spokes, as a function that is ranged over. -/
import Derived.Test.YtlmbcidijbohiaaProg
import Derived.Test.YtlmbcidijbohiaaNum
import Derived.Test.YtlmbcidijbohiaaPlainLac
import Derived.Test.YtlmbcidijbohiaaRound
namespace Go.Proofs.Ytlmbcidijbohiaa
open Go.RowKit
attribute [local go_sem] Oper.semAt_some

theorem implInR (n a b : Int) (w : World) :
    Calls Try.prog 57 #[.int .i64 n, .int .i64 a, .int .i64 b] w (Just (.bool (decide (a ≤ n) && decide (n ≤ b))) w) := by
  by_cases h1 : a ≤ n
  · go_enter Try.func57, Try.ntmps57
    go_wp2
    go_ret
    exact ⟨by simp [h1], rfl⟩
  · go_enter Try.func57, Try.ntmps57
    go_wp2
    go_ret
    exact ⟨by simp; intro; omega, rfl⟩
theorem implPlace (n k : Int) (w : World) (h0 : -4611686018427387904 ≤ n) (h1 : n ≤ 4611686018427387904) :
    Calls Try.prog 60 #[.int .i64 n, .int .i64 k] w (Just (.bool (placeB n k)) w) := by
  have HR := Go.Lib.hid (implInR k 0 (n - 1) w)
  go_enter Try.func60, Try.ntmps60
  go_wp2_with fail
  refine HR.out.mono ?_
  rintro _ _ ⟨rfl, rfl⟩
  go_wp2_with fail
  go_ret
  exact ⟨rfl, rfl⟩
theorem implFlange (n : Int) (w : World) : Calls Try.prog 56 #[.int .i64 n] w (Just (.bool (holes6 n)) w) := by
  by_cases h6 : n = 6
  · subst h6; go_enter Try.func56, Try.ntmps56; go_wp2; go_ret; exact ⟨rfl, rfl⟩
  by_cases h8 : n = 8
  · subst h8; go_enter Try.func56, Try.ntmps56; go_wp2; go_ret; exact ⟨rfl, rfl⟩
  by_cases h10 : n = 10
  · subst h10; go_enter Try.func56, Try.ntmps56; go_wp2; go_ret; exact ⟨rfl, rfl⟩
  by_cases h12 : n = 12
  · subst h12; go_enter Try.func56, Try.ntmps56; go_wp2; go_ret; exact ⟨rfl, rfl⟩
  by_cases h16 : n = 16
  · subst h16; go_enter Try.func56, Try.ntmps56; go_wp2; go_ret; exact ⟨rfl, rfl⟩
  by_cases h18 : n = 18
  · subst h18; go_enter Try.func56, Try.ntmps56; go_wp2; go_ret; exact ⟨rfl, rfl⟩
  by_cases h20 : n = 20
  · subst h20; go_enter Try.func56, Try.ntmps56; go_wp2; go_ret; exact ⟨rfl, rfl⟩
  by_cases h24 : n = 24
  · subst h24; go_enter Try.func56, Try.ntmps56; go_wp2; go_ret; exact ⟨rfl, rfl⟩
  have HH := Go.Lib.hid (show holes6 n = false by simp [holes6, h6, h8, h10, h12, h16, h18, h20, h24])
  have b6 : (n == 6) = false := by simpa using h6
  have b8 : (n == 8) = false := by simpa using h8
  have b10 : (n == 10) = false := by simpa using h10
  have b12 : (n == 12) = false := by simpa using h12
  have b16 : (n == 16) = false := by simpa using h16
  have b18 : (n == 18) = false := by simpa using h18
  have b20 : (n == 20) = false := by simpa using h20
  have b24 : (n == 24) = false := by simpa using h24
  go_enter Try.func56, Try.ntmps56
  go_wp2
  go_ret
  exact ⟨by rw [HH.out]; rfl, rfl⟩

/-- **placesOf(n)**: the number is boxed; the function value captures the box. -/
theorem implPlaces (n : Int) (w : World) : Calls Try.prog 49 #[.int .i64 n] w fun e w' =>
    e = .returned (.func (.func 66) #[] #[.pointer (some ⟨w.heap.size, 0, none⟩)]) ∧ w' = w.alloc (.cells #[.int .i64 n] 2) := by
  go_enter Try.func49, Try.ntmps49
  go_wp2
  go_ret
  exact ⟨rfl, rfl⟩

/-- The places that have come when all of ys have: 0, 1, .. in order. -/
def Upto {m : Nat} (k : Nat) (ys : List (Fin m)) : Prop := ys.map Fin.val = List.range k
theorem Upto.succ {m k : Nat} {ys : List (Fin m)} (h : Upto k ys) (hk : k < m) : Upto (k + 1) (ys ++ [⟨k, hk⟩]) := by
  unfold Upto at *
  simp [h, List.range_succ]
theorem Upto.len {m k : Nat} {ys : List (Fin m)} (h : Upto k ys) : ys.length = k := by
  have := congrArg List.length h
  simpa using this

theorem places_in (n : Nat) (hn : 1 ≤ n) (l Bn m : Nat) (hm : (m : Int) ≤ 4611686018427387904) (J Jx : List (Fin m) → World → Prop)
    (hY : ∀ pre x W, J pre W → pre.length < m → YieldAt Fence.wide (n - 1) Try.prog l #[.int .i64 ((x : Fin m).1 : Int)] W fun e W' =>
      (e = .returned (.bool true) ∧ J (pre ++ [x]) W' ∧ True) ∨ (e = .returned (.bool false) ∧ Jx (pre ++ [x]) W'))
    (W : World) (hBn : W.cell? ⟨Bn, 0, none⟩ = some (.int .i64 m)) (h0 : J [] W) :
    CallsIn Fence.wide n Try.prog 66 #[.func (.yield l) #[] #[], .pointer (some ⟨Bn, 0, none⟩)] W fun e W' => (∃ v, e = .returned v) ∧
      ((∃ ys, Upto m ys ∧ J ys W') ∨ (∃ pre, (∃ k, k ≤ m ∧ Upto k pre) ∧ Jx pre W')) := by
  refine callsIn_of_wp Try.func66 rfl trivial ?_ rfl
  simp only [Try.ntmps66, List.size_toArray, List.length_cons, List.length_nil, Nat.reduceAdd, Nat.reduceSub, Array.replicate_succ, Array.replicate_zero, List.push_toArray, List.append_toArray, List.nil_append, List.cons_append]
  gi_wp2
  gi_loopw [5] (fun i wr => ∃ (k : Nat) (pre : List (Fin m)), k ≤ m ∧ i = .int .i64 k ∧ Upto k pre ∧ J pre wr) (fun i _ => m - (intOf i).toNat)
  case atStart => exact ⟨0, [], Nat.zero_le _, rfl, rfl, h0⟩
  case round =>
    obtain ⟨k, pre, hk, rfl, hU, hJs⟩ := hrel
    have HU := Go.Lib.hid hU
    by_cases hlt : k < m
    · obtain ⟨fn, tmps, assign, body, hy, hR⟩ := hY pre ⟨k, hlt⟩ wr hJs (by rw [hU.len]; exact hlt)
      dsimp only at hy
      clear hU
      gi_wp2
      refine hR.mono ?_
      rintro e W3 (⟨rfl, hJ3, -⟩ | ⟨rfl, hJx3⟩)
      · gi_wp2
        go_roundw
        case rel => exact ⟨k + 1, _, by omega, by go_num, HU.out.succ hlt, hJ3⟩
        case measure => simp [intOf]; omega
      · gi_wp2
        refine bodyPost_ret (results_none rfl _ _ _) rfl ?_
        exact ⟨⟨_, rfl⟩, .inr ⟨_, ⟨k + 1, by omega, HU.out.succ hlt⟩, hJx3⟩⟩
    · obtain rfl : k = m := by omega
      clear hU
      gi_wp2
      go_end0
      exact ⟨⟨_, rfl⟩, .inl ⟨_, HU.out, hJs⟩⟩

theorem places_stops (n : Nat) (hn : 1 ≤ n) (Bn m : Nat) (hm : (m : Int) ≤ 4611686018427387904) (w : World) (hBn : Bn < w.heap.size) (hc : w.cell? ⟨Bn, 0, none⟩ = some (.int .i64 m)) :
    SeqStopsK Fence.wide n Try.prog 66 #[.pointer (some ⟨Bn, 0, none⟩)] (fun x : Fin m => #[Value.int .i64 (x.1 : Int)]) (fun _ _ => True) (Upto m) (fun pre => ∃ k, k ≤ m ∧ Upto k pre) m w := fun l J Jx W hW _ _ hY h0 =>
  places_in n hn l Bn m hm J Jx hY W ((hW.cell (p := ⟨Bn, 0, none⟩) hBn).trans hc) h0
end Go.Proofs.Ytlmbcidijbohiaa
