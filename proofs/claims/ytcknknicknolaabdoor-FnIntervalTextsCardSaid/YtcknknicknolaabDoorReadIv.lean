/- Contracts of ReadInterval in both programs: both read the same interval. -/
import Derived.Test.YtcknknicknolaabDoorPlainIv3
import Derived.Test.YtcknknicknolaabDoorSplitDot
import Derived.Test.YtcknknicknolaabDoorShelfCut
import Derived.Test.YtcknknicknolaabDoorMax
import Derived.Test.YtcknknicknolaabDoorVctx
namespace Go.Proofs.YtcknknicknolaabDoor
open Go.RowKit

def ReadIEnd (w : World) (r : Option (Int × Int)) (e : Ending) (w' : World) : Prop :=
  Below w.heap.size w w' ∧ e = .returned (.tuple (match r with | some p => #[ivV p.1 p.2, .int .i64 0] | none => #[ivV 0 0, .int .i64 6]))
/-- What readNumber's answer is. -/
def numV (r : Option Int) : Int := match r with | some v => v | none => 0
theorem NumEnd2.eq {w : World} {r : Option Int} {e : Ending} {w' : World} (h : NumEnd2 w r e w') : e = .returned (.tuple #[.int .i64 (numV r), .bool r.isSome]) ∧ Below w.heap.size w w' := by
  obtain ⟨hb, he⟩ := h
  refine ⟨he.trans ?_, hb⟩
  cases r <;> rfl

set_option maxRecDepth 100000 in
set_option maxHeartbeats 8000000 in
theorem implReadInterval (s : ByteArray) (w : World) (hs : s.size ≤ 1048576) (hm : HasMax w) (ht : Tab w) (he : HasErrs w) :
    Calls Tryd.prog 20 #[.string s] w (ReadIEnd w (readsI s.data.toList)) := by
  have hl : s.data.toList.length = s.size := by simp
  have hcut := Tryd.strings_Cut s ⟨#[46, 46]⟩ hm.choose (w.alloc (.cells #[.int .i64 0, .int .i64 0] 31)) (by omega) (((Below.refl _ _).alloc (Nat.le_refl _) _ : Below w.heap.size w (w.alloc (.cells #[.int .i64 0, .int .i64 0] 31))).cell (p := ⟨1, 0, none⟩) hm.lt |>.trans hm.choose_spec)
  rw [show (⟨#[46, 46]⟩ : ByteArray).data.toList = [46, 46] from rfl] at hcut
  have hR : readsI s.data.toList = match numB (cutI s.data.toList).1, numB (if (cutI s.data.toList).2.2 then (cutI s.data.toList).2.1 else (cutI s.data.toList).1) with | some a, some b => if vldB a b && !((cutI s.data.toList).2.2 && (a == b)) then some (a, b) else none | _, _ => none := rfl
  have hcx : (cutI s.data.toList).1.length ≤ s.size ∧ (cutI s.data.toList).2.1.length ≤ s.size := by
    unfold cutI Go.Lib.cut
    split
    · simp only [List.length_take, List.length_drop]; omega
    · simp only [List.length_nil]; omega
  change Calls _ _ _ _ (fun e w' => e = .returned (.tuple #[.string ⟨(cutI s.data.toList).1.toArray⟩, .string ⟨(cutI s.data.toList).2.1.toArray⟩, .bool (cutI s.data.toList).2.2]) ∧ _) at hcut
  obtain ⟨X, hX⟩ : ∃ X, X = (cutI s.data.toList).1 := ⟨_, rfl⟩
  obtain ⟨Y, hY⟩ : ∃ Y, Y = (cutI s.data.toList).2.1 := ⟨_, rfl⟩
  obtain ⟨Z, hZ⟩ : ∃ Z, Z = (cutI s.data.toList).2.2 := ⟨_, rfl⟩
  rw [← hX, ← hY, ← hZ] at hR
  rw [← hX, ← hY] at hcx
  rw [← hX, ← hY, ← hZ] at hcut
  rw [hR]
  clear hX hY hZ hR hl
  have HC := Go.Lib.hid hcut
  clear hcut
  obtain ⟨hx, hy⟩ := hcx
  have HNX := Go.Lib.hid (fun w0 (h : Below w.heap.size w w0) => (implReadNumber ⟨X.toArray⟩ w0 (by show X.length ≤ _; omega) (ht.below h) (he.below h)).mono fun _ _ h => NumEnd2.eq h)
  have HNY := Go.Lib.hid (fun w0 (h : Below w.heap.size w w0) => (implReadNumber ⟨Y.toArray⟩ w0 (by show Y.length ≤ _; omega) (ht.below h) (he.below h)).mono fun _ _ h => NumEnd2.eq h)
  rw [show (⟨X.toArray⟩ : ByteArray).data.toList = X by simp] at HNX
  rw [show (⟨Y.toArray⟩ : ByteArray).data.toList = Y by simp] at HNY
  cases Z
  · simp only [Bool.false_eq_true, if_false, Bool.false_and, Bool.not_false, Bool.and_true]
    clear HNY
    generalize numB X = A at HNX ⊢
    cases A with
    | none =>
      change Calls _ _ _ _ (ReadIEnd w none)
      dsimp only [numV, Option.isSome] at HNX
      go_enter Tryd.func20, Tryd.ntmps20
      go_wp2_with fail
      refine HC.out.mono ?_
      rintro e w1 ⟨rfl, m1, rfl⟩
      go_wp2_with fail
      have V0 : Hid (VCtx w [(w.heap.size + 1, 0, 0), (w.heap.size, 0, 0)] (((w.alloc (.cells #[.int .i64 0, .int .i64 0] 31)).drewN m1).alloc (.cells #[.int .i64 0, .int .i64 0] 31))) := by
        have h1 : VCtx w [] w := ⟨Below.refl _ _, fun v hv => by cases hv⟩
        have h2 := ((h1.var (x := 0) (y := 0) 31).drewN m1).var (x := 0) (y := 0) 31
        have e : ((w.alloc (.cells #[.int .i64 0, .int .i64 0] 31)).drewN m1).heap.size = w.heap.size + 1 := by simp [World.drewN]
        rw [e] at h2
        exact h2
      generalize ((w.alloc (.cells #[.int .i64 0, .int .i64 0] 31)).drewN m1).alloc (.cells #[.int .i64 0, .int .i64 0] 31) = v0 at V0 ⊢
      refine (HNX.out v0 V0.out.below).mono ?_
      rintro e v1 ⟨rfl, b1⟩
      have V1 := Go.Lib.hid (V0.out.step b1)
      clear b1 V0
      have fa := V1.out.c0 (r := w.heap.size + 1) (x := 0) (y := 0) (by simp)
      have fb := V1.out.c1 (r := w.heap.size + 1) (x := 0) (y := 0) (by simp)
      have ff := (V1.out.vars (w.heap.size + 1, 0, 0) (by simp)).fr
      have fl := V1.out.lt (r := w.heap.size + 1) (x := 0) (y := 0) (by simp)
      have ga := V1.out.c0 (r := w.heap.size) (x := 0) (y := 0) (by simp)
      have gb := V1.out.c1 (r := w.heap.size) (x := 0) (y := 0) (by simp)
      have gf := (V1.out.vars (w.heap.size, 0, 0) (by simp)).fr
      have gl := V1.out.lt (r := w.heap.size) (x := 0) (y := 0) (by simp)
      go_wp2_with fail
      clear fa fb ff fl ga gb gf gl
      have V2 := Go.Lib.hid (V1.out.st0 (by omega) (by omega) (0))
      generalize v1.setCell ⟨w.heap.size + 1, 0, none⟩ (.int .i64 (0)) = v2 at V2 ⊢
      clear V1
      refine (HNX.out v2 V2.out.below).mono ?_
      rintro e v3 ⟨rfl, b3⟩
      have V3 := Go.Lib.hid (V2.out.step b3)
      clear b3 V2
      have fa := V3.out.c0 (r := w.heap.size + 1) (x := 0) (y := 0) (by simp)
      have fb := V3.out.c1 (r := w.heap.size + 1) (x := 0) (y := 0) (by simp)
      have ff := (V3.out.vars (w.heap.size + 1, 0, 0) (by simp)).fr
      have fl := V3.out.lt (r := w.heap.size + 1) (x := 0) (y := 0) (by simp)
      have ga := V3.out.c0 (r := w.heap.size) (x := 0) (y := 0) (by simp)
      have gb := V3.out.c1 (r := w.heap.size) (x := 0) (y := 0) (by simp)
      have gf := (V3.out.vars (w.heap.size, 0, 0) (by simp)).fr
      have gl := V3.out.lt (r := w.heap.size) (x := 0) (y := 0) (by simp)
      go_wp2_with fail
      refine bodyPost_ret (v := .tuple #[ivV (0) (0), .int .i64 6]) (by simp [results, Tryd.results20, go_sem, fa, fb, ff, fl, ga, gb, gf, gl]) rfl ⟨?_, rfl⟩
      have B3 := V3.out.below
      go_grown
    | some a =>
      dsimp only [numV, Option.isSome] at HNX
      have kv := fun w0 => isValid a a w0
      cases hv : vldB a a
      · change Calls _ _ _ _ (ReadIEnd w (if vldB a a = true then some (a, a) else none))
        rw [hv, if_neg (by decide)]
        rw [hv] at kv
        have K := Go.Lib.hid kv
        clear kv hv
        go_enter Tryd.func20, Tryd.ntmps20
        go_wp2_with fail
        refine HC.out.mono ?_
        rintro e w1 ⟨rfl, m1, rfl⟩
        go_wp2_with fail
        have V0 : Hid (VCtx w [(w.heap.size + 1, 0, 0), (w.heap.size, 0, 0)] (((w.alloc (.cells #[.int .i64 0, .int .i64 0] 31)).drewN m1).alloc (.cells #[.int .i64 0, .int .i64 0] 31))) := by
          have h1 : VCtx w [] w := ⟨Below.refl _ _, fun v hv => by cases hv⟩
          have h2 := ((h1.var (x := 0) (y := 0) 31).drewN m1).var (x := 0) (y := 0) 31
          have e : ((w.alloc (.cells #[.int .i64 0, .int .i64 0] 31)).drewN m1).heap.size = w.heap.size + 1 := by simp [World.drewN]
          rw [e] at h2
          exact h2
        generalize ((w.alloc (.cells #[.int .i64 0, .int .i64 0] 31)).drewN m1).alloc (.cells #[.int .i64 0, .int .i64 0] 31) = v0 at V0 ⊢
        refine (HNX.out v0 V0.out.below).mono ?_
        rintro e v1 ⟨rfl, b1⟩
        have V1 := Go.Lib.hid (V0.out.step b1)
        clear b1 V0
        have fa := V1.out.c0 (r := w.heap.size + 1) (x := 0) (y := 0) (by simp)
        have fb := V1.out.c1 (r := w.heap.size + 1) (x := 0) (y := 0) (by simp)
        have ff := (V1.out.vars (w.heap.size + 1, 0, 0) (by simp)).fr
        have fl := V1.out.lt (r := w.heap.size + 1) (x := 0) (y := 0) (by simp)
        have ga := V1.out.c0 (r := w.heap.size) (x := 0) (y := 0) (by simp)
        have gb := V1.out.c1 (r := w.heap.size) (x := 0) (y := 0) (by simp)
        have gf := (V1.out.vars (w.heap.size, 0, 0) (by simp)).fr
        have gl := V1.out.lt (r := w.heap.size) (x := 0) (y := 0) (by simp)
        go_wp2_with fail
        clear fa fb ff fl ga gb gf gl
        have V2 := Go.Lib.hid (V1.out.st0 (by omega) (by omega) (a))
        generalize v1.setCell ⟨w.heap.size + 1, 0, none⟩ (.int .i64 (a)) = v2 at V2 ⊢
        clear V1
        refine (HNX.out v2 V2.out.below).mono ?_
        rintro e v3 ⟨rfl, b3⟩
        have V3 := Go.Lib.hid (V2.out.step b3)
        clear b3 V2
        have fa := V3.out.c0 (r := w.heap.size + 1) (x := a) (y := 0) (by simp)
        have fb := V3.out.c1 (r := w.heap.size + 1) (x := a) (y := 0) (by simp)
        have ff := (V3.out.vars (w.heap.size + 1, a, 0) (by simp)).fr
        have fl := V3.out.lt (r := w.heap.size + 1) (x := a) (y := 0) (by simp)
        have ga := V3.out.c0 (r := w.heap.size) (x := 0) (y := 0) (by simp)
        have gb := V3.out.c1 (r := w.heap.size) (x := 0) (y := 0) (by simp)
        have gf := (V3.out.vars (w.heap.size, 0, 0) (by simp)).fr
        have gl := V3.out.lt (r := w.heap.size) (x := 0) (y := 0) (by simp)
        go_wp2_with fail
        clear fa fb ff fl ga gb gf gl
        have V4 := Go.Lib.hid (V3.out.st1 (by omega) (by omega) (a))
        generalize v3.setCell ⟨w.heap.size + 1, 1, none⟩ (.int .i64 (a)) = v4 at V4 ⊢
        clear V3
        refine (K.out v4).mono ?_
        rintro e v5 ⟨rfl, b5⟩
        have V5 := Go.Lib.hid (V4.out.step b5)
        clear b5 V4
        have fa := V5.out.c0 (r := w.heap.size + 1) (x := a) (y := a) (by simp)
        have fb := V5.out.c1 (r := w.heap.size + 1) (x := a) (y := a) (by simp)
        have ff := (V5.out.vars (w.heap.size + 1, a, a) (by simp)).fr
        have fl := V5.out.lt (r := w.heap.size + 1) (x := a) (y := a) (by simp)
        have ga := V5.out.c0 (r := w.heap.size) (x := 0) (y := 0) (by simp)
        have gb := V5.out.c1 (r := w.heap.size) (x := 0) (y := 0) (by simp)
        have gf := (V5.out.vars (w.heap.size, 0, 0) (by simp)).fr
        have gl := V5.out.lt (r := w.heap.size) (x := 0) (y := 0) (by simp)
        go_wp2_with fail
        refine bodyPost_ret (v := .tuple #[ivV (0) (0), .int .i64 6]) (by simp [results, Tryd.results20, go_sem, fa, fb, ff, fl, ga, gb, gf, gl]) rfl ⟨?_, rfl⟩
        have B5 := V5.out.below
        go_grown
      · change Calls _ _ _ _ (ReadIEnd w (if vldB a a = true then some (a, a) else none))
        rw [hv, if_pos rfl]
        rw [hv] at kv
        have K := Go.Lib.hid kv
        clear kv hv
        go_enter Tryd.func20, Tryd.ntmps20
        go_wp2_with fail
        refine HC.out.mono ?_
        rintro e w1 ⟨rfl, m1, rfl⟩
        go_wp2_with fail
        have V0 : Hid (VCtx w [(w.heap.size + 1, 0, 0), (w.heap.size, 0, 0)] (((w.alloc (.cells #[.int .i64 0, .int .i64 0] 31)).drewN m1).alloc (.cells #[.int .i64 0, .int .i64 0] 31))) := by
          have h1 : VCtx w [] w := ⟨Below.refl _ _, fun v hv => by cases hv⟩
          have h2 := ((h1.var (x := 0) (y := 0) 31).drewN m1).var (x := 0) (y := 0) 31
          have e : ((w.alloc (.cells #[.int .i64 0, .int .i64 0] 31)).drewN m1).heap.size = w.heap.size + 1 := by simp [World.drewN]
          rw [e] at h2
          exact h2
        generalize ((w.alloc (.cells #[.int .i64 0, .int .i64 0] 31)).drewN m1).alloc (.cells #[.int .i64 0, .int .i64 0] 31) = v0 at V0 ⊢
        refine (HNX.out v0 V0.out.below).mono ?_
        rintro e v1 ⟨rfl, b1⟩
        have V1 := Go.Lib.hid (V0.out.step b1)
        clear b1 V0
        have fa := V1.out.c0 (r := w.heap.size + 1) (x := 0) (y := 0) (by simp)
        have fb := V1.out.c1 (r := w.heap.size + 1) (x := 0) (y := 0) (by simp)
        have ff := (V1.out.vars (w.heap.size + 1, 0, 0) (by simp)).fr
        have fl := V1.out.lt (r := w.heap.size + 1) (x := 0) (y := 0) (by simp)
        have ga := V1.out.c0 (r := w.heap.size) (x := 0) (y := 0) (by simp)
        have gb := V1.out.c1 (r := w.heap.size) (x := 0) (y := 0) (by simp)
        have gf := (V1.out.vars (w.heap.size, 0, 0) (by simp)).fr
        have gl := V1.out.lt (r := w.heap.size) (x := 0) (y := 0) (by simp)
        go_wp2_with fail
        clear fa fb ff fl ga gb gf gl
        have V2 := Go.Lib.hid (V1.out.st0 (by omega) (by omega) (a))
        generalize v1.setCell ⟨w.heap.size + 1, 0, none⟩ (.int .i64 (a)) = v2 at V2 ⊢
        clear V1
        refine (HNX.out v2 V2.out.below).mono ?_
        rintro e v3 ⟨rfl, b3⟩
        have V3 := Go.Lib.hid (V2.out.step b3)
        clear b3 V2
        have fa := V3.out.c0 (r := w.heap.size + 1) (x := a) (y := 0) (by simp)
        have fb := V3.out.c1 (r := w.heap.size + 1) (x := a) (y := 0) (by simp)
        have ff := (V3.out.vars (w.heap.size + 1, a, 0) (by simp)).fr
        have fl := V3.out.lt (r := w.heap.size + 1) (x := a) (y := 0) (by simp)
        have ga := V3.out.c0 (r := w.heap.size) (x := 0) (y := 0) (by simp)
        have gb := V3.out.c1 (r := w.heap.size) (x := 0) (y := 0) (by simp)
        have gf := (V3.out.vars (w.heap.size, 0, 0) (by simp)).fr
        have gl := V3.out.lt (r := w.heap.size) (x := 0) (y := 0) (by simp)
        go_wp2_with fail
        clear fa fb ff fl ga gb gf gl
        have V4 := Go.Lib.hid (V3.out.st1 (by omega) (by omega) (a))
        generalize v3.setCell ⟨w.heap.size + 1, 1, none⟩ (.int .i64 (a)) = v4 at V4 ⊢
        clear V3
        refine (K.out v4).mono ?_
        rintro e v5 ⟨rfl, b5⟩
        have V5 := Go.Lib.hid (V4.out.step b5)
        clear b5 V4
        have fa := V5.out.c0 (r := w.heap.size + 1) (x := a) (y := a) (by simp)
        have fb := V5.out.c1 (r := w.heap.size + 1) (x := a) (y := a) (by simp)
        have ff := (V5.out.vars (w.heap.size + 1, a, a) (by simp)).fr
        have fl := V5.out.lt (r := w.heap.size + 1) (x := a) (y := a) (by simp)
        have ga := V5.out.c0 (r := w.heap.size) (x := 0) (y := 0) (by simp)
        have gb := V5.out.c1 (r := w.heap.size) (x := 0) (y := 0) (by simp)
        have gf := (V5.out.vars (w.heap.size, 0, 0) (by simp)).fr
        have gl := V5.out.lt (r := w.heap.size) (x := 0) (y := 0) (by simp)
        go_wp2_with fail
        refine bodyPost_ret (v := .tuple #[ivV (a) (a), .int .i64 0]) (by simp [results, Tryd.results20, go_sem, fa, fb, ff, fl, ga, gb, gf, gl]) rfl ⟨?_, rfl⟩
        have B5 := V5.out.below
        go_grown
  · simp only [if_true, Bool.true_and]
    generalize numB X = A at HNX ⊢
    generalize numB Y = B at HNY ⊢
    cases A with
    | none =>
      change Calls _ _ _ _ (ReadIEnd w none)
      dsimp only [numV, Option.isSome] at HNX
      generalize numV B = bv at HNY
      generalize B.isSome = bo at HNY
      go_enter Tryd.func20, Tryd.ntmps20
      go_wp2_with fail
      refine HC.out.mono ?_
      rintro e w1 ⟨rfl, m1, rfl⟩
      go_wp2_with fail
      have V0 : Hid (VCtx w [(w.heap.size + 1, 0, 0), (w.heap.size, 0, 0)] (((w.alloc (.cells #[.int .i64 0, .int .i64 0] 31)).drewN m1).alloc (.cells #[.int .i64 0, .int .i64 0] 31))) := by
        have h1 : VCtx w [] w := ⟨Below.refl _ _, fun v hv => by cases hv⟩
        have h2 := ((h1.var (x := 0) (y := 0) 31).drewN m1).var (x := 0) (y := 0) 31
        have e : ((w.alloc (.cells #[.int .i64 0, .int .i64 0] 31)).drewN m1).heap.size = w.heap.size + 1 := by simp [World.drewN]
        rw [e] at h2
        exact h2
      generalize ((w.alloc (.cells #[.int .i64 0, .int .i64 0] 31)).drewN m1).alloc (.cells #[.int .i64 0, .int .i64 0] 31) = v0 at V0 ⊢
      refine (HNX.out v0 V0.out.below).mono ?_
      rintro e v1 ⟨rfl, b1⟩
      have V1 := Go.Lib.hid (V0.out.step b1)
      clear b1 V0
      have fa := V1.out.c0 (r := w.heap.size + 1) (x := 0) (y := 0) (by simp)
      have fb := V1.out.c1 (r := w.heap.size + 1) (x := 0) (y := 0) (by simp)
      have ff := (V1.out.vars (w.heap.size + 1, 0, 0) (by simp)).fr
      have fl := V1.out.lt (r := w.heap.size + 1) (x := 0) (y := 0) (by simp)
      have ga := V1.out.c0 (r := w.heap.size) (x := 0) (y := 0) (by simp)
      have gb := V1.out.c1 (r := w.heap.size) (x := 0) (y := 0) (by simp)
      have gf := (V1.out.vars (w.heap.size, 0, 0) (by simp)).fr
      have gl := V1.out.lt (r := w.heap.size) (x := 0) (y := 0) (by simp)
      go_wp2_with fail
      clear fa fb ff fl ga gb gf gl
      have V2 := Go.Lib.hid (V1.out.st0 (by omega) (by omega) (0))
      generalize v1.setCell ⟨w.heap.size + 1, 0, none⟩ (.int .i64 (0)) = v2 at V2 ⊢
      clear V1
      refine (HNY.out v2 V2.out.below).mono ?_
      rintro e v3 ⟨rfl, b3⟩
      have V3 := Go.Lib.hid (V2.out.step b3)
      clear b3 V2
      have fa := V3.out.c0 (r := w.heap.size + 1) (x := 0) (y := 0) (by simp)
      have fb := V3.out.c1 (r := w.heap.size + 1) (x := 0) (y := 0) (by simp)
      have ff := (V3.out.vars (w.heap.size + 1, 0, 0) (by simp)).fr
      have fl := V3.out.lt (r := w.heap.size + 1) (x := 0) (y := 0) (by simp)
      have ga := V3.out.c0 (r := w.heap.size) (x := 0) (y := 0) (by simp)
      have gb := V3.out.c1 (r := w.heap.size) (x := 0) (y := 0) (by simp)
      have gf := (V3.out.vars (w.heap.size, 0, 0) (by simp)).fr
      have gl := V3.out.lt (r := w.heap.size) (x := 0) (y := 0) (by simp)
      go_wp2_with fail
      refine bodyPost_ret (v := .tuple #[ivV (0) (0), .int .i64 6]) (by simp [results, Tryd.results20, go_sem, fa, fb, ff, fl, ga, gb, gf, gl]) rfl ⟨?_, rfl⟩
      have B3 := V3.out.below
      go_grown
    | some a =>
      dsimp only [numV, Option.isSome] at HNX
      cases B with
      | none =>
        change Calls _ _ _ _ (ReadIEnd w none)
        dsimp only [numV, Option.isSome] at HNY
        go_enter Tryd.func20, Tryd.ntmps20
        go_wp2_with fail
        refine HC.out.mono ?_
        rintro e w1 ⟨rfl, m1, rfl⟩
        go_wp2_with fail
        have V0 : Hid (VCtx w [(w.heap.size + 1, 0, 0), (w.heap.size, 0, 0)] (((w.alloc (.cells #[.int .i64 0, .int .i64 0] 31)).drewN m1).alloc (.cells #[.int .i64 0, .int .i64 0] 31))) := by
          have h1 : VCtx w [] w := ⟨Below.refl _ _, fun v hv => by cases hv⟩
          have h2 := ((h1.var (x := 0) (y := 0) 31).drewN m1).var (x := 0) (y := 0) 31
          have e : ((w.alloc (.cells #[.int .i64 0, .int .i64 0] 31)).drewN m1).heap.size = w.heap.size + 1 := by simp [World.drewN]
          rw [e] at h2
          exact h2
        generalize ((w.alloc (.cells #[.int .i64 0, .int .i64 0] 31)).drewN m1).alloc (.cells #[.int .i64 0, .int .i64 0] 31) = v0 at V0 ⊢
        refine (HNX.out v0 V0.out.below).mono ?_
        rintro e v1 ⟨rfl, b1⟩
        have V1 := Go.Lib.hid (V0.out.step b1)
        clear b1 V0
        have fa := V1.out.c0 (r := w.heap.size + 1) (x := 0) (y := 0) (by simp)
        have fb := V1.out.c1 (r := w.heap.size + 1) (x := 0) (y := 0) (by simp)
        have ff := (V1.out.vars (w.heap.size + 1, 0, 0) (by simp)).fr
        have fl := V1.out.lt (r := w.heap.size + 1) (x := 0) (y := 0) (by simp)
        have ga := V1.out.c0 (r := w.heap.size) (x := 0) (y := 0) (by simp)
        have gb := V1.out.c1 (r := w.heap.size) (x := 0) (y := 0) (by simp)
        have gf := (V1.out.vars (w.heap.size, 0, 0) (by simp)).fr
        have gl := V1.out.lt (r := w.heap.size) (x := 0) (y := 0) (by simp)
        go_wp2_with fail
        clear fa fb ff fl ga gb gf gl
        have V2 := Go.Lib.hid (V1.out.st0 (by omega) (by omega) (a))
        generalize v1.setCell ⟨w.heap.size + 1, 0, none⟩ (.int .i64 (a)) = v2 at V2 ⊢
        clear V1
        refine (HNY.out v2 V2.out.below).mono ?_
        rintro e v3 ⟨rfl, b3⟩
        have V3 := Go.Lib.hid (V2.out.step b3)
        clear b3 V2
        have fa := V3.out.c0 (r := w.heap.size + 1) (x := a) (y := 0) (by simp)
        have fb := V3.out.c1 (r := w.heap.size + 1) (x := a) (y := 0) (by simp)
        have ff := (V3.out.vars (w.heap.size + 1, a, 0) (by simp)).fr
        have fl := V3.out.lt (r := w.heap.size + 1) (x := a) (y := 0) (by simp)
        have ga := V3.out.c0 (r := w.heap.size) (x := 0) (y := 0) (by simp)
        have gb := V3.out.c1 (r := w.heap.size) (x := 0) (y := 0) (by simp)
        have gf := (V3.out.vars (w.heap.size, 0, 0) (by simp)).fr
        have gl := V3.out.lt (r := w.heap.size) (x := 0) (y := 0) (by simp)
        go_wp2_with fail
        refine bodyPost_ret (v := .tuple #[ivV (0) (0), .int .i64 6]) (by simp [results, Tryd.results20, go_sem, fa, fb, ff, fl, ga, gb, gf, gl]) rfl ⟨?_, rfl⟩
        have B3 := V3.out.below
        go_grown
      | some b =>
        dsimp only [numV, Option.isSome] at HNY
        have kv := fun w0 => isValid a b w0
        cases hv : vldB a b
        · change Calls _ _ _ _ (ReadIEnd w (if (vldB a b && !(a == b)) = true then some (a, b) else none))
          rw [if_neg (by rw [hv]; simp)]
          rw [hv] at kv
          have K := Go.Lib.hid kv
          clear kv hv
          go_enter Tryd.func20, Tryd.ntmps20
          go_wp2_with fail
          refine HC.out.mono ?_
          rintro e w1 ⟨rfl, m1, rfl⟩
          go_wp2_with fail
          have V0 : Hid (VCtx w [(w.heap.size + 1, 0, 0), (w.heap.size, 0, 0)] (((w.alloc (.cells #[.int .i64 0, .int .i64 0] 31)).drewN m1).alloc (.cells #[.int .i64 0, .int .i64 0] 31))) := by
            have h1 : VCtx w [] w := ⟨Below.refl _ _, fun v hv => by cases hv⟩
            have h2 := ((h1.var (x := 0) (y := 0) 31).drewN m1).var (x := 0) (y := 0) 31
            have e : ((w.alloc (.cells #[.int .i64 0, .int .i64 0] 31)).drewN m1).heap.size = w.heap.size + 1 := by simp [World.drewN]
            rw [e] at h2
            exact h2
          generalize ((w.alloc (.cells #[.int .i64 0, .int .i64 0] 31)).drewN m1).alloc (.cells #[.int .i64 0, .int .i64 0] 31) = v0 at V0 ⊢
          refine (HNX.out v0 V0.out.below).mono ?_
          rintro e v1 ⟨rfl, b1⟩
          have V1 := Go.Lib.hid (V0.out.step b1)
          clear b1 V0
          have fa := V1.out.c0 (r := w.heap.size + 1) (x := 0) (y := 0) (by simp)
          have fb := V1.out.c1 (r := w.heap.size + 1) (x := 0) (y := 0) (by simp)
          have ff := (V1.out.vars (w.heap.size + 1, 0, 0) (by simp)).fr
          have fl := V1.out.lt (r := w.heap.size + 1) (x := 0) (y := 0) (by simp)
          have ga := V1.out.c0 (r := w.heap.size) (x := 0) (y := 0) (by simp)
          have gb := V1.out.c1 (r := w.heap.size) (x := 0) (y := 0) (by simp)
          have gf := (V1.out.vars (w.heap.size, 0, 0) (by simp)).fr
          have gl := V1.out.lt (r := w.heap.size) (x := 0) (y := 0) (by simp)
          go_wp2_with fail
          clear fa fb ff fl ga gb gf gl
          have V2 := Go.Lib.hid (V1.out.st0 (by omega) (by omega) (a))
          generalize v1.setCell ⟨w.heap.size + 1, 0, none⟩ (.int .i64 (a)) = v2 at V2 ⊢
          clear V1
          refine (HNY.out v2 V2.out.below).mono ?_
          rintro e v3 ⟨rfl, b3⟩
          have V3 := Go.Lib.hid (V2.out.step b3)
          clear b3 V2
          have fa := V3.out.c0 (r := w.heap.size + 1) (x := a) (y := 0) (by simp)
          have fb := V3.out.c1 (r := w.heap.size + 1) (x := a) (y := 0) (by simp)
          have ff := (V3.out.vars (w.heap.size + 1, a, 0) (by simp)).fr
          have fl := V3.out.lt (r := w.heap.size + 1) (x := a) (y := 0) (by simp)
          have ga := V3.out.c0 (r := w.heap.size) (x := 0) (y := 0) (by simp)
          have gb := V3.out.c1 (r := w.heap.size) (x := 0) (y := 0) (by simp)
          have gf := (V3.out.vars (w.heap.size, 0, 0) (by simp)).fr
          have gl := V3.out.lt (r := w.heap.size) (x := 0) (y := 0) (by simp)
          go_wp2_with fail
          clear fa fb ff fl ga gb gf gl
          have V4 := Go.Lib.hid (V3.out.st1 (by omega) (by omega) (b))
          generalize v3.setCell ⟨w.heap.size + 1, 1, none⟩ (.int .i64 (b)) = v4 at V4 ⊢
          clear V3
          refine (K.out v4).mono ?_
          rintro e v5 ⟨rfl, b5⟩
          have V5 := Go.Lib.hid (V4.out.step b5)
          clear b5 V4
          have fa := V5.out.c0 (r := w.heap.size + 1) (x := a) (y := b) (by simp)
          have fb := V5.out.c1 (r := w.heap.size + 1) (x := a) (y := b) (by simp)
          have ff := (V5.out.vars (w.heap.size + 1, a, b) (by simp)).fr
          have fl := V5.out.lt (r := w.heap.size + 1) (x := a) (y := b) (by simp)
          have ga := V5.out.c0 (r := w.heap.size) (x := 0) (y := 0) (by simp)
          have gb := V5.out.c1 (r := w.heap.size) (x := 0) (y := 0) (by simp)
          have gf := (V5.out.vars (w.heap.size, 0, 0) (by simp)).fr
          have gl := V5.out.lt (r := w.heap.size) (x := 0) (y := 0) (by simp)
          go_wp2_with fail
          refine bodyPost_ret (v := .tuple #[ivV (0) (0), .int .i64 6]) (by simp [results, Tryd.results20, go_sem, fa, fb, ff, fl, ga, gb, gf, gl]) rfl ⟨?_, rfl⟩
          have B5 := V5.out.below
          go_grown
        · change Calls _ _ _ _ (ReadIEnd w (if (vldB a b && !(a == b)) = true then some (a, b) else none))
          rw [hv]
          rw [hv] at kv
          have K := Go.Lib.hid kv
          clear kv hv
          by_cases hab : a = b
          · subst hab
            rw [if_neg (by simp)]
            go_enter Tryd.func20, Tryd.ntmps20
            go_wp2_with fail
            refine HC.out.mono ?_
            rintro e w1 ⟨rfl, m1, rfl⟩
            go_wp2_with fail
            have V0 : Hid (VCtx w [(w.heap.size + 1, 0, 0), (w.heap.size, 0, 0)] (((w.alloc (.cells #[.int .i64 0, .int .i64 0] 31)).drewN m1).alloc (.cells #[.int .i64 0, .int .i64 0] 31))) := by
              have h1 : VCtx w [] w := ⟨Below.refl _ _, fun v hv => by cases hv⟩
              have h2 := ((h1.var (x := 0) (y := 0) 31).drewN m1).var (x := 0) (y := 0) 31
              have e : ((w.alloc (.cells #[.int .i64 0, .int .i64 0] 31)).drewN m1).heap.size = w.heap.size + 1 := by simp [World.drewN]
              rw [e] at h2
              exact h2
            generalize ((w.alloc (.cells #[.int .i64 0, .int .i64 0] 31)).drewN m1).alloc (.cells #[.int .i64 0, .int .i64 0] 31) = v0 at V0 ⊢
            refine (HNX.out v0 V0.out.below).mono ?_
            rintro e v1 ⟨rfl, b1⟩
            have V1 := Go.Lib.hid (V0.out.step b1)
            clear b1 V0
            have fa := V1.out.c0 (r := w.heap.size + 1) (x := 0) (y := 0) (by simp)
            have fb := V1.out.c1 (r := w.heap.size + 1) (x := 0) (y := 0) (by simp)
            have ff := (V1.out.vars (w.heap.size + 1, 0, 0) (by simp)).fr
            have fl := V1.out.lt (r := w.heap.size + 1) (x := 0) (y := 0) (by simp)
            have ga := V1.out.c0 (r := w.heap.size) (x := 0) (y := 0) (by simp)
            have gb := V1.out.c1 (r := w.heap.size) (x := 0) (y := 0) (by simp)
            have gf := (V1.out.vars (w.heap.size, 0, 0) (by simp)).fr
            have gl := V1.out.lt (r := w.heap.size) (x := 0) (y := 0) (by simp)
            go_wp2_with fail
            clear fa fb ff fl ga gb gf gl
            have V2 := Go.Lib.hid (V1.out.st0 (by omega) (by omega) (a))
            generalize v1.setCell ⟨w.heap.size + 1, 0, none⟩ (.int .i64 (a)) = v2 at V2 ⊢
            clear V1
            refine (HNY.out v2 V2.out.below).mono ?_
            rintro e v3 ⟨rfl, b3⟩
            have V3 := Go.Lib.hid (V2.out.step b3)
            clear b3 V2
            have fa := V3.out.c0 (r := w.heap.size + 1) (x := a) (y := 0) (by simp)
            have fb := V3.out.c1 (r := w.heap.size + 1) (x := a) (y := 0) (by simp)
            have ff := (V3.out.vars (w.heap.size + 1, a, 0) (by simp)).fr
            have fl := V3.out.lt (r := w.heap.size + 1) (x := a) (y := 0) (by simp)
            have ga := V3.out.c0 (r := w.heap.size) (x := 0) (y := 0) (by simp)
            have gb := V3.out.c1 (r := w.heap.size) (x := 0) (y := 0) (by simp)
            have gf := (V3.out.vars (w.heap.size, 0, 0) (by simp)).fr
            have gl := V3.out.lt (r := w.heap.size) (x := 0) (y := 0) (by simp)
            go_wp2_with fail
            clear fa fb ff fl ga gb gf gl
            have V4 := Go.Lib.hid (V3.out.st1 (by omega) (by omega) (a))
            generalize v3.setCell ⟨w.heap.size + 1, 1, none⟩ (.int .i64 (a)) = v4 at V4 ⊢
            clear V3
            refine (K.out v4).mono ?_
            rintro e v5 ⟨rfl, b5⟩
            have V5 := Go.Lib.hid (V4.out.step b5)
            clear b5 V4
            have fa := V5.out.c0 (r := w.heap.size + 1) (x := a) (y := a) (by simp)
            have fb := V5.out.c1 (r := w.heap.size + 1) (x := a) (y := a) (by simp)
            have ff := (V5.out.vars (w.heap.size + 1, a, a) (by simp)).fr
            have fl := V5.out.lt (r := w.heap.size + 1) (x := a) (y := a) (by simp)
            have ga := V5.out.c0 (r := w.heap.size) (x := 0) (y := 0) (by simp)
            have gb := V5.out.c1 (r := w.heap.size) (x := 0) (y := 0) (by simp)
            have gf := (V5.out.vars (w.heap.size, 0, 0) (by simp)).fr
            have gl := V5.out.lt (r := w.heap.size) (x := 0) (y := 0) (by simp)
            go_wp2_with fail
            refine bodyPost_ret (v := .tuple #[ivV (0) (0), .int .i64 6]) (by simp [results, Tryd.results20, go_sem, fa, fb, ff, fl, ga, gb, gf, gl]) rfl ⟨?_, rfl⟩
            have B5 := V5.out.below
            go_grown
          · have hne : (a == b) = false := by simpa using hab
            rw [if_pos (by simp [hab])]
            clear hab
            go_enter Tryd.func20, Tryd.ntmps20
            go_wp2_with fail
            refine HC.out.mono ?_
            rintro e w1 ⟨rfl, m1, rfl⟩
            go_wp2_with fail
            have V0 : Hid (VCtx w [(w.heap.size + 1, 0, 0), (w.heap.size, 0, 0)] (((w.alloc (.cells #[.int .i64 0, .int .i64 0] 31)).drewN m1).alloc (.cells #[.int .i64 0, .int .i64 0] 31))) := by
              have h1 : VCtx w [] w := ⟨Below.refl _ _, fun v hv => by cases hv⟩
              have h2 := ((h1.var (x := 0) (y := 0) 31).drewN m1).var (x := 0) (y := 0) 31
              have e : ((w.alloc (.cells #[.int .i64 0, .int .i64 0] 31)).drewN m1).heap.size = w.heap.size + 1 := by simp [World.drewN]
              rw [e] at h2
              exact h2
            generalize ((w.alloc (.cells #[.int .i64 0, .int .i64 0] 31)).drewN m1).alloc (.cells #[.int .i64 0, .int .i64 0] 31) = v0 at V0 ⊢
            refine (HNX.out v0 V0.out.below).mono ?_
            rintro e v1 ⟨rfl, b1⟩
            have V1 := Go.Lib.hid (V0.out.step b1)
            clear b1 V0
            have fa := V1.out.c0 (r := w.heap.size + 1) (x := 0) (y := 0) (by simp)
            have fb := V1.out.c1 (r := w.heap.size + 1) (x := 0) (y := 0) (by simp)
            have ff := (V1.out.vars (w.heap.size + 1, 0, 0) (by simp)).fr
            have fl := V1.out.lt (r := w.heap.size + 1) (x := 0) (y := 0) (by simp)
            have ga := V1.out.c0 (r := w.heap.size) (x := 0) (y := 0) (by simp)
            have gb := V1.out.c1 (r := w.heap.size) (x := 0) (y := 0) (by simp)
            have gf := (V1.out.vars (w.heap.size, 0, 0) (by simp)).fr
            have gl := V1.out.lt (r := w.heap.size) (x := 0) (y := 0) (by simp)
            go_wp2_with fail
            clear fa fb ff fl ga gb gf gl
            have V2 := Go.Lib.hid (V1.out.st0 (by omega) (by omega) (a))
            generalize v1.setCell ⟨w.heap.size + 1, 0, none⟩ (.int .i64 (a)) = v2 at V2 ⊢
            clear V1
            refine (HNY.out v2 V2.out.below).mono ?_
            rintro e v3 ⟨rfl, b3⟩
            have V3 := Go.Lib.hid (V2.out.step b3)
            clear b3 V2
            have fa := V3.out.c0 (r := w.heap.size + 1) (x := a) (y := 0) (by simp)
            have fb := V3.out.c1 (r := w.heap.size + 1) (x := a) (y := 0) (by simp)
            have ff := (V3.out.vars (w.heap.size + 1, a, 0) (by simp)).fr
            have fl := V3.out.lt (r := w.heap.size + 1) (x := a) (y := 0) (by simp)
            have ga := V3.out.c0 (r := w.heap.size) (x := 0) (y := 0) (by simp)
            have gb := V3.out.c1 (r := w.heap.size) (x := 0) (y := 0) (by simp)
            have gf := (V3.out.vars (w.heap.size, 0, 0) (by simp)).fr
            have gl := V3.out.lt (r := w.heap.size) (x := 0) (y := 0) (by simp)
            go_wp2_with fail
            clear fa fb ff fl ga gb gf gl
            have V4 := Go.Lib.hid (V3.out.st1 (by omega) (by omega) (b))
            generalize v3.setCell ⟨w.heap.size + 1, 1, none⟩ (.int .i64 (b)) = v4 at V4 ⊢
            clear V3
            refine (K.out v4).mono ?_
            rintro e v5 ⟨rfl, b5⟩
            have V5 := Go.Lib.hid (V4.out.step b5)
            clear b5 V4
            have fa := V5.out.c0 (r := w.heap.size + 1) (x := a) (y := b) (by simp)
            have fb := V5.out.c1 (r := w.heap.size + 1) (x := a) (y := b) (by simp)
            have ff := (V5.out.vars (w.heap.size + 1, a, b) (by simp)).fr
            have fl := V5.out.lt (r := w.heap.size + 1) (x := a) (y := b) (by simp)
            have ga := V5.out.c0 (r := w.heap.size) (x := 0) (y := 0) (by simp)
            have gb := V5.out.c1 (r := w.heap.size) (x := 0) (y := 0) (by simp)
            have gf := (V5.out.vars (w.heap.size, 0, 0) (by simp)).fr
            have gl := V5.out.lt (r := w.heap.size) (x := 0) (y := 0) (by simp)
            go_wp2_with fail
            refine bodyPost_ret (v := .tuple #[ivV (a) (b), .int .i64 0]) (by simp [results, Tryd.results20, go_sem, fa, fb, ff, fl, ga, gb, gf, gl]) rfl ⟨?_, rfl⟩
            have B5 := V5.out.below
            go_grown
end Go.Proofs.YtcknknicknolaabDoor
