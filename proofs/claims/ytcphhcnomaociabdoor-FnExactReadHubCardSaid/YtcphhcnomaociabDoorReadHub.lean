/- The contract of the model's ReadHub. -/
import Derived.Test.YtcphhcnomaociabDoorHubText
import Derived.Deep.LoopGhost
import Derived.Deep.AppendLies
namespace Go.Proofs.YtcphhcnomaociabDoor
open Go.RowKit

theorem infoI64 : (Tryd.prog.info? 2).map (fun i => (i.zero, i.size, i.bytes)) = some (some (.int .i64 0), 1, 8) := by kernel_rfl
abbrev hubR2 (p : Hb × Int) : Value := .tuple #[hubV p.1, .int .i64 p.2]
def readA (l : List UInt8) : Hb × Int := match readsH l with | some h => (h, 0) | none => (zeroH, 6)
/-- The measure that word t + 1 tells, or 0; do the first j words behind the first one tell measures? -/
def mAt (X : List ByteArray) (t : Nat) : Int := (readsM (X.getD (t + 1) ByteArray.empty).data.toList).getD 0
def mOk (X : List ByteArray) (t : Nat) : Bool := (readsM (X.getD (t + 1) ByteArray.empty).data.toList).isSome
def okTo (X : List ByteArray) (j : Nat) : Bool := valOk (X.getD 0 ByteArray.empty).data.toList && ((List.range j).all fun t => mOk X t)
def msTo (X : List ByteArray) (j : Nat) : List Int := (List.range j).map fun t => mAt X t
theorem okTo_next (X : List ByteArray) (j : Nat) : okTo X (j + 1) = (okTo X j && mOk X j) := by
  unfold okTo
  rw [List.range_succ, List.all_append, List.all_cons, List.all_nil, Bool.and_true, Bool.and_assoc]
theorem msTo_next (X : List ByteArray) (j : Nat) : msTo X (j + 1) = msTo X j ++ [mAt X j] := by
  unfold msTo
  rw [List.range_succ, List.map_append]; rfl
theorem msTo_len (X : List ByteArray) (j : Nat) : (msTo X j).length = j := by simp [msTo]
theorem cut_five {s : ByteArray} (h : (Slash.cut s).length = 5) : ∃ x0 x1 x2 x3 x4 : ByteArray, Slash.cut s = [x0, x1, x2, x3, x4] ∧ Slash.splitC s.data.toList = [x0.data.toList, x1.data.toList, x2.data.toList, x3.data.toList, x4.data.toList] := by
  have e : (Slash.cut s).map (·.data.toList) = Slash.splitC s.data.toList := by
    unfold Slash.cut
    rw [List.map_map]
    conv => rhs; rw [← List.map_id (Slash.splitC s.data.toList)]
    apply List.map_congr_left
    intro x _
    simp
  match hc : Slash.cut s, h with
  | [x0, x1, x2, x3, x4], _ => exact ⟨x0, x1, x2, x3, x4, rfl, by rw [← e, hc]; rfl⟩
theorem readA_short {s : ByteArray} (h : ¬ (Slash.cut s).length = 5) : readA s.data.toList = (zeroH, 6) := by
  have hl : (Slash.splitC s.data.toList).length = (Slash.cut s).length := by simp [Slash.cut]
  unfold readA readsH
  split
  · rename_i h2
    split at h2
    · rename_i hs
      rw [hs] at hl
      simp at hl
      omega
    · cases h2
  · rfl
theorem readA_five {s : ByteArray} {X : List ByteArray} (hX : Slash.cut s = X) (h : X.length = 5) :
    (okTo X 4 = false → readA s.data.toList = (zeroH, 6)) ∧
    (okTo X 4 = true → hubB ⟨nv 0 (X.getD 0 ByteArray.empty).data.toList, mAt X 0, mAt X 1, mAt X 2, mAt X 3⟩ = false → readA s.data.toList = (zeroH, 6)) ∧
    (okTo X 4 = true → hubB ⟨nv 0 (X.getD 0 ByteArray.empty).data.toList, mAt X 0, mAt X 1, mAt X 2, mAt X 3⟩ = true → readA s.data.toList = (⟨nv 0 (X.getD 0 ByteArray.empty).data.toList, mAt X 0, mAt X 1, mAt X 2, mAt X 3⟩, 0)) := by
  obtain ⟨x0, x1, x2, x3, x4, e1, e2⟩ := cut_five (s := s) (by rw [hX]; exact h)
  rw [hX] at e1
  subst e1
  have hr : readA s.data.toList = match hubOf x0.data.toList x1.data.toList x2.data.toList x3.data.toList x4.data.toList with | some h => (h, 0) | none => (zeroH, 6) := by
    unfold readA readsH
    rw [e2]
  have ho : okTo [x0, x1, x2, x3, x4] 4 = (valOk x0.data.toList && ((readsM x1.data.toList).isSome && ((readsM x2.data.toList).isSome && ((readsM x3.data.toList).isSome && (readsM x4.data.toList).isSome)))) := by
    simp [okTo, mOk, List.range_succ, Bool.and_assoc]
  have m0 : mAt [x0, x1, x2, x3, x4] 0 = (readsM x1.data.toList).getD 0 := rfl
  have m1 : mAt [x0, x1, x2, x3, x4] 1 = (readsM x2.data.toList).getD 0 := rfl
  have m2 : mAt [x0, x1, x2, x3, x4] 2 = (readsM x3.data.toList).getD 0 := rfl
  have m3 : mAt [x0, x1, x2, x3, x4] 3 = (readsM x4.data.toList).getD 0 := rfl
  rw [hr, ho, m0, m1, m2, m3]
  show (_ → _) ∧ (_ → hubB ⟨nv 0 x0.data.toList, _, _, _, _⟩ = false → _) ∧ (_ → hubB ⟨nv 0 x0.data.toList, _, _, _, _⟩ = true → _ = ((⟨nv 0 x0.data.toList, _, _, _, _⟩ : Hb), 0))
  unfold hubOf
  cases hv : valOk x0.data.toList
  · simp
  · cases h1 : readsM x1.data.toList with
    | none => simp
    | some a =>
      cases h2 : readsM x2.data.toList with
      | none => simp
      | some b =>
        cases h3 : readsM x3.data.toList with
        | none => simp
        | some c =>
          cases h4 : readsM x4.data.toList with
          | none => simp
          | some d =>
            simp
            refine ⟨fun h => ?_, fun h => ?_⟩ <;> rw [h] <;> simp
end Go.Proofs.YtcphhcnomaociabDoor
