import Derived.Test.YtcphhcnomaociabDoorProg
import Derived.Test.YtcphhcnomaociabDoorMem
import Derived.WalkKit
import Derived.WalkLawsBesides
import Derived.WalkSpells
import Derived.Deep.QuietTactic
import Derived.BigQuiet
import Derived.Deep.RegionWith
import Derived.Lib.ItoaMem
import Derived.Lib.ItoaNum
import Derived.Lib.ItoaLen
import Derived.Laws.IdiomStrings
namespace Go.Proofs.YtcphhcnomaociabDoor
open Go.RowKit

/-- What a call leaves that hands back a string. -/
def NewStr (w : World) (l : List UInt8) (e : Ending) (w' : World) : Prop := e = .returned (.string ⟨l.toArray⟩) ∧ Below w.heap.size w w'
theorem add_str (x y : List UInt8) (h : x.length + y.length ≤ 9223372036854775807) (w : World) :
    (Op.stringOp .add ⟨x.toArray⟩ ⟨y.toArray⟩).run Tryd.prog w = .ok (.string ⟨(x ++ y).toArray⟩) w := by
  rw [run_string_add_sum w _ _ (by simpa [ByteArray.size] using h)]
  congr 3

theorem dec_len (n : Nat) (h : n ≤ 1000000000000000000) : (Go.Lib.decDigits n).length ≤ 20 := by
  rw [Go.Lib.decDigits_length]
  exact Go.Lib.nDigits_le20 n (by omega)

theorem one_byte (w : World) (b : Nat) (z : Int) (h0 : 0 ≤ z) (h1 : z ≤ 255) (hc : w.cell? ⟨b, 0, none⟩ = some (.int .u8 z)) :
    (Go.convert 22 9 (.slice (some ⟨b, 0, none⟩) 1 1)).run Tryd.prog w = .ok (.string ⟨#[UInt8.ofNat z.toNat]⟩) w := by
  refine run_convert_bytes_back (P := Tryd.prog) w 22 9 5 ⟨b, 0, none⟩ 1 [UInt8.ofNat z.toNat] Tryd.underlying22 Tryd.underlying5 Tryd.underlying9 ?_
  intro j hj
  obtain rfl : j = 0 := by simp at hj; omega
  have e : ((UInt8.ofNat z.toNat).toNat : Int) = z := by
    rw [UInt8.toNat_ofNat_of_lt' (by show z.toNat < 256; omega)]; omega
  show w.cell? ((⟨b, 0, none⟩ : Addr).add 0) = some (.int .u8 ((UInt8.ofNat z.toNat).toNat : Int))
  rw [e]
  simpa [Addr.add] using hc

theorem dec_small (z : Int) (h0 : 0 ≤ z) (h : z < 10) : Go.Lib.decDigits z.toNat = [UInt8.ofNat (48 + z).toNat] := by
  rw [Go.Lib.decDigits_one (by omega)]
  congr 2
  omega
theorem dec_step (z : Int) (h : 10 ≤ z) : Go.Lib.decDigits z.toNat = Go.Lib.decDigits (z / 10).toNat ++ [UInt8.ofNat (48 + z % 10).toNat] := by
  rw [Go.Lib.decDigits, dif_neg (by omega)]
  have e1 : z.toNat / 10 = (z / 10).toNat := by omega
  have e2 : 48 + z.toNat % 10 = (48 + z % 10).toNat := by omega
  rw [e1, e2]

set_option maxRecDepth 100000 in
theorem dec_any (f : Nat) : ∀ (z : Int) (w : World), 0 ≤ z → z ≤ f → z ≤ 1000000000000000000 →
    Calls Tryd.prog 44 #[.int .i64 z] w (NewStr w (Go.Lib.decDigits z.toNat)) := by
  induction f with
  | zero =>
    intro z w h0 hf h1
    have h10 : z < 10 := by omega
    have kb := fun w b => one_byte w b (48 + z) (by omega) (by omega)
    go_enter Tryd.func44, Tryd.ntmps44
    go_wp2_with fail
    go_ret
    exact ⟨by rw [dec_small z h0 h10]; rfl, (Below.refl _ _).alloc (Nat.le_refl _) _⟩
  | succ f ih =>
    intro z w h0 hf h1
    by_cases h10 : z < 10
    · have kb := fun w b => one_byte w b (48 + z) (by omega) (by omega)
      go_enter Tryd.func44, Tryd.ntmps44
      go_wp2_with fail
      go_ret
      exact ⟨by rw [dec_small z h0 h10]; rfl, (Below.refl _ _).alloc (Nat.le_refl _) _⟩
    · have kb := fun w b => one_byte w b (48 + z % 10) (by omega) (by omega)
      have IH := Go.Lib.hid ih
      clear ih
      have hlen := dec_len (z / 10).toNat (by omega)
      have ka := add_str (Go.Lib.decDigits (z / 10).toNat) [UInt8.ofNat (48 + z % 10).toNat] (by simp; omega)
      have b1 : z.tdiv 10 = z / 10 := Int.tdiv_eq_ediv_of_nonneg h0
      have b2 : z.tmod 10 = z % 10 := Int.tmod_eq_emod_of_nonneg h0
      have b3 : IntKind.i64.wrap (z / 10) = z / 10 := IntWalk.i64_in _ (by omega)
      have b4 : IntKind.i64.wrap (48 + z % 10) = 48 + z % 10 := IntWalk.i64_in _ (by omega)
      have b5 : IntKind.u8.wrap (48 + z % 10) = 48 + z % 10 := IntWalk.u8_in _ (by omega)
      go_enter Tryd.func44, Tryd.ntmps44
      go_wp2_with fail
      go_region_with (go_at_call 44; refine (IH.out (z / 10) _ (by omega) (by omega) (by omega)).mono ?_; rintro e w1 ⟨rfl, hb⟩; have hcl := bcell hb)
      all_goals (go_wp2; go_ret)
      all_goals refine ⟨by rw [dec_step z (by omega)]; rfl, ?_⟩
      all_goals first | exact (((Below.refl w.heap.size w).alloc (Nat.le_refl _) _).drew).trans (hb.mono (by simp)) | exact ((Below.refl w.heap.size w).drew.trans hb).alloc hb.size _ | exact ((Below.refl w.heap.size w).drew.alloc (Nat.le_refl _) _).trans (hb.mono (by simp))
end Go.Proofs.YtcphhcnomaociabDoor
