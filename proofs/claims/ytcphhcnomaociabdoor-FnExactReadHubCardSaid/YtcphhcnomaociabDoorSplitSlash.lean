/- Contract of spec.l01Split at a slash: the pieces of a text. -/
import Derived.Test.YtcphhcnomaociabDoorBas
import Derived.Test.YtcphhcnomaociabDoorPlainSlash
import Derived.WalkKit
import Derived.WalkLawsBesides
import Derived.WalkSpells
import Derived.Deep.LoopGhost
import Derived.Deep.AppendLies
namespace Go.Proofs.YtcphhcnomaociabDoor.Slash
open Go.RowKit

/-- A list of strings that the call has gathered. -/
def GathS (w : World) (zs : List ByteArray) (v : Value) (wr : World) : Prop :=
  ∃ A cap, v = .slice A zs.length cap ∧ Ow wr w.heap.size wr.heap.size 9 A zs.length cap (bas zs) ∧ Below w.heap.size w wr
theorem GathS.next {w wr w3 : World} {zs : List ByteArray} {x : ByteArray} {cap g cap3 : Nat} {A : Option Addr} {o : Obj} (ho : Ow wr w.heap.size wr.heap.size 9 A zs.length cap (bas zs)) (hb : Below w.heap.size w wr)
    (hown : w3.ownsRow w.heap.size 9 1 (.slice (some ⟨g, 0, none⟩) (zs.length + 1) cap3) (zs.length + 1) (bas zs ++ [.string x])) (hgrow : (wr.alloc o).grownBy w3 (Value.slice A zs.length cap).ownBlock) (hlt : g < w3.heap.size) :
    GathS w (zs ++ [x]) (.slice (some ⟨g, 0, none⟩) (zs.length + 1) cap3) w3 := by
  have hb3 : Below w.heap.size w w3 := (hb.alloc hb.size _).grown hgrow (by have := hb.size; simp; omega) (fun j hj => (ho.1.lt j hj).1)
  have hl : (zs ++ [x]).length = zs.length + 1 := by simp
  have hbs : bas (zs ++ [x]) = bas zs ++ [.string x] := by simp [bas]
  refine ⟨_, cap3, by rw [hl], ?_, hb3⟩
  rw [hl, hbs]
  exact ⟨hown, fun g' hg' => by rw [← show g = g' by simpa [Value.ownBlock] using hg']; exact hlt⟩
theorem GathS.done {w wr : World} {zs : List ByteArray} {v : Value} (h : GathS w zs v wr) : NewStrs w zs (.returned v) wr := by
  obtain ⟨A, cap, rfl, ho, hb⟩ := h
  exact ⟨A, cap, rfl, ho, hb⟩

def stx (s : ByteArray) (k : Nat) : List ByteArray × Nat := if k ≤ s.size then st s k else (cut s, k)
theorem stx_len (s : ByteArray) (k : Nat) (h : k ≤ s.size + 1) : (stx s k).1.length ≤ k := by
  unfold stx
  split
  · exact (st_le s k).2
  · have := cut_len s; simp only; omega

theorem stx_at {s : ByteArray} {k : Nat} (h : k ≤ s.size) : stx s k = st s k := by unfold stx; rw [if_pos h]
theorem stx_last (s : ByteArray) : stx s (s.size + 1) = ((stx s s.size).1 ++ [s.extract (stx s s.size).2 s.size], s.size + 1) := by
  rw [stx_at (Nat.le_refl _)]
  unfold stx
  rw [if_neg (by omega), st_cut]
theorem stx_hit {s : ByteArray} {k : Nat} (hk : k < s.size) (h : s.data.toList.getD k 0 = 47) : stx s (k + 1) = ((stx s k).1 ++ [s.extract (stx s k).2 k], k + 1) := by
  rw [stx_at (by omega), stx_at (by omega), st_hit s k h]
theorem stx_miss {s : ByteArray} {k : Nat} (hk : k < s.size) (h : ¬ s.data.toList.getD k 0 = 47) : stx s (k + 1) = stx s k := by
  rw [stx_at (by omega), stx_at (by omega), st_miss s k h]
theorem stx_from {s : ByteArray} {k : Nat} (hk : k ≤ s.size) : (stx s k).2 ≤ k := by rw [stx_at hk]; exact (st_le s k).1
theorem byte_at {s : ByteArray} {k : Nat} (hk : k < s.size) : s.data.toList.getD k 0 = s[k] := by
  rw [getD_of (by simpa using hk)]
  rfl

set_option maxRecDepth 100000 in
theorem specSplit (s : ByteArray) (w : World) (hs : s.size ≤ 8000000000000) :
    Calls Tryd.prog 30 #[.string s, .int .u8 47] w (NewStrs w (cut s)) := by
  obtain ⟨i0, hi, hz0, hz1, hz2⟩ := info_parts infoStr
  go_enter Tryd.func30, Tryd.ntmps30
  go_wp2
  go_loopw [5, 6, 7] (fun v f i wr => ∃ k : Nat, k ≤ s.size + 1 ∧ i = .int .i64 k ∧ f = .int .i64 ((stx s k).2 : Nat) ∧ GathS w (stx s k).1 v wr) (fun _ _ i _ => s.size + 1 - (intOf i).toNat)
  case atStart =>
    refine ⟨0, Nat.zero_le _, rfl, rfl, some ⟨w.heap.size, 0, none⟩, 0, rfl, ⟨World.ownsRow_made w #[] 0 (Nat.le_refl _) (Nat.zero_le _) rfl, fun g hg => ?_⟩, (Below.refl _ _).alloc (Nat.le_refl _) _⟩
    rw [← show w.heap.size = g by simpa [Value.ownBlock] using hg]
    simp
  case round =>
    obtain ⟨k, hk, rfl, rfl, A, cap, rfl, ho, hb⟩ := hrel
    by_cases hend : k = s.size + 1
    · have hgt : (s.size : Int) < (k : Int) := by omega
      have hcut : (stx s k).1 = cut s := by unfold stx; rw [if_neg (by omega)]
      rw [hcut] at ho ⊢
      obtain ⟨N, hN⟩ : ∃ N, N = (cut s).length := ⟨_, rfl⟩
      rw [← hN] at ho ⊢
      have HN := Go.Lib.hid hN
      clear hend hcut hN
      go_wp2
      go_ret
      rw [HN.out] at ho ⊢
      exact ⟨A, cap, rfl, ho, hb⟩
    · have hks : k ≤ s.size := by omega
      have hlen := stx_len s k hk
      have hfrom := stx_from hks
      obtain ⟨f, hf⟩ : ∃ f, f = (stx s k).2 := ⟨_, rfl⟩
      obtain ⟨L, hL⟩ : ∃ L, L = (stx s k).1 := ⟨_, rfl⟩
      rw [← hf] at hfrom ⊢
      rw [← hL] at hlen ho ⊢
      have HF := Go.Lib.hid hf
      have HL := Go.Lib.hid hL
      clear hf hL
      by_cases hhit : k = s.size ∨ s.data.toList.getD k 0 = 47
      · have hnext : stx s (k + 1) = (L ++ [s.extract f k], k + 1) := by
          rw [HL.out, HF.out]
          by_cases he : k = s.size
          · subst he; exact stx_last s
          · exact stx_hit (by omega) (by rcases hhit with h | h; exact absurd h he; exact h)
        have HN := Go.Lib.hid hnext
        clear hnext
        have hq : ((k : Int) == (s.size : Int)) = true ∨ (((k : Int) == (s.size : Int)) = false ∧ ∃ h : k < s.size, ((s[k].toNat : Int) == 47) = true) := by
          by_cases he : k = s.size
          · left; simp [he]
          · right
            refine ⟨by simp; omega, by omega, ?_⟩
            rcases hhit with h | h
            · exact absurd h he
            · rw [byte_at (by omega)] at h
              rw [h]; rfl
        clear hhit
        rcases hq with hq | ⟨hq, hks2, hby⟩
        all_goals
          go_wp2_with (at_builtin; refine wpList_append_lies _ rfl _ _ 43 rfl w.heap.size 9 i0 (.string ⟨#[]⟩) 1 16 Tryd.underlying43 hi hz0 hz1 hz2 rfl (by omega) _ L.length _ rfl (ho.1.alloc _) ⟨wr.heap.size, 0, none⟩ 1 1 [.string (s.extract f k)] rfl rfl (World.news_of_block (heap_alloc_new wr _)) (by simp [Value.oneCell']) (by omega) (by unfold maxLen; omega) (by omega) (by have := hb.size; simp; omega) _ rfl ?_; intro g cap3 w3 hown hgrow hat hlt3)
          have HG := Go.Lib.hid (GathS.next ho hb hown hgrow hlt3)
          clear hown hgrow hat hlt3 ho hb
          go_wp2
          go_roundw
          case rel => exact ⟨k + 1, by omega, by go_num, by rw [HN.out]; go_num, by rw [HN.out]; exact HG.out⟩
          case measure => simp [intOf]; omega
      · have hks2 : k < s.size := by
          rcases Nat.lt_or_ge k s.size with h | h
          · exact h
          · exact absurd (.inl (by omega)) hhit
        have hnc : ¬ s.data.toList.getD k 0 = 47 := fun h => hhit (.inr h)
        have HN := Go.Lib.hid (stx_miss hks2 hnc)
        have hq : ((k : Int) == (s.size : Int)) = false := by simp; omega
        have hby : ((s[k].toNat : Int) == 47) = false := by
          rw [byte_at hks2] at hnc
          simp
          intro h
          apply hnc
          exact UInt8.toNat_inj.1 (by simpa using (by omega : s[k].toNat = 47))
        clear hhit hnc
        go_wp2
        go_roundw
        case rel => exact ⟨k + 1, by omega, by go_num, by rw [HN.out, ← HF.out], by rw [HN.out, ← HL.out]; exact ⟨A, cap, rfl, ho, hb⟩⟩
        case measure => simp [intOf]; omega
end Go.Proofs.YtcphhcnomaociabDoor.Slash
