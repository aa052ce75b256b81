/- The walks of impl.ReadList, spec.l01Numbers and spec.ReadList. -/
import Derived.Test.YtcknknicknolaabDoorReadList
import Derived.Test.YtcknknicknolaabDoorInts
namespace Go.Proofs.YtcknknicknolaabDoor
open Go.RowKit

theorem resL_codes {f : List UInt8 → Option Int} {X : List ByteArray} (h : allSome f X = true) : resL f X = if codeB (valsOf f X) = 0 then some (valsOf f X) else none := by
  unfold resL
  rw [h]
  by_cases hc : codeB (valsOf f X) = 0
  · simp [hc]
  · simp [hc]
theorem resL_miss {f : List UInt8 → Option Int} {X : List ByteArray} (h : allSome f X = false) : resL f X = none := by
  unfold resL
  rw [h]
  rfl

/-- The body of impl.ReadList behind the split. -/
theorem implReadList (s : ByteArray) (w : World) (hs : s.size ≤ 1048576) (hm : HasMax w) (ht : Tab w) (he : HasErrs w) (hd : (s.toList == [45]) = false) :
    Calls Tryd.prog 27 #[.string s] w (ReadLEnd w (resL numB (pieces61 s))) := by
  obtain ⟨i0, hi, hz0, hz1, hz2⟩ := info_parts infoInt
  have hlen := pieces61_len s
  have HS := Go.Lib.hid (implSplit s w hs hm hd)
  have hsz : ∀ z ∈ pieces61 s, z.size ≤ 1048576 := fun z hz => by
    have := splitB_sizes _ _ z hz
    omega
  have HZ := Go.Lib.hid hsz
  clear hsz
  obtain ⟨X, hX⟩ : ∃ X, X = pieces61 s := ⟨_, rfl⟩
  rw [← hX] at hlen HS HZ ⊢
  clear hX
  have hn61 : X.length ≤ 61 := by omega
  clear hlen
  go_enter Tryd.func27, Tryd.ntmps27
  go_wp2_with fail
  refine HS.out.mono ?_
  rintro e w1 ⟨A, cap, rfl, ho, hb1⟩
  have hrd := ho.rd
  have hs1 := hb1.size
  have start : GathI w1 (valsOf numB X) 0 (.slice none 0 0) w1 := ⟨none, 0, rfl, ⟨World.ownsRow_nil _ _ _ _, fun g hg => by cases hg⟩, Below.refl _ _⟩
  have START := Go.Lib.hid start
  clear start ho
  go_wp2_with fail
  go_loopw [4, 12] (fun v i wr => ∃ k : Nat, k ≤ X.length ∧ i = .int .i64 k ∧ SomeTo numB X k ∧ GathI w1 (valsOf numB X) k v wr) (fun _ i _ => X.length - (intOf i).toNat)
  case atStart => exact ⟨0, Nat.zero_le _, rfl, fun j h => absurd h (by omega), START.out⟩
  case round =>
    obtain ⟨k, hk, rfl, hsome, A2, cap2, rfl, ho2, hbr⟩ := hrel
    have hb : Below w.heap.size w wr := hb1.trans (hbr.mono hs1)
    by_cases hlt : k < X.length
    · obtain ⟨b, o, rfl, p, q, c⟩ := hrd.at_ hlt
      have hcell : wr.cell? ⟨b, o + k, none⟩ = some (.string (X.getD k ByteArray.empty)) := (hbr.cell (p := ⟨b, o + k, none⟩) q).trans (c k _ (bas_at X k hlt))
      have hxs := HZ.out (X.getD k ByteArray.empty) (by simp [hlt])
      have htk := valsOf_take (f := numB) hlt
      have hno := fun h => allSome_no (f := numB) hlt h
      have hsc := fun h => hsome.succ (k := k) h
      obtain ⟨x, hx⟩ : ∃ x, x = X.getD k ByteArray.empty := ⟨_, rfl⟩
      rw [← hx] at hcell hxs htk hno hsc
      have HN := Go.Lib.hid (implReadNumber x wr hxs (ht.below hb) (he.below hb))
      have HTK := Go.Lib.hid htk
      have HNO := Go.Lib.hid hno
      have HSC := Go.Lib.hid hsc
      clear hx c htk hno hsc hsome hxs
      obtain ⟨r, hr⟩ : ∃ r, r = numB x.data.toList := ⟨_, rfl⟩
      rw [← hr] at HN HTK HNO HSC
      clear hr
      cases r with
      | none =>
        have HM := Go.Lib.hid (resL_miss (HNO.out rfl))
        go_wp2_with fail
        refine HN.out.mono ?_
        rintro e w2 ⟨hb2, rfl⟩
        go_wp2_with fail
        go_ret2
        rw [HM.out]
        exact ReadLEnd.none_ (hb.trans (hb2.mono hb.size))
      | some z =>
        go_wp2_with fail
        refine HN.out.mono ?_
        rintro e w2 ⟨hb2, rfl⟩
        have hws : w1.heap.size ≤ w2.heap.size := Nat.le_trans hbr.size hb2.size
        have ho3 := (ho2.below hb2 (Nat.le_refl _)).1
        go_wp2_with (at_builtin; refine wpList_append_lies _ rfl _ _ 37 rfl w1.heap.size 2 i0 (.int .i64 0) 1 8 Tryd.underlying37 hi hz0 hz1 hz2 rfl (by omega) _ k _ rfl (ho3.alloc _) ⟨w2.heap.size, 0, none⟩ 1 1 [.int .i64 z] rfl rfl (World.news_of_block (heap_alloc_new w2 _)) (by simp [Value.oneCell']) (by omega) (by unfold maxLen; omega) (by omega) (by simp; omega) _ rfl ?_; intro g cap3 w3 hown hgrow hat hlt3)
        have HG := Go.Lib.hid (GathI.next (x := z) ho2 hbr hb2 (by rw [HTK.out]; rfl) hown hgrow hlt3)
        clear hown hgrow hat hlt3 ho2 ho3 hb hb2 hbr hcell
        go_wp2
        go_roundw
        case rel => exact ⟨k + 1, by omega, by go_num, HSC.out rfl, HG.out⟩
        case measure => simp [intOf]; omega
    · obtain rfl : k = X.length := by omega
      have hall := hsome.all
      have htk : (valsOf numB X).take X.length = valsOf numB X := List.take_of_length_le (by rw [valsOf_len]; exact Nat.le_refl _)
      rw [htk] at ho2
      have hvl := valsOf_len numB X
      have HR := Go.Lib.hid (resL_codes hall)
      have HV := Go.Lib.hid hvl
      obtain ⟨Z, hZ⟩ : ∃ Z, Z = valsOf numB X := ⟨_, rfl⟩
      rw [← hZ] at ho2 HR HV
      clear hZ hvl htk hall hsome
      have hk2 := checkList A2 X.length cap2 Z w1.heap.size wr.heap.size wr ho2.rd (by omega)
      cases hc : decide (codeB Z = 0)
      · have hc' : ¬ codeB Z = 0 := by simpa using hc
        have hne : (codeB Z != 0) = true := by simpa using hc'
        have HC := Go.Lib.hid hc'
        have HK := Go.Lib.hid hk2
        clear hc hc' hk2
        go_wp2_with fail
        refine HK.out.mono ?_
        rintro e w' ⟨rfl, rfl⟩
        go_wp2_with fail
        go_ret2
        rw [HR.out, if_neg HC.out]
        exact ReadLEnd.none_ hb
      · have hc' : codeB Z = 0 := by simpa using hc
        rw [hc'] at hk2
        have HC := Go.Lib.hid hc'
        have HK := Go.Lib.hid hk2
        clear hc hc' hk2
        go_wp2_with fail
        refine HK.out.mono ?_
        rintro e w' ⟨rfl, rfl⟩
        go_wp2_with fail
        go_ret2
        rw [HR.out, if_pos HC.out]
        exact ReadLEnd.some_ HV.out (ho2.lower hs1) hb

theorem implReadList_dash (s : ByteArray) (w : World) (hd : (s.toList == [45]) = true) :
    Calls Tryd.prog 27 #[.string s] w (ReadLEnd w (some [])) := by
  have HS := Go.Lib.hid (implSplit_dash s w hd)
  have hk := checkList none 0 0 [] 0 0 w (Rd.nil_ _ _ _ _) (by omega)
  have hc : codeB [] = 0 := rfl
  rw [hc] at hk
  have HK := Go.Lib.hid hk
  clear hk hc
  go_enter Tryd.func27, Tryd.ntmps27
  go_wp2_with fail
  refine HS.out.mono ?_
  rintro e w' ⟨rfl, rfl⟩
  go_wp2_with fail
  refine wp_loop_rounds 1 ?_
  rw [rounds_succ]
  go_wp2_with fail
  refine HK.out.mono ?_
  rintro e w' ⟨rfl, rfl⟩
  go_wp2_with fail
  go_ret2
  exact ReadLEnd.some_ (zs := []) rfl ⟨World.ownsRow_nil _ _ _ _, fun g hg => by cases hg⟩ (Below.refl _ _)

theorem implReads (s : ByteArray) (w : World) (hs : s.size ≤ 1048576) (hm : HasMax w) (ht : Tab w) (he : HasErrs w) :
    Calls Tryd.prog 27 #[.string s] w (ReadLEnd w (readsL s)) := by
  unfold readsL
  cases hd : (s.toList == [45])
  · rw [if_neg (by simp), ← resL_61]
    exact implReadList s w hs hm ht he hd
  · rw [if_pos rfl]
    exact implReadList_dash s w hd

/-! ### The other program -/
/-- What l01Numbers hands back. -/
def NumsEnd (w : World) (X : List ByteArray) (e : Ending) (w' : World) : Prop :=
  Below w.heap.size w w' ∧ ((allSome sgnB X = false ∧ e = .returned (.tuple #[.slice none 0 0, .bool false])) ∨
    (allSome sgnB X = true ∧ ∃ A cap, e = .returned (.tuple #[.slice A X.length cap, .bool true]) ∧ Ow w' w.heap.size w'.heap.size 2 A X.length cap (ints (valsOf sgnB X))))

theorem specNumbers (A : Option Addr) (cap : Nat) (X : List ByteArray) (lo : Nat) (w : World) (hrd : Rd w lo w.heap.size A X.length (bas X)) (hn : X.length ≤ 1048577) (hz : ∀ z ∈ X, z.size ≤ 1048576) :
    Calls Tryd.prog 66 #[.slice A X.length cap] w (NumsEnd w X) := by
  obtain ⟨i0, hi, hz0, hz1, hz2⟩ := info_parts infoInt
  have HZ := Go.Lib.hid hz
  have start : GathI w (valsOf sgnB X) 0 (.slice (some ⟨w.heap.size, 0, none⟩) 0 0) (w.alloc (.cells #[] 2)) := by
    refine ⟨_, 0, rfl, ⟨World.ownsRow_made w #[] 0 (Nat.le_refl _) (Nat.zero_le _) rfl, fun g hg => ?_⟩, (Below.refl _ _).alloc (Nat.le_refl _) _⟩
    rw [← show w.heap.size = g by simpa [Value.ownBlock] using hg]
    simp
  have START := Go.Lib.hid start
  clear start hz
  go_enter Tryd.func66, Tryd.ntmps66
  go_wp2_with fail
  go_loopw [4, 5] (fun v i wr => ∃ k : Nat, k ≤ X.length ∧ i = .int .i64 k ∧ SomeTo sgnB X k ∧ GathI w (valsOf sgnB X) k v wr) (fun _ i _ => X.length - (intOf i).toNat)
  case atStart => exact ⟨0, Nat.zero_le _, rfl, fun j h => absurd h (by omega), START.out⟩
  case round =>
    obtain ⟨k, hk, rfl, hsome, A2, cap2, rfl, ho2, hb⟩ := hrel
    by_cases hlt : k < X.length
    · obtain ⟨b, o, rfl, p, q, c⟩ := hrd.at_ hlt
      have hcell : wr.cell? ⟨b, o + k, none⟩ = some (.string (X.getD k ByteArray.empty)) := (hb.cell (p := ⟨b, o + k, none⟩) q).trans (c k _ (bas_at X k hlt))
      have hxs := HZ.out (X.getD k ByteArray.empty) (by simp [hlt])
      have htk := valsOf_take (f := sgnB) hlt
      have hno := fun h => allSome_no (f := sgnB) hlt h
      have hsc := fun h => hsome.succ (k := k) h
      obtain ⟨x, hx⟩ : ∃ x, x = X.getD k ByteArray.empty := ⟨_, rfl⟩
      rw [← hx] at hcell hxs htk hno hsc
      have HN := Go.Lib.hid (specSigned x wr hxs)
      have HTK := Go.Lib.hid htk
      have HNO := Go.Lib.hid hno
      have HSC := Go.Lib.hid hsc
      clear hx c htk hno hsc hsome hxs
      unfold SgnEnd at HN
      obtain ⟨r, hr⟩ : ∃ r, r = sgnB x.data.toList := ⟨_, rfl⟩
      rw [← hr] at HN HTK HNO HSC
      clear hr
      cases r with
      | none =>
        have HM := Go.Lib.hid (HNO.out rfl)
        go_wp2_with fail
        refine HN.out.mono ?_
        rintro e w2 ⟨hb2, v, rfl, -⟩
        go_wp2_with fail
        go_ret2
        exact ⟨hb.trans (hb2.mono hb.size), .inl ⟨HM.out, rfl⟩⟩
      | some z =>
        go_wp2_with fail
        refine HN.out.mono ?_
        rintro e w2 ⟨hb2, v, rfl, hv⟩
        have hvz := hv z rfl
        clear hv
        subst hvz
        have hws : w.heap.size ≤ w2.heap.size := Nat.le_trans hb.size hb2.size
        have ho3 := (ho2.below hb2 (Nat.le_refl _)).1
        go_wp2_with (at_builtin; refine wpList_append_lies _ rfl _ _ 37 rfl w.heap.size 2 i0 (.int .i64 0) 1 8 Tryd.underlying37 hi hz0 hz1 hz2 rfl (by omega) _ k _ rfl (ho3.alloc _) ⟨w2.heap.size, 0, none⟩ 1 1 [.int .i64 v] rfl rfl (World.news_of_block (heap_alloc_new w2 _)) (by simp [Value.oneCell']) (by omega) (by unfold maxLen; omega) (by omega) (by simp; omega) _ rfl ?_; intro g cap3 w3 hown hgrow hat hlt3)
        have HG := Go.Lib.hid (GathI.next (x := v) ho2 hb hb2 (by rw [HTK.out]; rfl) hown hgrow hlt3)
        clear hown hgrow hat hlt3 ho2 ho3 hb hb2 hcell
        go_wp2
        go_roundw
        case rel => exact ⟨k + 1, by omega, by go_num, HSC.out rfl, HG.out⟩
        case measure => simp [intOf]; omega
    · obtain rfl : k = X.length := by omega
      have htk : (valsOf sgnB X).take X.length = valsOf sgnB X := List.take_of_length_le (by rw [valsOf_len]; exact Nat.le_refl _)
      rw [htk] at ho2
      have HA := Go.Lib.hid hsome.all
      clear htk hsome
      go_wp2
      go_ret2
      exact ⟨hb, .inr ⟨HA.out, A2, cap2, rfl, ho2⟩⟩

theorem specReads (s : ByteArray) (w : World) (hs : s.size ≤ 1048576) :
    Calls Tryd.prog 28 #[.string s] w (ReadLEnd w (readsL s)) := by
  unfold readsL
  cases hd : (s.toList == [45])
  · rw [if_neg (by simp)]
    have hlen := cut_len s
    have HS := Go.Lib.hid (specSplit s w (by omega))
    have HZ := Go.Lib.hid (fun z (hz : z ∈ cut s) => Nat.le_trans (cut_sizes _ z hz) hs)
    obtain ⟨X, hX⟩ : ∃ X, X = cut s := ⟨_, rfl⟩
    rw [← hX] at hlen HS HZ ⊢
    clear hX
    have hn : X.length ≤ 1048577 := by omega
    clear hlen
    go_enter Tryd.func28, Tryd.ntmps28
    go_wp2_with fail
    refine HS.out.mono ?_
    rintro e w1 ⟨A, cap, rfl, ho, hb1⟩
    have HN := Go.Lib.hid (specNumbers A cap X w.heap.size w1 ho.rd hn HZ.out)
    go_wp2_with fail
    refine HN.out.mono ?_
    rintro e w2 ⟨hb2, ⟨hall, rfl⟩ | ⟨hall, A2, cap2, rfl, ho2⟩⟩
    · have HM := Go.Lib.hid (resL_miss hall)
      clear hall
      go_wp2_with fail
      go_ret2
      rw [HM.out]
      exact ReadLEnd.none_ (hb1.trans (hb2.mono hb1.size))
    · have hb02 := hb1.trans (hb2.mono hb1.size)
      have HR := Go.Lib.hid (resL_codes hall)
      have HV := Go.Lib.hid (valsOf_len sgnB X)
      obtain ⟨Z, hZ⟩ : ∃ Z, Z = valsOf sgnB X := ⟨_, rfl⟩
      rw [← hZ] at ho2 HR HV
      clear hZ hall
      have hk2 := specValues A2 X.length cap2 Z w1.heap.size w2.heap.size w2 ho2.rd (by omega)
      cases hc : decide (codeB Z = 0)
      · have hc' : ¬ codeB Z = 0 := by simpa using hc
        have hne : (codeB Z != 0) = true := by simpa using hc'
        have HC := Go.Lib.hid hc'
        have HK := Go.Lib.hid hk2
        clear hc hc' hk2
        go_wp2_with fail
        refine HK.out.mono ?_
        rintro e w' ⟨rfl, rfl⟩
        go_wp2_with fail
        go_ret2
        rw [HR.out, if_neg HC.out]
        exact ReadLEnd.none_ hb02
      · have hc' : codeB Z = 0 := by simpa using hc
        rw [hc'] at hk2
        have HC := Go.Lib.hid hc'
        have HK := Go.Lib.hid hk2
        clear hc hc' hk2
        go_wp2_with fail
        refine HK.out.mono ?_
        rintro e w' ⟨rfl, rfl⟩
        go_wp2_with fail
        go_ret2
        rw [HR.out, if_pos HC.out]
        exact ReadLEnd.some_ HV.out (ho2.lower hb1.size) hb02
  · rw [if_pos rfl]
    go_enter Tryd.func28, Tryd.ntmps28
    go_wp2_with fail
    go_ret2
    refine ReadLEnd.some_ (zs := []) rfl ⟨World.ownsRow_made w #[] 0 (Nat.le_refl _) (Nat.zero_le _) rfl, fun g hg => ?_⟩ ((Below.refl _ _).alloc (Nat.le_refl _) _)
    rw [← show w.heap.size = g by simpa [Value.ownBlock] using hg]
    simp
end Go.Proofs.YtcknknicknolaabDoor
