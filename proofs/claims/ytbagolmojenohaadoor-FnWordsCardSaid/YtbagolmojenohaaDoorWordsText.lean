/- Contracts of spec.l01All, l01Words, WordsText and impl.checkWords, joinElements, WordsText: both write the same text of words. -/
import Derived.Test.YtbagolmojenohaaDoorBas
import Derived.WalkKit
import Derived.WalkLawsBesides
import Derived.WalkSpells
import Derived.Deep.LoopGhost
import Derived.Test.YtbagolmojenohaaDoorWord
import Derived.Test.YtbagolmojenohaaDoorPlainJoin
import Derived.Test.YtbagolmojenohaaDoorShelf
import Derived.Laws.Concat
namespace Go.Proofs.YtbagolmojenohaaDoor
open Go.RowKit

def wordsB (zs : List ByteArray) : Bool := zs.all wordB
def codeW (zs : List ByteArray) : Int := if wordsB zs then (if 60 < zs.length then 3 else 0) else 1
def texts (zs : List ByteArray) : List (List UInt8) := zs.map (·.data.toList)
def wtext (zs : List ByteArray) : List UInt8 := if zs.length = 0 then [45] else Go.Lib.join (texts zs) [44]
def GoodTo (zs : List ByteArray) (k : Nat) : Prop := ∀ j, j < k → wordB (zs.getD j ByteArray.empty) = true
theorem GoodTo.succ {zs : List ByteArray} {k : Nat} (h : GoodTo zs k) (e : wordB (zs.getD k ByteArray.empty) = true) : GoodTo zs (k + 1) := by
  intro j hj
  by_cases hk : j = k
  · subst hk; exact e
  · exact h j (by omega)
theorem GoodTo.all {zs : List ByteArray} (h : GoodTo zs zs.length) : wordsB zs = true := by
  unfold wordsB
  rw [List.all_eq_true]
  intro x hx
  obtain ⟨j, hj, rfl⟩ := List.mem_iff_getElem.1 hx
  have := h j hj
  simpa [hj] using this
theorem wordsB_no {zs : List ByteArray} {k : Nat} (hk : k < zs.length) (h : wordB (zs.getD k ByteArray.empty) = false) : wordsB zs = false := by
  cases hw : wordsB zs
  · rfl
  · unfold wordsB at hw
    have := List.all_eq_true.1 hw (zs.getD k ByteArray.empty) (by simp [hk])
    rw [h] at this
    cases this
theorem wordsB_at {zs : List ByteArray} (h : wordsB zs = true) {k : Nat} (hk : k < zs.length) : wordB (zs.getD k ByteArray.empty) = true :=
  List.all_eq_true.1 h _ (by simp [hk])
theorem codeW_bad {zs : List ByteArray} (h : wordsB zs = false) : codeW zs = 1 := by unfold codeW; rw [h]; rfl
theorem codeW_long {zs : List ByteArray} (h : wordsB zs = true) (hl : 60 < zs.length) : codeW zs = 3 := by unfold codeW; rw [h, if_pos rfl, if_pos hl]
theorem codeW_ok {zs : List ByteArray} (h : wordsB zs = true) (hl : ¬ 60 < zs.length) : codeW zs = 0 := by unfold codeW; rw [h, if_pos rfl, if_neg hl]
theorem texts_len (zs : List ByteArray) : (texts zs).length = zs.length := by simp [texts]
theorem texts_at (zs : List ByteArray) (k : Nat) (h : k < zs.length) : (texts zs).getD k [] = (zs.getD k ByteArray.empty).data.toList := by simp [texts, h]
theorem texts_le {zs : List ByteArray} (h : wordsB zs = true) : ∀ l ∈ texts zs, l.length ≤ 16 := by
  intro l hl
  obtain ⟨z, hz, rfl⟩ := List.mem_map.1 hl
  have := wordB_small (List.all_eq_true.1 h z hz)
  simpa using this

theorem specAll (A : Option Addr) (n cap : Nat) (zs : List ByteArray) (lo hi : Nat) (w : World) (h : Rd w lo hi A n (bas zs)) (hn : n * 16 ≤ 140737488355328) (hs : ∀ z ∈ zs, z.size ≤ maxLen) :
    Calls Tryd.prog 16 #[.slice A n cap] w fun e w' => e = .returned (.bool (wordsB zs)) ∧ w = w' := by
  have hz : zs.length = n := by have := h.len; rwa [bas_len] at this
  have hn' : n ≤ 140737488355328 := by omega
  have HZ := Go.Lib.hid hz
  clear hz
  go_enter Tryd.func16, Tryd.ntmps16
  go_wp2
  go_loop [3] (fun i => ∃ k : Nat, k ≤ n ∧ i = .int .i64 k ∧ GoodTo zs k) (fun i => n - (intOf i).toNat)
  case atStart => exact ⟨0, Nat.zero_le _, rfl, fun j h => absurd h (by omega)⟩
  case round =>
    obtain ⟨k, hk, rfl, hok⟩ := hrel
    by_cases hlt : k < n
    · obtain ⟨b, o, rfl, p, q, c⟩ := h.at_ hlt
      have hkz : k < zs.length := by have := HZ.out; omega
      have hcell : w.cell? ⟨b, o + k, none⟩ = some (.string (zs.getD k ByteArray.empty)) := c k _ (bas_at zs k hkz)
      have hsz := hs (zs.getD k ByteArray.empty) (by simp [hkz])
      clear c h hs
      obtain ⟨x, hx⟩ : ∃ x, x = zs.getD k ByteArray.empty := ⟨_, rfl⟩
      rw [← hx] at hcell hsz
      have HX := Go.Lib.hid hx
      clear hx
      cases hb : wordB x
      · go_wp2_with (go_at_call 25; refine (specIsWord _ _ hsz).mono ?_; rintro e w' ⟨rfl, rfl⟩)
        go_ret
        exact ⟨ret_bool (wordsB_no (k := k) hkz (by rw [← HX.out]; exact hb)).symm, rfl⟩
      · go_wp2_with (go_at_call 25; refine (specIsWord _ _ hsz).mono ?_; rintro e w' ⟨rfl, rfl⟩)
        go_round
        case rel => exact ⟨k + 1, by omega, by go_num, hok.succ (by rw [← HX.out]; exact hb)⟩
        case measure => simp [intOf]; omega
    · obtain rfl : k = n := by omega
      go_wp2
      go_ret
      exact ⟨ret_bool (GoodTo.all (by rw [HZ.out]; exact hok)).symm, rfl⟩

theorem checkWords (A : Option Addr) (n cap : Nat) (zs : List ByteArray) (lo hi : Nat) (w : World) (h : Rd w lo hi A n (bas zs)) (hn : n * 16 ≤ 140737488355328) (hs : ∀ z ∈ zs, z.size ≤ maxLen) :
    Calls Tryd.prog 14 #[.slice A n cap] w fun e w' => e = .returned (.int .i64 (codeW zs)) ∧ w = w' := by
  have hz : zs.length = n := by have := h.len; rwa [bas_len] at this
  have hn' : n ≤ 140737488355328 := by omega
  have HZ := Go.Lib.hid hz
  clear hz
  go_enter Tryd.func14, Tryd.ntmps14
  go_wp2
  go_loop [7] (fun i => ∃ k : Nat, k ≤ n ∧ i = .int .i64 k ∧ GoodTo zs k) (fun i => n - (intOf i).toNat)
  case atStart => exact ⟨0, Nat.zero_le _, rfl, fun j h => absurd h (by omega)⟩
  case round =>
    obtain ⟨k, hk, rfl, hok⟩ := hrel
    by_cases hlt : k < n
    · obtain ⟨b, o, rfl, p, q, c⟩ := h.at_ hlt
      have hkz : k < zs.length := by have := HZ.out; omega
      have hcell : w.cell? ⟨b, o + k, none⟩ = some (.string (zs.getD k ByteArray.empty)) := c k _ (bas_at zs k hkz)
      have hsz := hs (zs.getD k ByteArray.empty) (by simp [hkz])
      clear c h hs
      obtain ⟨x, hx⟩ : ∃ x, x = zs.getD k ByteArray.empty := ⟨_, rfl⟩
      rw [← hx] at hcell hsz
      have HX := Go.Lib.hid hx
      clear hx
      cases hb : wordB x
      · go_wp2_with (go_at_call 23; refine (implIsWord _ _ hsz).mono ?_; rintro e w' ⟨rfl, rfl⟩)
        go_ret
        exact ⟨ret_int (codeW_bad (wordsB_no (k := k) hkz (by rw [← HX.out]; exact hb))).symm, rfl⟩
      · go_wp2_with (go_at_call 23; refine (implIsWord _ _ hsz).mono ?_; rintro e w' ⟨rfl, rfl⟩)
        go_round
        case rel => exact ⟨k + 1, by omega, by go_num, hok.succ (by rw [← HX.out]; exact hb)⟩
        case measure => simp [intOf]; omega
    · obtain rfl : k = n := by omega
      have hall : wordsB zs = true := GoodTo.all (by rw [HZ.out]; exact hok)
      have HA := Go.Lib.hid hall
      clear hall
      by_cases h60 : 60 < k
      · go_wp2
        go_ret
        exact ⟨ret_int (codeW_long HA.out (by rw [HZ.out]; exact h60)).symm, rfl⟩
      · go_wp2
        go_ret
        exact ⟨ret_int (codeW_ok HA.out (by rw [HZ.out]; exact h60)).symm, rfl⟩

theorem add_ba (x : List UInt8) (s : ByteArray) (h : x.length + s.size ≤ 9223372036854775807) (w : World) :
    (Op.stringOp .add ⟨x.toArray⟩ s).run Tryd.prog w = .ok (.string ⟨(x ++ s.data.toList).toArray⟩) w := by
  rw [run_string_add_sum w ⟨x.toArray⟩ s h]
  congr 3
theorem add_sep (x : List UInt8) (y : List UInt8) (h : x.length + y.length ≤ 9223372036854775807) (w : World) :
    (Op.stringOp .add ⟨x.toArray⟩ ⟨y.toArray⟩).run Tryd.prog w = .ok (.string ⟨(x ++ y).toArray⟩) w := by
  rw [run_string_add_sum w ⟨x.toArray⟩ ⟨y.toArray⟩ h]
  congr 3

theorem specWords (A : Option Addr) (n cap : Nat) (zs : List ByteArray) (lo hi : Nat) (w : World) (h : Rd w lo hi A n (bas zs)) (hn : n ≤ 1000000) (hok : wordsB zs = true) :
    Calls Tryd.prog 17 #[.slice A n cap, .string ⟨#[44]⟩] w fun e w' => e = .returned (.string ⟨(Go.Lib.join (texts zs) [44]).toArray⟩) ∧ w = w' := by
  have hz : zs.length = n := by have := h.len; rwa [bas_len] at this
  have HZ := Go.Lib.hid hz
  clear hz
  go_enter Tryd.func17, Tryd.ntmps17
  go_wp2
  go_loop [5, 6] (fun u i => ∃ k : Nat, k ≤ n ∧ i = .int .i64 k ∧ u = .string ⟨(acc (texts zs) [44] k).toArray⟩) (fun _ i => n - (intOf i).toNat)
  case atStart => exact ⟨0, Nat.zero_le _, rfl, by rw [acc_zero]⟩
  case round =>
    obtain ⟨k, hk, rfl, rfl⟩ := hrel
    by_cases hlt : k < n
    · obtain ⟨b, o, rfl, p, q, c⟩ := h.at_ hlt
      have hkz : k < zs.length := by have := HZ.out; omega
      have hcell : w.cell? ⟨b, o + k, none⟩ = some (.string (zs.getD k ByteArray.empty)) := c k _ (bas_at zs k hkz)
      have hbd := wordB_small (wordsB_at hok hkz)
      have hal := acc_len (L := texts zs) (sep := [44]) (m := 16) (by simp) (texts_le hok) k (by rw [texts_len]; omega)
      have hs1 := fun (h0 : 0 < k) => acc_succ (L := texts zs) [44] h0 (by rw [texts_len]; exact hkz)
      have hs0 := acc_one (L := texts zs) [44] (by rw [texts_len]; omega)
      rw [texts_at zs k hkz] at hs1
      obtain ⟨x, hx⟩ : ∃ x, x = zs.getD k ByteArray.empty := ⟨_, rfl⟩
      obtain ⟨l, hl⟩ : ∃ l, l = acc (texts zs) [44] k := ⟨_, rfl⟩
      rw [← hx] at hcell hbd hs1
      rw [← hl] at hal hs1 ⊢
      have HS := Go.Lib.hid hs1
      have HS0 := Go.Lib.hid hs0
      have HX := Go.Lib.hid hx
      have HL := Go.Lib.hid hl
      clear hs1 hs0 hx hl c
      by_cases h0 : 0 < k
      · have k1 := add_sep l [44] (by simp; omega)
        have k2 := add_ba (l ++ [44]) x (by simp; omega)
        go_wp2
        go_round
        case rel => exact ⟨k + 1, by omega, by go_num, by rw [HS.out h0]; simp⟩
        case measure => simp [intOf]; omega
      · obtain rfl : k = 0 := by omega
        simp only [Nat.add_zero] at hcell
        have k1 := add_ba l x (by omega)
        go_wp2
        go_round
        case rel => exact ⟨1, by omega, by go_num, by rw [HS0.out, HL.out, acc_zero, texts_at zs 0 hkz, HX.out]; rfl⟩
        case measure => simp [intOf]; omega
    · obtain rfl : k = n := by omega
      go_wp2
      go_ret
      exact ⟨by rw [← acc_all, texts_len, HZ.out]; rfl, rfl⟩

theorem textLen {zs : List ByteArray} (h : wordsB zs = true) (hn : zs.length ≤ 60) : (Go.Lib.join (texts zs) [44]).length ≤ 1020 := by
  have := acc_len (L := texts zs) (sep := [44]) (m := 16) (by simp) (texts_le h) (texts zs).length (Nat.le_refl _)
  rw [acc_all, texts_len] at this
  omega

theorem joinElements (A : Option Addr) (n cap : Nat) (zs : List ByteArray) (lo : Nat) (w : World) (h : Rd w lo w.heap.size A n (bas zs)) (hn : n ≤ 140737488355328) (hc : n ≤ cap) (hlen : (Go.Lib.join (texts zs) [44]).length ≤ 140737488355328) :
    Calls Tryd.prog 15 #[.slice A n cap] w fun e w' => e = .returned (.string ⟨(wtext zs).toArray⟩) ∧ Below w.heap.size w w' := by
  have hz : zs.length = n := by have := h.len; rwa [bas_len] at this
  by_cases h0 : n = 0
  · subst h0
    go_enter Tryd.func15, Tryd.ntmps15
    go_wp2
    go_ret
    exact ⟨by unfold wtext; rw [if_pos hz]; rfl, Below.refl _ _⟩
  · obtain ⟨b, o, rfl, p, q, c⟩ := h.at_ (k := 0) (by omega)
    have hne : ((n : Int) == 0) = false := by simp; omega
    have hw : wtext zs = Go.Lib.join (texts zs) [44] := by unfold wtext; rw [if_neg (by omega)]
    have HW := Go.Lib.hid hw
    clear hw
    subst hz
    have hj := Tryd.strings_Join b o cap zs ⟨#[44]⟩ w (fun j x hx => c j _ (by simp [bas, hx])) q hn hc hlen
    have HJ := Go.Lib.hid hj
    clear hj c h
    go_enter Tryd.func15, Tryd.ntmps15
    go_wp2_with fail
    refine HJ.out.mono ?_
    rintro e w1 ⟨rfl, hb⟩
    go_wp2_with fail
    go_ret
    exact ⟨by rw [HW.out]; rfl, hb⟩

/-- What WordsText hands back in both programs. -/
def WordsEnd (w : World) (zs : List ByteArray) (e : Ending) (w' : World) : Prop :=
  Below w.heap.size w w' ∧ e = .returned (.tuple (if codeW zs = 0 then #[.string ⟨(wtext zs).toArray⟩, .int .i64 0] else #[.string ⟨#[]⟩, .int .i64 (codeW zs)]))

theorem implWordsText (A : Option Addr) (n cap : Nat) (zs : List ByteArray) (lo : Nat) (w : World) (h : Rd w lo w.heap.size A n (bas zs)) (hn : n * 16 ≤ 140737488355328) (hc : n ≤ cap) (hs : ∀ z ∈ zs, z.size ≤ maxLen) :
    Calls Tryd.prog 6 #[.slice A n cap] w (WordsEnd w zs) := by
  have hz : zs.length = n := by have := h.len; rwa [bas_len] at this
  by_cases h0 : codeW zs = 0
  · have hb : wordsB zs = true := by
      cases hw : wordsB zs
      · rw [codeW_bad hw] at h0; omega
      · rfl
    have h60 : ¬ 60 < zs.length := fun hl => by rw [codeW_long hb hl] at h0; omega
    have hl := textLen hb (by omega)
    have HZ := Go.Lib.hid hz
    have hk := checkWords A n cap zs lo w.heap.size w h hn hs
    rw [h0] at hk
    have HK := Go.Lib.hid hk
    have H0 := Go.Lib.hid h0
    clear hz hk h0
    go_enter Tryd.func6, Tryd.ntmps6
    go_wp2_with fail
    refine HK.out.mono ?_
    rintro e w' ⟨rfl, rfl⟩
    go_wp2_with fail
    refine (joinElements A n cap zs lo w h (by omega) hc (by omega)).mono ?_
    rintro e w1 ⟨rfl, hb1⟩
    go_wp2_with fail
    go_ret2
    exact ⟨hb1, by rw [H0.out, if_pos rfl]; rfl⟩
  · have hne : (codeW zs != 0) = true := by simpa using h0
    have hk := checkWords A n cap zs lo w.heap.size w h hn hs
    have HK := Go.Lib.hid hk
    clear hk hz
    go_enter Tryd.func6, Tryd.ntmps6
    go_wp2_with fail
    refine HK.out.mono ?_
    rintro e w' ⟨rfl, rfl⟩
    go_wp2_with fail
    go_ret2
    exact ⟨Below.refl _ _, by rw [if_neg h0]; rfl⟩

theorem specWordsText (A : Option Addr) (n cap : Nat) (zs : List ByteArray) (lo : Nat) (w : World) (h : Rd w lo w.heap.size A n (bas zs)) (hn : n * 16 ≤ 140737488355328) (hs : ∀ z ∈ zs, z.size ≤ maxLen) :
    Calls Tryd.prog 7 #[.slice A n cap] w (WordsEnd w zs) := by
  have hz : zs.length = n := by have := h.len; rwa [bas_len] at this
  have hn' : n ≤ 140737488355328 := by omega
  have HK := Go.Lib.hid (specAll A n cap zs lo w.heap.size w h hn hs)
  cases hb : wordsB zs
  · have HC := Go.Lib.hid (codeW_bad hb)
    go_enter Tryd.func7, Tryd.ntmps7
    go_wp2_with fail
    refine HK.out.mono ?_
    rintro e w' ⟨rfl, rfl⟩
    go_wp2_with fail
    go_ret2
    exact ⟨Below.refl _ _, by rw [HC.out]; rfl⟩
  · by_cases h60 : 60 < n
    · have HC := Go.Lib.hid (codeW_long hb (by omega))
      clear hz
      go_enter Tryd.func7, Tryd.ntmps7
      go_wp2_with fail
      refine HK.out.mono ?_
      rintro e w' ⟨rfl, rfl⟩
      go_wp2_with fail
      go_ret2
      exact ⟨Below.refl _ _, by rw [HC.out]; rfl⟩
    · have HC := Go.Lib.hid (codeW_ok hb (by omega))
      by_cases h0 : n = 0
      · have ht : wtext zs = [45] := by unfold wtext; rw [if_pos (by omega)]
        have HT := Go.Lib.hid ht
        clear hz ht
        subst h0
        go_enter Tryd.func7, Tryd.ntmps7
        go_wp2_with fail
        refine HK.out.mono ?_
        rintro e w' ⟨rfl, rfl⟩
        go_wp2_with fail
        go_ret2
        exact ⟨Below.refl _ _, by rw [HC.out, if_pos rfl, HT.out]; rfl⟩
      · have ht : wtext zs = Go.Lib.join (texts zs) [44] := by unfold wtext; rw [if_neg (by omega)]
        have HT := Go.Lib.hid ht
        have hne : ((n : Int) == 0) = false := by simp; omega
        have HJ := Go.Lib.hid (specWords A n cap zs lo w.heap.size w h (by omega) hb)
        clear hz ht h0
        go_enter Tryd.func7, Tryd.ntmps7
        go_wp2_with fail
        refine HK.out.mono ?_
        rintro e w' ⟨rfl, rfl⟩
        go_wp2_with fail
        refine HJ.out.mono ?_
        rintro e w' ⟨rfl, rfl⟩
        go_wp2_with fail
        go_ret2
        exact ⟨Below.refl _ _, by rw [HC.out, if_pos rfl, HT.out]; rfl⟩
end Go.Proofs.YtbagolmojenohaaDoor
