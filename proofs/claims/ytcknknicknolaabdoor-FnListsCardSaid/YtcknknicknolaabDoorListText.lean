/- Contracts of spec.l01Number, l01Join, l01Text, ListText and impl.joinElements, ListText: both write the same text of a list. -/
import Derived.Test.YtcknknicknolaabDoorMeas
import Derived.Test.YtcknknicknolaabDoorWordsText
import Derived.Deep.AppendLies
import Derived.Deep.LoopGhost
namespace Go.Proofs.YtcknknicknolaabDoor
open Go.RowKit

def itoas (zs : List Int) : List (List UInt8) := zs.map Go.Lib.itoa
theorem itoas_len (zs : List Int) : (itoas zs).length = zs.length := by simp [itoas]
theorem itoas_at (zs : List Int) (k : Nat) (h : k < zs.length) : (itoas zs).getD k [] = Go.Lib.itoa (zs.getD k 0) := by simp [itoas, h]
theorem okVal_bd {z : Int} (h : okVal z = true) : -1000000000000 ≤ z ∧ z ≤ 1000000000000 := by
  unfold okVal at h
  simpa using h
theorem itoas_le {zs : List Int} (h : zs.all okVal = true) : ∀ l ∈ itoas zs, l.length ≤ 21 := by
  intro l hl
  obtain ⟨z, hz, rfl⟩ := List.mem_map.1 hl
  have := okVal_bd (List.all_eq_true.1 h z hz)
  exact itoa_len z (by omega) (by omega)
theorem okVal_at {zs : List Int} (h : zs.all okVal = true) {k : Nat} (hk : k < zs.length) : -1000000000000 ≤ zs.getD k 0 ∧ zs.getD k 0 ≤ 1000000000000 :=
  okVal_bd (List.all_eq_true.1 h _ (by simp [hk]))

theorem formatAny (z : Int) (w : World) (ht : Tab w) (h0 : -1000000000000000000 ≤ z) (h1 : z ≤ 1000000000000000000) :
    Calls Tryd.prog 44 #[.int .i64 z, .int .i64 10] w (NewStr w (Go.Lib.itoa z)) :=
  (Tryd.strconv_FormatInt_10 z (by omega) (by omega) w ht).mono fun e w' ⟨he, k, os, hw⟩ => by
    subst hw; subst he
    exact ⟨rfl, below_grow⟩

theorem itoa_neg {z : Int} (h : z < 0) : Go.Lib.itoa z = 45 :: Go.Lib.decDigits (-z).toNat := by
  unfold Go.Lib.itoa
  rw [if_pos h]
  have : z.natAbs = (-z).toNat := by omega
  rw [this]

theorem specNumber (z : Int) (w : World) (h0 : -1000000000000000000 ≤ z) (h1 : z ≤ 1000000000000000000) :
    Calls Tryd.prog 77 #[.int .i64 z] w (NewStr w (Go.Lib.itoa z)) := by
  by_cases hn : z < 0
  · have l1 := dec_len (-z).toNat (by omega)
    have k1 := add_str [45] (Go.Lib.decDigits (-z).toNat) (by simp; omega)
    go_enter Tryd.func77, Tryd.ntmps77
    go_wp2_with fail
    refine (dec (-z) _ (by omega) (by omega)).mono ?_
    rintro e w1 ⟨rfl, hb1⟩
    go_wp2_with fail
    go_ret
    exact ⟨by rw [itoa_neg hn]; rfl, hb1⟩
  · go_enter Tryd.func77, Tryd.ntmps77
    go_wp2_with fail
    refine (dec z _ (by omega) (by omega)).mono ?_
    rintro e w1 ⟨rfl, hb1⟩
    go_wp2_with fail
    go_ret
    exact ⟨by rw [itoa_pos z (by omega)]; rfl, hb1⟩

theorem specJoin (A : Option Addr) (n cap : Nat) (zs : List Int) (lo : Nat) (w : World) (h : Rd w lo w.heap.size A n (ints zs)) (hn : n ≤ 1000000) (hok : zs.all okVal = true) :
    Calls Tryd.prog 79 #[.slice A n cap, .string ⟨#[44]⟩] w (NewStr w (Go.Lib.join (itoas zs) [44])) := by
  have hz : zs.length = n := by have := h.len; rwa [ints_len] at this
  have HZ := Go.Lib.hid hz
  clear hz
  go_enter Tryd.func79, Tryd.ntmps79
  go_wp2
  go_loopw [5, 6] (fun u i wr => ∃ k : Nat, k ≤ n ∧ i = .int .i64 k ∧ u = .string ⟨(acc (itoas zs) [44] k).toArray⟩ ∧ Below w.heap.size w wr) (fun _ i _ => n - (intOf i).toNat)
  case atStart => exact ⟨0, Nat.zero_le _, rfl, by rw [acc_zero], Below.refl _ _⟩
  case round =>
    obtain ⟨k, hk, rfl, rfl, hb⟩ := hrel
    by_cases hlt : k < n
    · obtain ⟨b, o, rfl, p, q, c⟩ := h.at_ hlt
      have hkz : k < zs.length := by have := HZ.out; omega
      have hcell : wr.cell? ⟨b, o + k, none⟩ = some (.int .i64 (zs.getD k 0)) := (hb.cell (p := ⟨b, o + k, none⟩) q).trans (c k _ (ints_at zs k hkz))
      have hbd := okVal_at hok hkz
      have hal := acc_len (L := itoas zs) (sep := [44]) (m := 21) (by simp) (itoas_le hok) k (by rw [itoas_len]; omega)
      have hil := itoa_len (zs.getD k 0) (by omega) (by omega)
      have hs1 := fun (h0 : 0 < k) => acc_succ (L := itoas zs) [44] h0 (by rw [itoas_len]; exact hkz)
      have hs0 := acc_one (L := itoas zs) [44] (by rw [itoas_len]; omega)
      rw [itoas_at zs k hkz] at hs1
      obtain ⟨x, hx⟩ : ∃ x, x = zs.getD k 0 := ⟨_, rfl⟩
      obtain ⟨l, hl⟩ : ∃ l, l = acc (itoas zs) [44] k := ⟨_, rfl⟩
      rw [← hx] at hcell hbd hil hs1
      rw [← hl] at hal hs1 ⊢
      have HS := Go.Lib.hid hs1
      have HS0 := Go.Lib.hid hs0
      have HX := Go.Lib.hid hx
      have HL := Go.Lib.hid hl
      clear hs1 hs0 hx hl c
      obtain ⟨hbd0, hbd1⟩ := hbd
      by_cases h0 : 0 < k
      · have k1 := add_str l [44] (by simp; omega)
        have k2 := add_str (l ++ [44]) (Go.Lib.itoa x) (by simp; omega)
        go_wp2_with fail
        refine (specNumber x _ (by omega) (by omega)).mono ?_
        rintro e w1 ⟨rfl, hb1⟩
        go_wp2_with fail
        go_roundw
        case rel => exact ⟨k + 1, by omega, by go_num, by rw [HS.out h0]; first | rfl | simp, hb.trans (hb1.mono hb.size)⟩
        case measure => simp [intOf]; omega
      · obtain rfl : k = 0 := by omega
        simp only [Nat.add_zero] at hcell
        have k1 := add_str l (Go.Lib.itoa x) (by omega)
        go_wp2_with fail
        refine (specNumber x _ (by omega) (by omega)).mono ?_
        rintro e w1 ⟨rfl, hb1⟩
        go_wp2_with fail
        go_roundw
        case rel => exact ⟨1, by omega, by go_num, by rw [HS0.out, HL.out, acc_zero, itoas_at zs 0 hkz, HX.out]; rfl, hb.trans (hb1.mono hb.size)⟩
        case measure => simp [intOf]; omega
    · obtain rfl : k = n := by omega
      go_wp2
      go_ret
      exact ⟨by rw [← acc_all, itoas_len, HZ.out]; rfl, hb⟩

/-- The text of a list of numbers. -/
def ltext (zs : List Int) : List UInt8 := if zs.length = 0 then [45] else Go.Lib.join (itoas zs) [44]
theorem ltext_nil {zs : List Int} (h : zs.length = 0) : ltext zs = [45] := by unfold ltext; rw [if_pos h]
theorem ltext_cons {zs : List Int} (h : ¬ zs.length = 0) : ltext zs = Go.Lib.join (itoas zs) [44] := by unfold ltext; rw [if_neg h]

theorem specText (A : Option Addr) (n cap : Nat) (zs : List Int) (lo : Nat) (w : World) (h : Rd w lo w.heap.size A n (ints zs)) (hn : n ≤ 1000000) (hok : zs.all okVal = true) :
    Calls Tryd.prog 64 #[.slice A n cap] w (NewStr w (ltext zs)) := by
  have hz : zs.length = n := by have := h.len; rwa [ints_len] at this
  by_cases h0 : n = 0
  · subst h0
    have HT := Go.Lib.hid (ltext_nil hz)
    clear hz
    go_enter Tryd.func64, Tryd.ntmps64
    go_wp2
    go_ret
    exact ⟨by rw [HT.out]; rfl, Below.refl _ _⟩
  · have HT := Go.Lib.hid (ltext_cons (zs := zs) (by omega))
    have hne : ((n : Int) == 0) = false := by simp; omega
    clear hz
    go_enter Tryd.func64, Tryd.ntmps64
    go_wp2_with fail
    refine (specJoin A n cap zs lo w h hn hok).mono ?_
    rintro e w1 ⟨rfl, hb⟩
    go_wp2_with fail
    go_ret
    exact ⟨by rw [HT.out]; rfl, hb⟩

/-- What ListText hands back in both programs. -/
def ListEnd (w : World) (zs : List Int) (e : Ending) (w' : World) : Prop :=
  Below w.heap.size w w' ∧ e = .returned (.tuple (if codeB zs = 0 then #[.string ⟨(ltext zs).toArray⟩, .int .i64 0] else #[.string ⟨#[]⟩, .int .i64 (codeB zs)]))

theorem specListText (A : Option Addr) (n cap : Nat) (zs : List Int) (lo : Nat) (w : World) (h : Rd w lo w.heap.size A n (ints zs)) (hn : n * 8 ≤ 140737488355328) :
    Calls Tryd.prog 25 #[.slice A n cap] w (ListEnd w zs) := by
  have hz : zs.length = n := by have := h.len; rwa [ints_len] at this
  by_cases h0 : codeB zs = 0
  · obtain ⟨h60, hok⟩ := codeB_zero h0
    have hk := specValues A n cap zs lo w.heap.size w h hn
    rw [h0] at hk
    have HK := Go.Lib.hid hk
    have H0 := Go.Lib.hid h0
    have HT := Go.Lib.hid (specText A n cap zs lo w h (by omega) hok)
    clear hk h0 hz hok
    go_enter Tryd.func25, Tryd.ntmps25
    go_wp2_with fail
    refine HK.out.mono ?_
    rintro e w' ⟨rfl, rfl⟩
    go_wp2_with fail
    refine HT.out.mono ?_
    rintro e w1 ⟨rfl, hb⟩
    go_wp2_with fail
    go_ret2
    exact ⟨hb, by rw [H0.out, if_pos rfl]; rfl⟩
  · have hne : (codeB zs != 0) = true := by simpa using h0
    have HK := Go.Lib.hid (specValues A n cap zs lo w.heap.size w h hn)
    clear hz
    go_enter Tryd.func25, Tryd.ntmps25
    go_wp2_with fail
    refine HK.out.mono ?_
    rintro e w' ⟨rfl, rfl⟩
    go_wp2_with fail
    go_ret2
    exact ⟨Below.refl _ _, by rw [if_neg h0]; rfl⟩

def itoaB (zs : List Int) : List ByteArray := zs.map fun z => ⟨(Go.Lib.itoa z).toArray⟩
theorem itoaB_len (zs : List Int) : (itoaB zs).length = zs.length := by simp [itoaB]
theorem itoaB_texts (zs : List Int) : texts (itoaB zs) = itoas zs := by
  unfold texts itoaB itoas
  rw [List.map_map]
  rfl
theorem itoaB_take {zs : List Int} {k : Nat} (h : k < zs.length) : bas ((itoaB zs).take (k + 1)) = bas ((itoaB zs).take k) ++ [.string ⟨(Go.Lib.itoa (zs.getD k 0)).toArray⟩] := by
  have hk : k < (itoaB zs).length := by rw [itoaB_len]; exact h
  unfold bas
  rw [List.take_succ_eq_append_getElem hk, List.map_append]
  simp [itoaB, h]
theorem ltextLen {zs : List Int} (h : zs.all okVal = true) (hn : zs.length ≤ 60) : (Go.Lib.join (itoas zs) [44]).length ≤ 1320 := by
  have := acc_len (L := itoas zs) (sep := [44]) (m := 21) (by simp) (itoas_le h) (itoas zs).length (Nat.le_refl _)
  rw [acc_all, itoas_len] at this
  omega

/-- The texts gathered so far. -/
def Gath (w : World) (zs : List Int) (k : Nat) (v : Value) (wr : World) : Prop :=
  ∃ A cap, v = .slice A k cap ∧ Ow wr w.heap.size wr.heap.size 9 A k cap (bas ((itoaB zs).take k)) ∧ Below w.heap.size w wr ∧ Tab wr

theorem Gath.next {w wr w1 w3 : World} {zs : List Int} {k cap2 g cap3 : Nat} {A2 : Option Addr} {x : Int} {o : Obj} (ho : Ow wr w.heap.size wr.heap.size 9 A2 k cap2 (bas ((itoaB zs).take k))) (hb : Below w.heap.size w wr) (hb1 : Below wr.heap.size wr w1) (ht : Tab w)
    (htk : bas ((itoaB zs).take (k + 1)) = bas ((itoaB zs).take k) ++ [.string ⟨(Go.Lib.itoa x).toArray⟩])
    (hown : w3.ownsRow w.heap.size 9 1 (.slice (some ⟨g, 0, none⟩) (k + 1) cap3) (k + 1) (bas ((itoaB zs).take k) ++ [.string ⟨(Go.Lib.itoa x).toArray⟩])) (hgrow : (w1.alloc o).grownBy w3 (Value.slice A2 k cap2).ownBlock) (hlt : g < w3.heap.size) :
    Gath w zs (k + 1) (.slice (some ⟨g, 0, none⟩) (k + 1) cap3) w3 := by
  have hb2 : Below w.heap.size w w1 := hb.trans (hb1.mono hb.size)
  have hb3 : Below w.heap.size w w3 := (hb2.alloc hb2.size _).grown hgrow (by have := hb2.size; simp; omega) (fun j hj => (ho.1.lt j hj).1)
  exact ⟨_, _, rfl, ⟨by rw [htk]; exact hown, fun g' hg' => by rw [← show g = g' by simpa [Value.ownBlock] using hg']; exact hlt⟩, hb3, ht.below hb3⟩

theorem implListText (A : Option Addr) (n cap : Nat) (zs : List Int) (lo : Nat) (w : World) (ht : Tab w) (h : Rd w lo w.heap.size A n (ints zs)) (hn : n * 8 ≤ 140737488355328) :
    Calls Tryd.prog 24 #[.slice A n cap] w (ListEnd w zs) := by
  have hz : zs.length = n := by have := h.len; rwa [ints_len] at this
  by_cases h0 : codeB zs = 0
  · obtain ⟨h60, hok⟩ := codeB_zero h0
    have hk := checkList A n cap zs lo w.heap.size w h hn
    rw [h0] at hk
    have HK := Go.Lib.hid hk
    have H0 := Go.Lib.hid h0
    have HZ := Go.Lib.hid hz
    have hn60 : n ≤ 60 := by omega
    have hl := ltextLen hok h60
    obtain ⟨i0, hi, hz0, hz1, hz2⟩ := info_parts infoStr
    have start : Gath w zs 0 (.slice none 0 0) w := ⟨none, 0, rfl, ⟨World.ownsRow_nil _ _ _ _, fun g hg => by cases hg⟩, Below.refl _ _, ht⟩
    have START := Go.Lib.hid start
    clear hk h0 hz start
    go_enter Tryd.func24, Tryd.ntmps24
    go_wp2_with fail
    refine HK.out.mono ?_
    rintro e w' ⟨rfl, rfl⟩
    go_wp2_with fail
    go_loopw [5, 15] (fun v i wr => ∃ k : Nat, k ≤ n ∧ i = .int .i64 k ∧ Gath w zs k v wr) (fun _ i _ => n - (intOf i).toNat)
    case atStart => exact ⟨0, Nat.zero_le _, rfl, START.out⟩
    case round =>
      obtain ⟨k, hk, rfl, hg⟩ := hrel
      obtain ⟨A2, cap2, rfl, ho, hb, ht2⟩ := hg
      by_cases hlt : k < n
      · obtain ⟨b, o, rfl, p, q, c⟩ := h.at_ hlt
        have hkz : k < zs.length := by have := HZ.out; omega
        have hcell : wr.cell? ⟨b, o + k, none⟩ = some (.int .i64 (zs.getD k 0)) := (hb.cell (p := ⟨b, o + k, none⟩) q).trans (c k _ (ints_at zs k hkz))
        have hbd := okVal_at hok hkz
        have htk := itoaB_take hkz
        obtain ⟨x, hx⟩ : ∃ x, x = zs.getD k 0 := ⟨_, rfl⟩
        rw [← hx] at hcell hbd htk
        have HTK := Go.Lib.hid htk
        obtain ⟨hbd0, hbd1⟩ := hbd
        clear c hx htk
        go_wp2_with fail
        refine (formatAny x _ ht2 (by omega) (by omega)).mono ?_
        rintro e w1 ⟨rfl, hb1⟩
        have ho1 := (ho.below hb1 (Nat.le_refl _)).1
        have hws : w.heap.size ≤ w1.heap.size := Nat.le_trans hb.size hb1.size
        go_wp2_with (at_builtin; refine wpList_append_lies _ rfl _ _ 43 rfl w.heap.size 9 i0 (.string ⟨#[]⟩) 1 16 Tryd.underlying43 hi hz0 hz1 hz2 rfl (by omega) _ k _ rfl (ho1.alloc _) ⟨w1.heap.size, 0, none⟩ 1 1 [.string ⟨(Go.Lib.itoa x).toArray⟩] rfl rfl (World.news_of_block (heap_alloc_new w1 _)) (by simp [Value.oneCell']) (by omega) (by unfold maxLen; omega) (by omega) (by simp; omega) _ rfl ?_; intro g cap3 w3 hown hgrow hat hlt3)
        have HN := Go.Lib.hid (Gath.next ho hb hb1 ht HTK.out hown hgrow hlt3)
        clear hown hgrow hat hlt3 ho hb hb1 ho1 ht2 hcell
        go_wp2
        go_roundw
        case rel => exact ⟨k + 1, by omega, by go_num, HN.out⟩
        case measure => simp [intOf]; omega
      · obtain rfl : k = n := by omega
        have ht3 : (itoaB zs).take k = itoaB zs := List.take_of_length_le (by rw [itoaB_len, HZ.out]; omega)
        rw [ht3] at ho
        have HJ := Go.Lib.hid (joinElements A2 k cap2 (itoaB zs) w.heap.size wr ho.rd (by omega) ho.le (by rw [itoaB_texts]; omega))
        clear ht3 ho ht2
        go_wp2_with fail
        refine HJ.out.mono ?_
        rintro e w1 ⟨rfl, hb1⟩
        go_wp2_with fail
        go_ret2
        exact ⟨hb.trans (hb1.mono hb.size), by rw [H0.out, if_pos rfl]; unfold wtext ltext; rw [itoaB_texts, itoaB_len]; rfl⟩
  · have hne : (codeB zs != 0) = true := by simpa using h0
    have HK := Go.Lib.hid (checkList A n cap zs lo w.heap.size w h hn)
    clear hz
    go_enter Tryd.func24, Tryd.ntmps24
    go_wp2_with fail
    refine HK.out.mono ?_
    rintro e w' ⟨rfl, rfl⟩
    go_wp2_with fail
    go_ret2
    exact ⟨Below.refl _ _, by rw [if_neg h0]; rfl⟩
end Go.Proofs.YtcknknicknolaabDoor
