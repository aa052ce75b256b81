/- Contracts of impl.readNumber, ReadList and spec.l01Signed, l01Numbers, ReadList: both read the same list of numbers. -/
import Derived.Test.YtcknknicknolaabDoorValue
import Derived.Test.YtcknknicknolaabDoorReadWords
import Derived.Test.YtcknknicknolaabDoorListText
namespace Go.Proofs.YtcknknicknolaabDoor
open Go.RowKit

/-- The number that a text tells, if it is the numeral of one that ParseInt reads. -/
def numB (l : List UInt8) : Option Int :=
  match Go.Lib.parseIntB 64 l with
  | .ok v => if Go.Lib.itoa v == l then some v else none
  | _ => none
theorem numB_bad {l : List UInt8} (h : ∀ v, ¬ Go.Lib.parseIntB 64 l = .ok v) : numB l = none := by
  unfold numB
  cases hp : Go.Lib.parseIntB 64 l with
  | ok v => exact absurd hp (h v)
  | _ => rfl
theorem numB_ok {l : List UInt8} {v : Int} (h : Go.Lib.parseIntB 64 l = .ok v) : numB l = if Go.Lib.itoa v == l then some v else none := by
  unfold numB
  rw [h]
def NumEnd2 (w : World) (r : Option Int) (e : Ending) (w' : World) : Prop :=
  Below w.heap.size w w' ∧ e = .returned (.tuple (match r with | some v => #[.int .i64 v, .bool true] | none => #[.int .i64 0, .bool false]))

theorem parse_bd {l : List UInt8} {v : Int} (h : Go.Lib.parseIntB 64 l = .ok v) : -9223372036854775808 ≤ v ∧ v ≤ 9223372036854775807 := by
  unfold Go.Lib.parseIntB at h
  cases l with
  | nil => cases h
  | cons c r =>
    simp only at h
    split at h
    · cases h
    · cases h
    · rename_i u hu
      by_cases h1 : ¬ c.toNat = 45 ∧ 2 ^ (64 - 1) ≤ u
      · rw [if_pos h1] at h; cases h
      · rw [if_neg h1] at h
        by_cases h2 : c.toNat = 45 ∧ 2 ^ (64 - 1) < u
        · rw [if_pos h2] at h; cases h
        · rw [if_neg h2] at h
          injection h with h
          by_cases h3 : c.toNat = 45
          · rw [if_pos h3] at h
            have : ¬ 2 ^ (64 - 1) < u := fun x => h2 ⟨h3, x⟩
            simp at this
            omega
          · rw [if_neg h3] at h
            have : ¬ 2 ^ (64 - 1) ≤ u := fun x => h1 ⟨h3, x⟩
            simp at this
            omega
theorem formatFull (z : Int) (w : World) (ht : Tab w) (h0 : -9223372036854775808 ≤ z) (h1 : z ≤ 9223372036854775807) :
    Calls Tryd.prog 44 #[.int .i64 z, .int .i64 10] w (NewStr w (Go.Lib.itoa z)) :=
  (Tryd.strconv_FormatInt_10 z h0 h1 w ht).mono fun e w' ⟨he, k, os, hw⟩ => by
    subst hw; subst he
    exact ⟨rfl, below_grow⟩

theorem implReadNumber (s : ByteArray) (w : World) (hs : s.size ≤ 1048576) (ht : Tab w) (he : HasErrs w) :
    Calls Tryd.prog 57 #[.string s] w (NumEnd2 w (numB s.data.toList)) := by
  have hlist : s.toList = s.data.toList := ByteArray.toList_eq s
  by_cases hp : ∃ v, Go.Lib.parseIntB 64 s.data.toList = .ok v
  · obtain ⟨v, hp⟩ := hp
    obtain ⟨hb0, hb1⟩ := parse_bd hp
    have HR := Go.Lib.hid (numB_ok hp)
    have HP := Go.Lib.hid (parseOk s v w (by omega) hp)
    have HF := Go.Lib.hid (fun w0 (h : Tab w0) => formatFull v w0 h hb0 hb1)
    clear hp hb0 hb1
    cases hq : (Go.Lib.itoa v == s.data.toList)
    · have hq2 : (Go.Lib.itoa v == s.toList) = false := by rw [hlist]; exact hq
      have HQ := Go.Lib.hid hq
      clear hq hlist
      go_enter Tryd.func57, Tryd.ntmps57
      go_wp2_with fail
      refine HP.out.mono ?_
      rintro e w1 ⟨rfl, b1⟩
      go_wp2_with fail
      refine (HF.out w1 (ht.below b1)).mono ?_
      rintro e w2 ⟨rfl, b2⟩
      go_wp2_with fail
      go_ret2
      exact ⟨b1.trans (b2.mono b1.size), by rw [HR.out, HQ.out]; rfl⟩
    · have hq2 : (Go.Lib.itoa v == s.toList) = true := by rw [hlist]; exact hq
      have HQ := Go.Lib.hid hq
      clear hq hlist
      go_enter Tryd.func57, Tryd.ntmps57
      go_wp2_with fail
      refine HP.out.mono ?_
      rintro e w1 ⟨rfl, b1⟩
      go_wp2_with fail
      refine (HF.out w1 (ht.below b1)).mono ?_
      rintro e w2 ⟨rfl, b2⟩
      go_wp2_with fail
      go_ret2
      exact ⟨b1.trans (b2.mono b1.size), by rw [HR.out, HQ.out]; rfl⟩
  · have hp' : ∀ v, ¬ Go.Lib.parseIntB 64 s.data.toList = .ok v := fun v e => hp ⟨v, e⟩
    have HR := Go.Lib.hid (numB_bad hp')
    have HP := Go.Lib.hid (parseBad s w (by omega) he hp')
    clear hp hp' hlist
    go_enter Tryd.func57, Tryd.ntmps57
    go_wp2_with fail
    refine HP.out.mono ?_
    rintro e w1 ⟨⟨v, N, rfl⟩, b1⟩
    go_wp2_with fail
    go_ret2
    exact ⟨b1, by rw [HR.out]; rfl⟩

/-- The number that l01Signed tells of a text. -/
def sgnB (l : List UInt8) : Option Int :=
  match numB l with
  | some z => if -10000000000000 < z ∧ z < 10000000000000 then some z else none
  | none => none
theorem numB_spec {l : List UInt8} {z : Int} (h : numB l = some z) : Go.Lib.itoa z = l := by
  unfold numB at h
  split at h
  · split at h
    · rename_i v hv hq
      injection h with h
      subst h
      exact beq_iff_eq.1 hq
    · cases h
  · cases h
theorem numB_itoa {z : Int} (h0 : -1000000000000000000 ≤ z) (h1 : z ≤ 1000000000000000000) : numB (Go.Lib.itoa z) = some z := by
  rw [numB_ok (parse_itoa z h0 h1)]
  simp
theorem sgnB_itoa {z : Int} (h0 : -10000000000000 < z) (h1 : z < 10000000000000) : sgnB (Go.Lib.itoa z) = some z := by
  unfold sgnB
  rw [numB_itoa (by omega) (by omega)]
  simp only
  rw [if_pos ⟨h0, h1⟩]
theorem sgnB_spec {l : List UInt8} {z : Int} (h : sgnB l = some z) : Go.Lib.itoa z = l ∧ -10000000000000 < z ∧ z < 10000000000000 := by
  unfold sgnB at h
  split at h
  · rename_i v hv
    split at h
    · rename_i hb
      injection h with h
      subst h
      exact ⟨numB_spec hv, hb⟩
    · cases h
  · cases h
theorem itoa_head {z : Int} {l : List UInt8} (h : Go.Lib.itoa z = l) : (z < 0 ∧ ∃ t, l = 45 :: t ∧ t = Go.Lib.decDigits (-z).toNat) ∨ (¬ z < 0 ∧ l = Go.Lib.decDigits z.toNat ∧ l.getD 0 0 ≠ 45) := by
  by_cases hn : z < 0
  · left
    rw [itoa_neg hn] at h
    exact ⟨hn, _, h.symm, rfl⟩
  · right
    rw [itoa_pos z (by omega)] at h
    refine ⟨hn, h.symm, ?_⟩
    rw [← h]
    cases hq : Go.Lib.decDigits z.toNat with
    | nil => exact absurd hq (fun e => by have := decDigits_pos z.toNat; rw [e] at this; simp at this)
    | cons c t =>
      have hc := isDig_iff.1 (List.all_eq_true.1 (decDigits_dig z.toNat) c (by rw [hq]; simp))
      simp only [List.getD_cons_zero]
      intro e
      rw [e] at hc
      revert hc
      decide

/-- What l01Signed hands back: whether the text is a numeral, and then its number. -/
def SgnEnd (w : World) (l : List UInt8) (e : Ending) (w' : World) : Prop :=
  Below w.heap.size w w' ∧ ∃ v : Int, e = .returned (.tuple #[.int .i64 v, .bool (sgnB l).isSome]) ∧ ∀ z, sgnB l = some z → v = z

set_option maxRecDepth 100000 in
theorem specSigned (s : ByteArray) (w : World) (hs : s.size ≤ 1048576) :
    Calls Tryd.prog 59 #[.string s] w (SgnEnd w s.data.toList) := by
  have hl : s.data.toList.length = s.size := by simp
  by_cases hneg : 0 < s.size ∧ s.data.toList.getD 0 0 = 45
  · obtain ⟨hpos, h45⟩ := hneg
    have hb45 : ((s[0].toNat : Int) == 45) = true := by
      rw [show s[0] = s.data.toList.getD 0 0 by rw [getD_of (by omega)]; rfl, h45]; rfl
    have htl : (s.extract 1 s.size).data.toList = s.data.toList.drop 1 := by
      rw [extract_list]; exact List.take_of_length_le (by rw [List.length_drop]; omega)
    have hcons : s.data.toList = 45 :: s.data.toList.drop 1 := by
      cases hc : s.data.toList with
      | nil => rw [hc] at hl; simp at hl; omega
      | cons c t => rw [hc] at h45; simp at h45; simp [h45]
    have hsz : (s.extract 1 s.size).size ≤ maxLen := by
      have h1 : (s.extract 1 s.size).data.toList.length ≤ s.data.toList.length := by rw [htl, List.length_drop]; omega
      have h2 : (s.extract 1 s.size).size ≤ s.size := h1
      unfold maxLen; omega
    have HV := Go.Lib.hid (specValue (s.extract 1 s.size) w hsz)
    rw [htl] at HV
    obtain ⟨t, ht⟩ : ∃ t, t = s.data.toList.drop 1 := ⟨_, rfl⟩
    rw [← ht] at HV hcons
    have hyes : valOk t = true → 0 < nv 0 t → sgnB s.data.toList = some (-(nv 0 t : Int)) := fun h1 h2 => by
      obtain ⟨h3, h4⟩ := valOk_spec h1
      have : Go.Lib.itoa (-(nv 0 t : Int)) = s.data.toList := by
        rw [itoa_neg (by omega), hcons, show (- -(nv 0 t : Int)).toNat = nv 0 t by omega, h3]
      rw [← this]
      exact sgnB_itoa (by omega) (by omega)
    have hno : ∀ z, sgnB s.data.toList = some z → valOk t = true ∧ 0 < nv 0 t := fun z hz => by
      obtain ⟨h1, h2, h3⟩ := sgnB_spec hz
      rcases itoa_head h1 with ⟨hn, t', he, ht'⟩ | ⟨_, _, h4⟩
      · rw [hcons] at he
        injection he with _ he
        subst he
        rw [ht']
        exact ⟨valOk_dec (by omega), by rw [nv_decDigits]; omega⟩
      · exact absurd h45 h4
    have HY := Go.Lib.hid hyes
    have HN := Go.Lib.hid hno
    clear hyes hno htl hcons ht hsz hl h45
    go_enter Tryd.func59, Tryd.ntmps59
    go_wp2_with fail
    refine HV.out.mono ?_
    rintro e w1 ⟨b1, v, rfl, hv13, hv⟩
    cases hb : valOk t
    · have hnone : sgnB s.data.toList = none := by
        cases hz : sgnB s.data.toList with
        | none => rfl
        | some z => have := (HN.out z hz).1; rw [hb] at this; cases this
      have HNONE := Go.Lib.hid hnone
      clear hnone hv hb
      go_wp2_with fail
      go_ret2
      exact ⟨b1, _, by rw [HNONE.out]; rfl, fun z hz => by rw [HNONE.out] at hz; cases hz⟩
    · have hvn := hv hb
      by_cases hpz : 0 < v
      · have hsome := HY.out hb (by omega)
        rw [← hvn] at hsome
        have HSOME := Go.Lib.hid hsome
        clear hsome hv hb hvn
        go_wp2_with fail
        go_ret2
        exact ⟨b1, -(v : Int), by rw [HSOME.out]; rfl, fun z hz => by rw [HSOME.out] at hz; injection hz⟩
      · have hnone : sgnB s.data.toList = none := by
          cases hz : sgnB s.data.toList with
          | none => rfl
          | some z => have := (HN.out z hz).2; omega
        have HNONE := Go.Lib.hid hnone
        clear hnone hv hb hvn
        go_wp2_with fail
        go_ret2
        exact ⟨b1, _, by rw [HNONE.out]; rfl, fun z hz => by rw [HNONE.out] at hz; cases hz⟩
  · have HV := Go.Lib.hid (specValue s w (by unfold maxLen; omega))
    have hyes : valOk s.data.toList = true → sgnB s.data.toList = some (nv 0 s.data.toList : Int) := fun h1 => by
      obtain ⟨h3, h4⟩ := valOk_spec h1
      have : Go.Lib.itoa (nv 0 s.data.toList : Int) = s.data.toList := by
        rw [itoa_pos _ (by omega), Int.toNat_natCast, h3]
      conv => lhs; rw [← this]
      exact sgnB_itoa (by omega) (by omega)
    have hno : ∀ z, sgnB s.data.toList = some z → valOk s.data.toList = true := fun z hz => by
      obtain ⟨h1, h2, h3⟩ := sgnB_spec hz
      rcases itoa_head h1 with ⟨hn, t', he, ht'⟩ | ⟨hn, h4, _⟩
      · exact absurd ⟨by rw [← hl, he]; simp, by rw [he]; rfl⟩ hneg
      · rw [h4]
        exact valOk_dec (by omega)
    have hq : ((0 : Int) < s.size) ∨ ¬ ((0 : Int) < s.size) := by omega
    have HY := Go.Lib.hid hyes
    have HN := Go.Lib.hid hno
    have hb45 : ∀ h : 0 < s.size, ((s[0].toNat : Int) == 45) = false := fun h => by
      have h1 : ¬ s.data.toList.getD 0 0 = 45 := fun e => hneg ⟨h, e⟩
      rw [getD_of (by omega)] at h1
      have h2 : ¬ s[0] = 45 := h1
      simp
      intro e
      apply h2
      apply UInt8.toNat_inj.1
      have : (45 : UInt8).toNat = 45 := rfl
      omega
    clear hyes hno hl
    have goal : ∀ w1 v, Below w.heap.size w w1 → (valOk s.data.toList = true → v = nv 0 s.data.toList) → SgnEnd w s.data.toList (.returned (.tuple #[.int .i64 (v : Nat), .bool (valOk s.data.toList)])) w1 := fun w1 v hb1 hv => by
      cases hb : valOk s.data.toList
      · have hnone : sgnB s.data.toList = none := by
          cases hz : sgnB s.data.toList with
          | none => rfl
          | some z => have := HN.out z hz; rw [hb] at this; cases this
        exact ⟨hb1, v, by rw [hnone]; rfl, fun z hz => by rw [hnone] at hz; cases hz⟩
      · have hsome := HY.out hb
        rw [← hv hb] at hsome
        exact ⟨hb1, v, by rw [hsome]; rfl, fun z hz => by rw [hsome] at hz; injection hz⟩
    have HG := Go.Lib.hid goal
    clear goal hneg
    rcases hq with hq | hq
    · have h45 := hb45 (by omega)
      have hpos : 0 < s.size := by omega
      clear hb45
      go_enter Tryd.func59, Tryd.ntmps59
      go_wp2_with fail
      refine HV.out.mono ?_
      rintro e w1 ⟨b1, v, rfl, hv13, hv⟩
      have HE := Go.Lib.hid (HG.out w1 v b1 hv)
      clear hv
      go_wp2_with fail
      go_ret2
      exact HE.out
    · clear hb45
      go_enter Tryd.func59, Tryd.ntmps59
      go_wp2_with fail
      refine HV.out.mono ?_
      rintro e w1 ⟨b1, v, rfl, hv13, hv⟩
      have HE := Go.Lib.hid (HG.out w1 v b1 hv)
      clear hv
      go_wp2_with fail
      go_ret2
      exact HE.out

def allSome (f : List UInt8 → Option Int) (X : List ByteArray) : Bool := X.all fun x => (f x.data.toList).isSome
def valsOf (f : List UInt8 → Option Int) (X : List ByteArray) : List Int := X.map fun x => (f x.data.toList).getD 0
/-- The numbers that the pieces tell, if each tells one and all are values and not too many. -/
def resL (f : List UInt8 → Option Int) (X : List ByteArray) : Option (List Int) := if allSome f X && decide (codeB (valsOf f X) = 0) then some (valsOf f X) else none
def SomeTo (f : List UInt8 → Option Int) (X : List ByteArray) (k : Nat) : Prop := ∀ j, j < k → (f (X.getD j ByteArray.empty).data.toList).isSome = true
theorem SomeTo.succ {f : List UInt8 → Option Int} {X : List ByteArray} {k : Nat} (h : SomeTo f X k) (e : (f (X.getD k ByteArray.empty).data.toList).isSome = true) : SomeTo f X (k + 1) := by
  intro j hj
  by_cases hk : j = k
  · subst hk; exact e
  · exact h j (by omega)
theorem SomeTo.all {f : List UInt8 → Option Int} {X : List ByteArray} (h : SomeTo f X X.length) : allSome f X = true := by
  unfold allSome
  rw [List.all_eq_true]
  intro x hx
  obtain ⟨j, hj, rfl⟩ := List.mem_iff_getElem.1 hx
  have := h j hj
  simpa [hj] using this
theorem allSome_no {f : List UInt8 → Option Int} {X : List ByteArray} {k : Nat} (hk : k < X.length) (h : (f (X.getD k ByteArray.empty).data.toList).isSome = false) : allSome f X = false := by
  cases hw : allSome f X
  · rfl
  · unfold allSome at hw
    have := List.all_eq_true.1 hw (X.getD k ByteArray.empty) (by simp [hk])
    rw [h] at this
    cases this
theorem valsOf_len (f : List UInt8 → Option Int) (X : List ByteArray) : (valsOf f X).length = X.length := by simp [valsOf]
theorem valsOf_take {f : List UInt8 → Option Int} {X : List ByteArray} {k : Nat} (h : k < X.length) : ints ((valsOf f X).take (k + 1)) = ints ((valsOf f X).take k) ++ [.int .i64 ((f (X.getD k ByteArray.empty).data.toList).getD 0)] := by
  unfold ints
  rw [List.take_succ_eq_append_getElem (by rw [valsOf_len]; exact h), List.map_append]
  simp [valsOf, h]

/-- The numbers gathered so far. -/
def GathI (w : World) (Z : List Int) (k : Nat) (v : Value) (wr : World) : Prop :=
  ∃ A cap, v = .slice A k cap ∧ Ow wr w.heap.size wr.heap.size 2 A k cap (ints (Z.take k)) ∧ Below w.heap.size w wr
theorem GathI.next {w wr w1 w3 : World} {Z : List Int} {k cap2 g cap3 : Nat} {A2 : Option Addr} {x : Int} {o : Obj} (ho : Ow wr w.heap.size wr.heap.size 2 A2 k cap2 (ints (Z.take k))) (hb : Below w.heap.size w wr) (hb1 : Below wr.heap.size wr w1)
    (htk : ints (Z.take (k + 1)) = ints (Z.take k) ++ [.int .i64 x])
    (hown : w3.ownsRow w.heap.size 2 1 (.slice (some ⟨g, 0, none⟩) (k + 1) cap3) (k + 1) (ints (Z.take k) ++ [.int .i64 x])) (hgrow : (w1.alloc o).grownBy w3 (Value.slice A2 k cap2).ownBlock) (hlt : g < w3.heap.size) :
    GathI w Z (k + 1) (.slice (some ⟨g, 0, none⟩) (k + 1) cap3) w3 := by
  have hb2 : Below w.heap.size w w1 := hb.trans (hb1.mono hb.size)
  have hb3 : Below w.heap.size w w3 := (hb2.alloc hb2.size _).grown hgrow (by have := hb2.size; simp; omega) (fun j hj => (ho.1.lt j hj).1)
  exact ⟨_, _, rfl, ⟨by rw [htk]; exact hown, fun g' hg' => by rw [← show g = g' by simpa [Value.ownBlock] using hg']; exact hlt⟩, hb3⟩

def zsI (r : Option (List Int)) : List Int := r.getD []
def codeI (r : Option (List Int)) : Int := if r.isSome then 0 else 6
/-- What ReadList hands back in both programs. -/
def ReadLEnd (w : World) (r : Option (List Int)) (e : Ending) (w' : World) : Prop :=
  ∃ A cap, e = .returned (.tuple #[.slice A (zsI r).length cap, .int .i64 (codeI r)]) ∧ Ow w' w.heap.size w'.heap.size 2 A (zsI r).length cap (ints (zsI r)) ∧ Below w.heap.size w w'
theorem ReadLEnd.none_ {w w' : World} (hb : Below w.heap.size w w') : ReadLEnd w none (.returned (.tuple #[.slice none 0 0, .int .i64 6])) w' :=
  ⟨none, 0, rfl, ⟨World.ownsRow_nil _ _ _ _, fun g hg => by cases hg⟩, hb⟩
theorem ReadLEnd.some_ {w w' : World} {zs : List Int} {A : Option Addr} {n cap : Nat} (hn : zs.length = n) (ho : Ow w' w.heap.size w'.heap.size 2 A n cap (ints zs)) (hb : Below w.heap.size w w') : ReadLEnd w (some zs) (.returned (.tuple #[.slice A n cap, .int .i64 0])) w' := by
  subst hn
  exact ⟨A, cap, rfl, ho, hb⟩

/-! ### Both ways of reading come to one -/
theorem okVal_small {z : Int} (h : okVal z = true) : -10000000000000 < z ∧ z < 10000000000000 := by
  unfold okVal at h
  simp only [Bool.and_eq_true, decide_eq_true_eq] at h
  omega
theorem sgn_of_num {l : List UInt8} {z : Int} (h : numB l = some z) (hz : okVal z = true) : sgnB l = some z := by
  unfold sgnB
  rw [h]
  simp only
  rw [if_pos (okVal_small hz)]
theorem num_of_sgn {l : List UInt8} {z : Int} (h : sgnB l = some z) : numB l = some z := by
  obtain ⟨h1, h2, h3⟩ := sgnB_spec h
  rw [← h1]
  exact numB_itoa (by omega) (by omega)
theorem resL_iff {f : List UInt8 → Option Int} {X : List ByteArray} {zs : List Int} : resL f X = some zs ↔ (X.map fun x => f x.data.toList) = zs.map some ∧ codeB zs = 0 := by
  constructor
  · intro h
    unfold resL at h
    split at h
    · rename_i hc
      rw [Bool.and_eq_true, decide_eq_true_eq] at hc
      injection h with h
      subst h
      refine ⟨?_, hc.2⟩
      unfold valsOf
      rw [List.map_map]
      apply List.map_congr_left
      intro x hx
      have := List.all_eq_true.1 hc.1 x hx
      cases hf : f x.data.toList with
      | none => rw [hf] at this; cases this
      | some z => simp [hf]
    · cases h
  · rintro ⟨h1, h2⟩
    have ha : allSome f X = true := by
      unfold allSome
      rw [List.all_eq_true]
      intro x hx
      have : f x.data.toList ∈ zs.map some := by rw [← h1]; exact List.mem_map_of_mem hx
      obtain ⟨z, _, hz⟩ := List.mem_map.1 this
      rw [← hz]; rfl
    have hv : valsOf f X = zs := by
      have e : valsOf f X = (X.map fun x => f x.data.toList).map (·.getD 0) := by unfold valsOf; rw [List.map_map]; rfl
      rw [e, h1, List.map_map]
      conv => rhs; rw [← List.map_id zs]
      rfl
    unfold resL
    rw [ha, hv, decide_eq_true h2]
    rfl
theorem resL_ext {f g : List UInt8 → Option Int} {X Y : List ByteArray} (h : ∀ zs, resL f X = some zs ↔ resL g Y = some zs) : resL f X = resL g Y := by
  cases h1 : resL f X with
  | some zs => exact ((h zs).1 h1).symm
  | none =>
    cases h2 : resL g Y with
    | none => rfl
    | some zs => rw [(h zs).2 h2] at h1; cases h1
theorem resL_both (X : List ByteArray) : resL numB X = resL sgnB X := by
  apply resL_ext
  intro zs
  rw [resL_iff, resL_iff]
  constructor
  · rintro ⟨h1, h2⟩
    refine ⟨?_, h2⟩
    have hok := (codeB_zero h2).2
    rw [← h1]
    apply List.map_congr_left
    intro x hx
    have : numB x.data.toList ∈ zs.map some := by rw [← h1]; exact List.mem_map_of_mem hx
    obtain ⟨z, hz, he⟩ := List.mem_map.1 this
    rw [← he]
    exact sgn_of_num he.symm (List.all_eq_true.1 hok z hz)
  · rintro ⟨h1, h2⟩
    refine ⟨?_, h2⟩
    rw [← h1]
    apply List.map_congr_left
    intro x hx
    have : sgnB x.data.toList ∈ zs.map some := by rw [← h1]; exact List.mem_map_of_mem hx
    obtain ⟨z, hz, he⟩ := List.mem_map.1 this
    rw [← he]
    exact num_of_sgn he.symm
theorem numB_comma {l : List UInt8} (h : 44 ∈ l) : numB l = none := by
  cases hz : numB l with
  | none => rfl
  | some z =>
    have h1 := numB_spec hz
    exfalso
    rw [← h1] at h
    unfold Go.Lib.itoa at h
    split at h
    · rcases List.mem_cons.1 h with e | e
      · cases e
      · exact decDigits_not (by decide) e
    · exact decDigits_not (by decide) h
theorem resL_61 (s : ByteArray) : resL numB (pieces61 s) = resL sgnB (cut s) := by
  by_cases h61 : (cut s).length ≤ 61
  · rw [pieces61_all h61, resL_both]
  · obtain ⟨x, hx, h44⟩ := pieces61_more h61
    have h1 : resL numB (pieces61 s) = none := by
      cases hr : resL numB (pieces61 s) with
      | none => rfl
      | some zs =>
        have hm : numB x.data.toList ∈ zs.map some := by rw [← (resL_iff.1 hr).1]; exact List.mem_map_of_mem hx
        rw [numB_comma h44] at hm
        obtain ⟨z, _, hz⟩ := List.mem_map.1 hm
        cases hz
    have h2 : resL sgnB (cut s) = none := by
      cases hr : resL sgnB (cut s) with
      | none => rfl
      | some zs =>
        have h3 := (codeB_zero (resL_iff.1 hr).2).1
        have h4 := congrArg List.length (resL_iff.1 hr).1
        simp only [List.length_map] at h4
        omega
    rw [h1, h2]
def readsL (s : ByteArray) : Option (List Int) := if (s.toList == [45]) then some [] else resL sgnB (cut s)
theorem readsL_len (s : ByteArray) : (zsI (readsL s)).length ≤ 60 := by
  unfold readsL
  split
  · simp [zsI]
  · cases hr : resL sgnB (cut s) with
    | none => simp [zsI]
    | some zs => exact (codeB_zero (resL_iff.1 hr).2).1
end Go.Proofs.YtcknknicknolaabDoor
