/- Contracts of impl.ReadMeasure and spec.ReadMeasure: both read the same measure. -/
import Derived.Test.YtcphhcnomaociabDoorValue
import Derived.Test.YtcphhcnomaociabDoorShelfCut
import Derived.Test.YtcphhcnomaociabDoorMax
namespace Go.Proofs.YtcphhcnomaociabDoor
open Go.RowKit

def joinM (l : List UInt8) : List UInt8 := (Go.Lib.cut l [46]).1 ++ (Go.Lib.cut l [46]).2.1
/-- The measure that a text tells, if it tells one. -/
def readsM (l : List UInt8) : Option Int :=
  match Go.Lib.parseIntB 64 (joinM l) with
  | .ok v => if okVal v && (measL v == l) then some v else none
  | _ => none
def ReadMEnd (w : World) (r : Option Int) (e : Ending) (w' : World) : Prop :=
  Below w.heap.size w w' ∧ e = .returned (.tuple (match r with | some v => #[.int .i64 v, .int .i64 0] | none => #[.int .i64 0, .int .i64 6]))

theorem readsM_bad {l : List UInt8} (h : ∀ v, ¬ Go.Lib.parseIntB 64 (joinM l) = .ok v) : readsM l = none := by
  unfold readsM
  cases hp : Go.Lib.parseIntB 64 (joinM l) with
  | ok v => exact absurd hp (h v)
  | _ => rfl
theorem readsM_ok {l : List UInt8} {v : Int} (h : Go.Lib.parseIntB 64 (joinM l) = .ok v) : readsM l = if okVal v && (measL v == l) then some v else none := by
  unfold readsM
  rw [h]

theorem implReadMeasure (s : ByteArray) (w : World) (hs : s.size ≤ 1048576) (hm : HasMax w) (ht : Tab w) (he : HasErrs w) :
    Calls Tryd.prog 29 #[.string s] w (ReadMEnd w (readsM s.data.toList)) := by
  have hl : s.data.toList.length = s.size := by simp
  have hcs := cut_size s.data.toList 46
  have hcut := Tryd.strings_Cut s ⟨#[46]⟩ hm.choose w (by omega) hm.choose_spec
  rw [show (⟨#[46]⟩ : ByteArray).data.toList = [46] from rfl] at hcut
  have hj : joinM s.data.toList = (Go.Lib.cut s.data.toList [46]).1 ++ (Go.Lib.cut s.data.toList [46]).2.1 := rfl
  obtain ⟨X, hX⟩ : ∃ X, X = (Go.Lib.cut s.data.toList [46]).1 := ⟨_, rfl⟩
  obtain ⟨Y, hY⟩ : ∃ Y, Y = (Go.Lib.cut s.data.toList [46]).2.1 := ⟨_, rfl⟩
  obtain ⟨Z, hZ⟩ : ∃ Z, Z = (Go.Lib.cut s.data.toList [46]).2.2 := ⟨_, rfl⟩
  rw [← hX, ← hY] at hcs hj
  rw [← hX, ← hY, ← hZ] at hcut
  have HC := Go.Lib.hid hcut
  clear hX hY hZ hcut
  obtain ⟨hx, hy⟩ := hcs
  have ka := add_str X Y (by omega)
  have hsz : (⟨(X ++ Y).toArray⟩ : ByteArray).size ≤ 281474976710656 := by
    show (X ++ Y).length ≤ _
    rw [List.length_append]; omega
  have hlist : s.toList = s.data.toList := ByteArray.toList_eq s
  obtain ⟨l, hll⟩ : ∃ l, l = s.data.toList := ⟨_, rfl⟩
  rw [← hll] at hj hlist ⊢
  clear hll hl
  have HSZ := Go.Lib.hid hsz
  clear hsz
  by_cases hp : ∃ v, Go.Lib.parseIntB 64 (X ++ Y) = .ok v
  · obtain ⟨v, hp⟩ := hp
    have HR := Go.Lib.hid (readsM_ok (l := l) (v := v) (by rw [hj]; exact hp))
    have HP := Go.Lib.hid hp
    clear hp hj
    cases hv : okVal v
    · have HV := Go.Lib.hid hv
      clear hlist
      go_enter Tryd.func29, Tryd.ntmps29
      go_wp2_with fail
      refine HC.out.mono ?_
      rintro e w1 ⟨rfl, m1, rfl⟩
      go_wp2_with fail
      refine (parseOk ⟨(X ++ Y).toArray⟩ v _ HSZ.out HP.out).mono ?_
      rintro e w2 ⟨rfl, b2⟩
      have b02 : Below w.heap.size w w2 := (below_drewN (Below.refl _ _) m1).trans b2
      go_wp2_with fail
      refine (implMeasureText v w2 (ht.below b02)).mono ?_
      rintro e w3 ⟨b3, rfl⟩
      rw [HV.out]
      go_wp2_with fail
      go_ret2
      exact ⟨b02.trans (b3.mono b02.size), by rw [HR.out, HV.out]; rfl⟩
    · have HV := Go.Lib.hid hv
      cases hq : (measL v == l)
      · have hq2 : (measL v == s.toList) = false := by rw [hlist]; exact hq
        have HQ := Go.Lib.hid hq
        clear hq hlist
        go_enter Tryd.func29, Tryd.ntmps29
        go_wp2_with fail
        refine HC.out.mono ?_
        rintro e w1 ⟨rfl, m1, rfl⟩
        go_wp2_with fail
        refine (parseOk ⟨(X ++ Y).toArray⟩ v _ HSZ.out HP.out).mono ?_
        rintro e w2 ⟨rfl, b2⟩
        have b02 : Below w.heap.size w w2 := (below_drewN (Below.refl _ _) m1).trans b2
        go_wp2_with fail
        refine (implMeasureText v w2 (ht.below b02)).mono ?_
        rintro e w3 ⟨b3, rfl⟩
        rw [HV.out]
        go_wp2_with fail
        go_ret2
        exact ⟨b02.trans (b3.mono b02.size), by rw [HR.out, HV.out, HQ.out]; rfl⟩
      · have hq2 : (measL v == s.toList) = true := by rw [hlist]; exact hq
        have HQ := Go.Lib.hid hq
        clear hq hlist
        go_enter Tryd.func29, Tryd.ntmps29
        go_wp2_with fail
        refine HC.out.mono ?_
        rintro e w1 ⟨rfl, m1, rfl⟩
        go_wp2_with fail
        refine (parseOk ⟨(X ++ Y).toArray⟩ v _ HSZ.out HP.out).mono ?_
        rintro e w2 ⟨rfl, b2⟩
        have b02 : Below w.heap.size w w2 := (below_drewN (Below.refl _ _) m1).trans b2
        go_wp2_with fail
        refine (implMeasureText v w2 (ht.below b02)).mono ?_
        rintro e w3 ⟨b3, rfl⟩
        rw [HV.out]
        go_wp2_with fail
        go_ret2
        exact ⟨b02.trans (b3.mono b02.size), by rw [HR.out, HV.out, HQ.out]; rfl⟩
  · have hp' : ∀ v, ¬ Go.Lib.parseIntB 64 (X ++ Y) = .ok v := fun v e => hp ⟨v, e⟩
    have HR := Go.Lib.hid (readsM_bad (l := l) (by rw [hj]; exact hp'))
    have HP := Go.Lib.hid hp'
    clear hp hp' hj hlist
    go_enter Tryd.func29, Tryd.ntmps29
    go_wp2_with fail
    refine HC.out.mono ?_
    rintro e w1 ⟨rfl, m1, rfl⟩
    go_wp2_with fail
    refine (parseBad ⟨(X ++ Y).toArray⟩ _ HSZ.out (he.below (below_drewN (Below.refl _ _) m1)) HP.out).mono ?_
    rintro e w2 ⟨⟨v, N, rfl⟩, b2⟩
    have b02 : Below w.heap.size w w2 := (below_drewN (Below.refl _ _) m1).trans b2
    go_wp2_with fail
    go_ret2
    exact ⟨b02, by rw [HR.out]; rfl⟩

/-! ### The plain side: what a text of a measure looks like -/
theorem parse_digits {D : List UInt8} (hne : D ≠ []) (h : D.all isDig = true) (hn : nv 0 D ≤ 1000000000000000000) : Go.Lib.parseIntB 64 D = .ok (nv 0 D : Int) := by
  cases D with
  | nil => exact absurd rfl hne
  | cons c r => exact parse_pos h hn
theorem dec_ne (m : Nat) : Go.Lib.decDigits m ≠ [] := fun e => by have := decDigits_pos m; rw [e] at this; simp at this
def magD (m : Nat) : List UInt8 := Go.Lib.decDigits (m / 10) ++ Go.Lib.decDigits (m % 10)
theorem magD_dig (m : Nat) : (magD m).all isDig = true := by unfold magD; rw [List.all_append, decDigits_dig, decDigits_dig]; rfl
theorem magD_nv (m : Nat) : nv 0 (magD m) = m := by
  unfold magD
  rw [nv_append, nv_decDigits, Go.Lib.decDigits_one (show m % 10 < 10 by omega)]
  show m / 10 * 10 + ((UInt8.ofNat (48 + m % 10)).toNat - 48) = m
  rw [digit_toNat (by omega)]; omega
theorem magD_ne (m : Nat) : magD m ≠ [] := by unfold magD; intro e; exact dec_ne _ (List.append_eq_nil_iff.1 e).1
theorem dot_dec (m : Nat) : (46 : UInt8) ∉ Go.Lib.decDigits m := decDigits_not (by decide)
theorem joinM_pos (m : Nat) : joinM (measP m) = magD m := by
  unfold joinM measP magD
  rw [List.append_assoc, List.singleton_append, cut_at (dot_dec _)]
theorem joinM_neg (m : Nat) : joinM (45 :: measP m) = 45 :: magD m := by
  have hd : (46 : UInt8) ∉ 45 :: Go.Lib.decDigits (m / 10) := by
    intro h
    rcases List.mem_cons.1 h with e | e
    · cases e
    · exact dot_dec _ e
  have e : (45 :: measP m : List UInt8) = (45 :: Go.Lib.decDigits (m / 10)) ++ 46 :: Go.Lib.decDigits (m % 10) := by unfold measP; simp
  unfold joinM magD
  rw [e, cut_at hd]
  rfl
theorem readsM_of {n : Int} {l : List UInt8} (h : okVal n = true) (he : measL n = l) : readsM l = some n := by
  have hb := h
  unfold okVal at hb
  simp only [Bool.and_eq_true, decide_eq_true_eq] at hb
  have hp : Go.Lib.parseIntB 64 (joinM l) = .ok n := by
    rw [← he]
    by_cases hn : n < 0
    · rw [measL_neg hn, joinM_neg, parse_neg (magD_ne _) (magD_dig _) (by rw [magD_nv]; omega), magD_nv]
      congr 1
      omega
    · rw [measL_pos hn, joinM_pos, parse_digits (magD_ne _) (magD_dig _) (by rw [magD_nv]; omega), magD_nv]
      congr 1
      omega
  rw [readsM_ok hp, h, beq_iff_eq.2 he]
  rfl
theorem readsM_none {l : List UInt8} (h : ∀ n, okVal n = true → ¬ measL n = l) : readsM l = none := by
  unfold readsM
  cases hp : Go.Lib.parseIntB 64 (joinM l) with
  | ok v =>
    cases hv : okVal v
    · simp [hv]
    · have := h v hv
      simp [this]
  | _ => rfl

/-- A text of a measure: its sign, its millimetres, its full stop, its tenth. -/
structure Shape (s : ByteArray) (n : Int) (f : Nat) (q r : Nat) : Prop where
  size : 3 ≤ s.size
  dot : s.data.toList.getD (s.size - 2) 0 = 46
  head : s.data.toList.getD 0 0 = 45 ↔ n < 0
  from_ : f = if n < 0 then 1 else 0
  whole : (s.extract f (s.size - 2)).data.toList = Go.Lib.decDigits q
  part : (s.extract (s.size - 1) s.size).data.toList = Go.Lib.decDigits r
  num : n = if n < 0 then -(10 * (q : Int) + r) else 10 * (q : Int) + r
  q12 : q ≤ 100000000000
  r10 : r < 10
theorem shape_of {s : ByteArray} {n : Int} (h : okVal n = true) (he : measL n = s.data.toList) : ∃ f q r, Shape s n f q r := by
  have hb := h
  unfold okVal at hb
  simp only [Bool.and_eq_true, decide_eq_true_eq] at hb
  have hsl : s.data.toList.length = s.size := by simp
  by_cases hn : n < 0
  · obtain ⟨m, hm⟩ : ∃ m : Nat, m = (-n).toNat := ⟨_, rfl⟩
    have hd := Go.Lib.decDigits_one (show m % 10 < 10 by omega)
    have hp := decDigits_pos (m / 10)
    rw [measL_neg hn, ← hm] at he
    unfold measP at he
    have hlen : s.size = (Go.Lib.decDigits (m / 10)).length + 3 := by
      rw [← hsl, ← he]; simp [hd]
    refine ⟨1, m / 10, m % 10, by omega, ?_, ?_, by rw [if_pos hn], ?_, ?_, by rw [if_pos hn]; omega, by omega, by omega⟩
    · rw [← he, show s.size - 2 = (Go.Lib.decDigits (m / 10)).length + 1 by omega]
      simp
    · rw [← he]; simp [hn]
    · rw [extract_list, ← he, show s.size - 2 - 1 = (Go.Lib.decDigits (m / 10)).length by omega]
      simp
    · rw [extract_list, ← he, show s.size - (s.size - 1) = 1 by omega, show s.size - 1 = (Go.Lib.decDigits (m / 10)).length + 2 by omega, hd]
      simp
  · obtain ⟨m, hm⟩ : ∃ m : Nat, m = n.toNat := ⟨_, rfl⟩
    have hd := Go.Lib.decDigits_one (show m % 10 < 10 by omega)
    have hp := decDigits_pos (m / 10)
    rw [measL_pos hn, ← hm] at he
    unfold measP at he
    have hlen : s.size = (Go.Lib.decDigits (m / 10)).length + 2 := by
      rw [← hsl, ← he]; simp [hd]
    have h45 : ¬ s.data.toList.getD 0 0 = 45 := by
      rw [← he]
      cases hq : Go.Lib.decDigits (m / 10) with
      | nil => exact absurd hq (dec_ne _)
      | cons c t =>
        have hc := List.all_eq_true.1 (decDigits_dig (m / 10)) c (by rw [hq]; simp)
        have hc2 := isDig_iff.1 hc
        simp only [List.cons_append, List.getD_cons_zero]
        intro e
        rw [e] at hc2
        revert hc2
        decide
    refine ⟨0, m / 10, m % 10, by omega, ?_, ⟨fun h => absurd h h45, fun h => absurd h hn⟩, by rw [if_neg hn], ?_, ?_, by rw [if_neg hn]; omega, by omega, by omega⟩
    · rw [← he, show s.size - 2 = (Go.Lib.decDigits (m / 10)).length by omega]
      simp
    · rw [extract_list, ← he, show s.size - 2 - 0 = (Go.Lib.decDigits (m / 10)).length by omega]
      simp
    · rw [extract_list, ← he, show s.size - (s.size - 1) = 1 by omega, show s.size - 1 = (Go.Lib.decDigits (m / 10)).length + 1 by omega, hd]
      simp

theorem first_byte {s : ByteArray} (h : 0 < s.size) : s.data.toList.getD 0 0 = s[0] := by
  rw [getD_of (by simpa using h)]; rfl
theorem nth_byte {s : ByteArray} {k : Nat} (h : k < s.size) : s.data.toList.getD k 0 = s[k] := by
  rw [getD_of (by simpa using h)]; rfl
theorem byte_eq {c : UInt8} {k : Nat} (hk : k < 256) : c = UInt8.ofNat k ↔ (c.toNat : Int) = k := by
  constructor
  · intro h; rw [h, UInt8.toNat_ofNat_of_lt' (by show k < 256; omega)]
  · intro h
    apply UInt8.toNat_inj.1
    rw [UInt8.toNat_ofNat_of_lt' (by show k < 256; omega)]
    omega

theorem specValueL (t : ByteArray) (m : Nat) (w : World) (ht : t.data.toList = Go.Lib.decDigits m) (hm : m < 10000000000000) :
    Calls Tryd.prog 31 #[.string t] w fun e w' => e = .returned (.tuple #[.int .i64 m, .bool true]) ∧ Below w.heap.size w w' := by
  have hl : t.size ≤ maxLen := by
    have h1 : t.data.toList.length ≤ 13 := by rw [ht]; exact decDigits_len13 hm
    have h2 : t.size ≤ 13 := h1
    unfold maxLen; omega
  refine (specValue t w hl).mono fun e w' ⟨hb, v, he, _, hv⟩ => ?_
  have hok : valOk t.data.toList = true := by rw [ht]; exact valOk_dec hm
  have := hv hok
  rw [ht, nv_decDigits] at this
  subst this
  rw [hok] at he
  exact ⟨he, hb⟩

set_option maxRecDepth 100000 in
theorem specReadMeasure_yes (s : ByteArray) (n : Int) (w : World) (hs : s.size ≤ 1048576) (hok : okVal n = true) (he : measL n = s.data.toList) :
    Calls Tryd.prog 32 #[.string s] w (ReadMEnd w (some n)) := by
  obtain ⟨f, q, r, sh⟩ := shape_of hok he
  have h3 := sh.size
  have hq := sh.q12
  have hr := sh.r10
  have hbd := hok
  unfold okVal at hbd
  simp only [Bool.and_eq_true, decide_eq_true_eq] at hbd
  obtain ⟨hb0, hb1⟩ := hbd
  have hdotb : ((s[s.size - 2].toNat : Int) != 46) = false := by
    have := sh.dot
    rw [nth_byte (by omega)] at this
    rw [this]; rfl
  have heq : (measL n == s.toList) = true := by rw [ByteArray.toList_eq, he]; simp
  have hpart : (s.extract (s.size - 2 + 1) s.size).data.toList = Go.Lib.decDigits r := by
    rw [show s.size - 2 + 1 = s.size - 1 by omega]; exact sh.part
  by_cases hn : n < 0
  · have hf : f = 1 := by have := sh.from_; rw [if_pos hn] at this; exact this
    have h45 : ((s[0].toNat : Int) == 45) = true := by
      have := sh.head.2 hn
      rw [first_byte (by omega)] at this
      rw [this]; rfl
    have hnum := sh.num
    rw [if_pos hn] at hnum
    subst hf
    have HW := Go.Lib.hid sh.whole
    have HP := Go.Lib.hid hpart
    have HOK := Go.Lib.hid hok
    clear sh hpart he
    obtain rfl : n = -(10 * (q : Int) + (r : Int)) := hnum
    go_enter Tryd.func32, Tryd.ntmps32
    go_wp2_with fail
    refine (specValueL _ q w HW.out (by omega)).mono ?_
    rintro e w1 ⟨rfl, b1⟩
    go_wp2_with fail
    refine (specValueL _ r w1 HP.out (by omega)).mono ?_
    rintro e w2 ⟨rfl, b2⟩
    have b02 := b1.trans (b2.mono b1.size)
    have HM := Go.Lib.hid (specMeasure (-(10 * (q : Int) + (r : Int))) w2 hb0 hb1)
    go_wp2_with fail
    refine (specIs _ _).mono ?_
    rintro e w' ⟨rfl, rfl⟩
    go_wp2_with fail
    refine HM.out.mono ?_
    rintro e w3 ⟨rfl, b3⟩
    go_wp2_with fail
    go_ret2
    exact ⟨b02.trans (b3.mono b02.size), rfl⟩
  · have hf : f = 0 := by have := sh.from_; rw [if_neg hn] at this; exact this
    have h45 : ((s[0].toNat : Int) == 45) = false := by
      have h1 : ¬ s.data.toList.getD 0 0 = 45 := fun h => hn (sh.head.1 h)
      rw [first_byte (by omega)] at h1
      simp
      intro h
      exact h1 ((byte_eq (k := 45) (by decide)).2 (by omega))
    have hnum := sh.num
    rw [if_neg hn] at hnum
    subst hf
    have HW := Go.Lib.hid sh.whole
    have HP := Go.Lib.hid hpart
    have HOK := Go.Lib.hid hok
    clear sh hpart he
    obtain rfl : n = 10 * (q : Int) + (r : Int) := hnum
    go_enter Tryd.func32, Tryd.ntmps32
    go_wp2_with fail
    refine (specValueL _ q w HW.out (by omega)).mono ?_
    rintro e w1 ⟨rfl, b1⟩
    go_wp2_with fail
    refine (specValueL _ r w1 HP.out (by omega)).mono ?_
    rintro e w2 ⟨rfl, b2⟩
    have b02 := b1.trans (b2.mono b1.size)
    have HM := Go.Lib.hid (specMeasure (10 * (q : Int) + (r : Int)) w2 hb0 hb1)
    go_wp2_with fail
    refine (specIs _ _).mono ?_
    rintro e w' ⟨rfl, rfl⟩
    go_wp2_with fail
    refine HM.out.mono ?_
    rintro e w3 ⟨rfl, b3⟩
    go_wp2_with fail
    go_ret2
    exact ⟨b02.trans (b3.mono b02.size), rfl⟩

theorem extract_le (s : ByteArray) (a b : Nat) : (s.extract a b).size ≤ s.size := by
  have : (s.extract a b).data.toList.length ≤ s.data.toList.length := by
    rw [extract_list, List.length_take, List.length_drop]; omega
  exact this

set_option maxRecDepth 100000 in
theorem specReadMeasure_no (s : ByteArray) (w : World) (hs : s.size ≤ 1048576) (hno : ∀ n, okVal n = true → ¬ measL n = s.data.toList) :
    Calls Tryd.prog 32 #[.string s] w (ReadMEnd w none) := by
  have hno2 : ∀ n, okVal n = true → (measL n == s.toList) = false := fun n h => by
    rw [ByteArray.toList_eq]
    have := hno n h
    simpa using this
  have HNO := Go.Lib.hid hno2
  clear hno hno2
  by_cases h3 : (s.size : Int) - 2 < 1
  · go_enter Tryd.func32, Tryd.ntmps32
    go_wp2_with fail
    go_ret2
    exact ⟨Below.refl _ _, rfl⟩
  · have hge : 3 ≤ s.size := by omega
    have hlt : s.size - 2 < s.size := by omega
    cases hdot : ((s[s.size - 2].toNat : Int) != 46)
    · have hmx : ∀ a b, (s.extract a b).size ≤ maxLen := fun a b => by
        have := extract_le s a b
        unfold maxLen; omega
      have HMX := Go.Lib.hid hmx
      clear hmx
      cases h45 : ((s[0].toNat : Int) == 45)
      · go_enter Tryd.func32, Tryd.ntmps32
        go_wp2_with fail
        refine (specValue (s.extract 0 (s.size - 2)) w (HMX.out _ _)).mono ?_
        rintro e w1 ⟨b1, v1, rfl, hv1, -⟩
        obtain ⟨x1, hx1⟩ : ∃ x, x = valOk (s.extract 0 (s.size - 2)).data.toList := ⟨_, rfl⟩
        rw [← hx1]
        clear hx1
        go_wp2_with fail
        refine (specValue (s.extract (s.size - 2 + 1) s.size) w1 (HMX.out _ _)).mono ?_
        rintro e w2 ⟨b2, v2, rfl, hv2, -⟩
        obtain ⟨x2, hx2⟩ : ∃ x, x = valOk (s.extract (s.size - 2 + 1) s.size).data.toList := ⟨_, rfl⟩
        rw [← hx2]
        clear hx2
        have b02 := b1.trans (b2.mono b1.size)
        cases x1
        · go_wp2_with fail
          go_ret2
          exact ⟨b02, rfl⟩
        · cases x2
          · go_wp2_with fail
            go_ret2
            exact ⟨b02, rfl⟩
          · cases hv : okVal (10 * (v1 : Int) + (v2 : Int))
            · have HV := Go.Lib.hid hv
              clear hv
              go_wp2_with fail
              refine (specIs _ _).mono ?_
              rintro e w' ⟨rfl, rfl⟩
              rw [HV.out]
              go_wp2_with fail
              go_ret2
              exact ⟨b02, rfl⟩
            · have hq := HNO.out _ hv
              have HV := Go.Lib.hid hv
              have hbd := hv
              unfold okVal at hbd
              simp only [Bool.and_eq_true, decide_eq_true_eq] at hbd
              have HM := Go.Lib.hid (specMeasure (10 * (v1 : Int) + (v2 : Int)) w2 hbd.1 hbd.2)
              clear hv hbd
              go_wp2_with fail
              refine (specIs _ _).mono ?_
              rintro e w' ⟨rfl, rfl⟩
              rw [HV.out]
              go_wp2_with fail
              refine HM.out.mono ?_
              rintro e w3 ⟨rfl, b3⟩
              go_wp2_with fail
              go_ret2
              exact ⟨b02.trans (b3.mono b02.size), rfl⟩
      · go_enter Tryd.func32, Tryd.ntmps32
        go_wp2_with fail
        refine (specValue (s.extract 1 (s.size - 2)) w (HMX.out _ _)).mono ?_
        rintro e w1 ⟨b1, v1, rfl, hv1, -⟩
        obtain ⟨x1, hx1⟩ : ∃ x, x = valOk (s.extract 1 (s.size - 2)).data.toList := ⟨_, rfl⟩
        rw [← hx1]
        clear hx1
        go_wp2_with fail
        refine (specValue (s.extract (s.size - 2 + 1) s.size) w1 (HMX.out _ _)).mono ?_
        rintro e w2 ⟨b2, v2, rfl, hv2, -⟩
        obtain ⟨x2, hx2⟩ : ∃ x, x = valOk (s.extract (s.size - 2 + 1) s.size).data.toList := ⟨_, rfl⟩
        rw [← hx2]
        clear hx2
        have b02 := b1.trans (b2.mono b1.size)
        cases x1
        · go_wp2_with fail
          go_ret2
          exact ⟨b02, rfl⟩
        · cases x2
          · go_wp2_with fail
            go_ret2
            exact ⟨b02, rfl⟩
          · cases hv : okVal (-(10 * (v1 : Int) + (v2 : Int)))
            · have HV := Go.Lib.hid hv
              clear hv
              go_wp2_with fail
              refine (specIs _ _).mono ?_
              rintro e w' ⟨rfl, rfl⟩
              rw [HV.out]
              go_wp2_with fail
              go_ret2
              exact ⟨b02, rfl⟩
            · have hq := HNO.out _ hv
              have HV := Go.Lib.hid hv
              have hbd := hv
              unfold okVal at hbd
              simp only [Bool.and_eq_true, decide_eq_true_eq] at hbd
              have HM := Go.Lib.hid (specMeasure (-(10 * (v1 : Int) + (v2 : Int))) w2 hbd.1 hbd.2)
              clear hv hbd
              go_wp2_with fail
              refine (specIs _ _).mono ?_
              rintro e w' ⟨rfl, rfl⟩
              rw [HV.out]
              go_wp2_with fail
              refine HM.out.mono ?_
              rintro e w3 ⟨rfl, b3⟩
              go_wp2_with fail
              go_ret2
              exact ⟨b02.trans (b3.mono b02.size), rfl⟩
    · go_enter Tryd.func32, Tryd.ntmps32
      go_wp2_with fail
      go_ret2
      exact ⟨Below.refl _ _, rfl⟩

theorem specReadMeasure (s : ByteArray) (w : World) (hs : s.size ≤ 1048576) :
    Calls Tryd.prog 32 #[.string s] w (ReadMEnd w (readsM s.data.toList)) := by
  by_cases hex : ∃ n, okVal n = true ∧ measL n = s.data.toList
  · obtain ⟨n, hok, he⟩ := hex
    rw [readsM_of hok he]
    exact specReadMeasure_yes s n w hs hok he
  · have hno : ∀ n, okVal n = true → ¬ measL n = s.data.toList := fun n h e => hex ⟨n, h, e⟩
    rw [readsM_none hno]
    exact specReadMeasure_no s w hs hno
end Go.Proofs.YtcphhcnomaociabDoor
