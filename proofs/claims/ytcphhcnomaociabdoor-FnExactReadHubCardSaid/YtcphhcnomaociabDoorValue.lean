/- Contracts of spec.l01Value and l01Signed, and of strconv.ParseInt at base 10 as the program calls it. -/
import Derived.Test.YtcphhcnomaociabDoorMeas
import Derived.Test.YtcphhcnomaociabDoorPlainNum
import Derived.Test.YtcphhcnomaociabDoorShelfParse
import Derived.Test.YtcphhcnomaociabDoorPlainSplit
import Derived.Deep.LoopGhost
import Derived.Lib.LaidU8
import Derived.LaidSub
import Derived.MakeChecks
namespace Go.Proofs.YtcphhcnomaociabDoor
open Go.RowKit

def DigsTo (s : ByteArray) (k : Nat) : Prop := (s.data.toList.take k).all isDig = true
theorem take_next {s : ByteArray} {k : Nat} (hk : k < s.size) : s.data.toList.take (k + 1) = s.data.toList.take k ++ [s[k]] := by
  rw [List.take_succ_eq_append_getElem (by simpa using hk)]; rfl
theorem DigsTo.succ {s : ByteArray} {k : Nat} (h : DigsTo s k) (hk : k < s.size) (a : 48 ≤ (s[k].toNat : Int)) (b : (s[k].toNat : Int) ≤ 57) : DigsTo s (k + 1) := by
  have hd : isDig s[k] = true := isDig_iff.2 (by omega)
  unfold DigsTo at h ⊢
  rw [take_next hk, List.all_append, h, List.all_cons, hd]
  rfl
theorem nv_next {s : ByteArray} {k : Nat} (hk : k < s.size) : nv 0 (s.data.toList.take (k + 1)) = nv 0 (s.data.toList.take k) * 10 + (s[k].toNat - 48) := by
  rw [take_next hk, nv_append]; rfl
theorem valOk_short {l : List UInt8} (h : ¬ (1 ≤ l.length ∧ l.length ≤ 13)) : valOk l = false := by
  cases hv : valOk l
  · rfl
  · unfold valOk at hv
    simp only [Bool.and_eq_true, decide_eq_true_eq] at hv
    exact absurd hv.1.1 h
theorem valOk_nodig {s : ByteArray} {k : Nat} (hk : k < s.size) (h : (s[k].toNat : Int) < 48 ∨ 57 < (s[k].toNat : Int)) : valOk s.data.toList = false := by
  cases hv : valOk s.data.toList
  · rfl
  · unfold valOk at hv
    simp only [Bool.and_eq_true, decide_eq_true_eq] at hv
    have hm : s[k] ∈ s.data.toList := by
      have : s.data.toList[k]'(by simpa using hk) = s[k] := rfl
      rw [← this]; exact List.getElem_mem _
    have := isDig_iff.1 (List.all_eq_true.1 hv.1.2 _ hm)
    omega
theorem valOk_end {s : ByteArray} (h1 : 1 ≤ s.size) (h2 : s.size ≤ 13) (h : DigsTo s s.size) : valOk s.data.toList = (Go.Lib.decDigits (nv 0 s.data.toList) == s.data.toList) := by
  have hl : s.data.toList.length = s.size := by simp
  have ht : s.data.toList.take s.size = s.data.toList := List.take_of_length_le (by omega)
  unfold DigsTo at h
  rw [ht] at h
  unfold valOk
  rw [h, decide_eq_true (by omega), decide_eq_true (by omega)]
  rfl

/-- What l01Value hands back: a number, and whether the text is its numeral. -/
def ValEnd (w : World) (l : List UInt8) (e : Ending) (w' : World) : Prop :=
  Below w.heap.size w w' ∧ ∃ v : Nat, e = .returned (.tuple #[.int .i64 v, .bool (valOk l)]) ∧ v ≤ 10000000000000 ∧ (valOk l = true → v = nv 0 l)

set_option maxRecDepth 100000 in
theorem specValue (s : ByteArray) (w : World) (hs : s.size ≤ maxLen) :
    Calls Tryd.prog 31 #[.string s] w (ValEnd w s.data.toList) := by
  have hl : s.data.toList.length = s.size := by simp
  unfold maxLen at hs
  by_cases h1 : (s.size : Int) < 1
  · have HV := Go.Lib.hid (valOk_short (l := s.data.toList) (by omega))
    clear hl
    go_enter Tryd.func31, Tryd.ntmps31
    go_wp2
    go_ret2
    exact ⟨Below.refl _ _, 0, by rw [HV.out]; rfl, by omega, fun h => by rw [HV.out] at h; cases h⟩
  · by_cases h2 : (13 : Int) < s.size
    · have HV := Go.Lib.hid (valOk_short (l := s.data.toList) (by omega))
      clear hl
      go_enter Tryd.func31, Tryd.ntmps31
      go_wp2
      go_ret2
      exact ⟨Below.refl _ _, 0, by rw [HV.out]; rfl, by omega, fun h => by rw [HV.out] at h; cases h⟩
    · clear hl
      go_enter Tryd.func31, Tryd.ntmps31
      go_wp2
      go_loop [4, 5] (fun n i => ∃ k : Nat, k ≤ s.size ∧ i = .int .i64 k ∧ n = .int .i64 (nv 0 (s.data.toList.take k) : Nat) ∧ DigsTo s k) (fun _ i => s.size - (intOf i).toNat)
      case atStart => exact ⟨0, Nat.zero_le _, rfl, rfl, rfl⟩
      case round =>
        obtain ⟨k, hk, rfl, rfl, hd⟩ := hrel
        by_cases hlt : k < s.size
        · have h12 := nv_12 (l := s.data.toList.take k) hd (by rw [List.length_take]; omega)
          have HN := Go.Lib.hid (nv_next hlt)
          obtain ⟨n, hn⟩ : ∃ n, n = nv 0 (s.data.toList.take k) := ⟨_, rfl⟩
          rw [← hn] at h12 HN ⊢
          clear hn
          by_cases hlo : (s[k].toNat : Int) < 48
          · have HV := Go.Lib.hid (valOk_nodig hlt (.inl hlo))
            go_wp2
            go_ret2
            exact ⟨Below.refl _ _, 0, by rw [HV.out]; rfl, by omega, fun h => by rw [HV.out] at h; cases h⟩
          · by_cases hhi : 57 < (s[k].toNat : Int)
            · have HV := Go.Lib.hid (valOk_nodig hlt (.inr hhi))
              go_wp2
              go_ret2
              exact ⟨Below.refl _ _, 0, by rw [HV.out]; rfl, by omega, fun h => by rw [HV.out] at h; cases h⟩
            · have hd2 := hd.succ hlt (by omega) (by omega)
              have HD := Go.Lib.hid hd2
              clear hd hd2
              go_wp2
              go_round
              case rel => exact ⟨k + 1, by omega, by go_num, by rw [HN.out]; go_num, HD.out⟩
              case measure => simp [intOf]; omega
        · obtain rfl : k = s.size := by omega
          have ht : s.data.toList.take s.size = s.data.toList := List.take_of_length_le (by simp)
          have HV := Go.Lib.hid (valOk_end (by omega) (by omega) hd)
          have h13 := nv_13 (l := s.data.toList.take s.size) hd (by rw [List.length_take]; omega)
          rw [ht] at h13 ⊢
          have HT := Go.Lib.hid (dec (nv 0 s.data.toList : Nat) w (by omega) (by omega))
          obtain ⟨n, hn⟩ : ∃ n, n = nv 0 s.data.toList := ⟨_, rfl⟩
          rw [← hn] at h13 HT HV ⊢
          have HN := Go.Lib.hid hn
          clear hn ht hd
          cases hb : (Go.Lib.decDigits n == s.data.toList)
          · have hq : (Go.Lib.decDigits n == s.toList) = false := by rw [ByteArray.toList_eq]; exact hb
            have HB := Go.Lib.hid hb
            clear hb
            go_wp2_with fail
            refine HT.out.mono ?_
            rintro e w1 ⟨rfl, hb1⟩
            rw [Int.toNat_natCast]
            go_wp2_with fail
            go_ret2
            exact ⟨hb1, n, by rw [HV.out, HB.out]; rfl, by omega, fun h => by rw [HV.out, HB.out] at h; cases h⟩
          · have hq : (Go.Lib.decDigits n == s.toList) = true := by rw [ByteArray.toList_eq]; exact hb
            have HB := Go.Lib.hid hb
            clear hb
            go_wp2_with fail
            refine HT.out.mono ?_
            rintro e w1 ⟨rfl, hb1⟩
            rw [Int.toNat_natCast]
            go_wp2_with fail
            go_ret2
            exact ⟨hb1, n, by rw [HV.out, HB.out]; rfl, by omega, fun _ => HN.out⟩

/-! ### ParseInt -/
/-- The two error variables of strconv hold nil or an error. -/
def HasErrs (w : World) : Prop :=
  (∃ ev, w.cell? ⟨2, 0, none⟩ = some ev ∧ (ev = .nilIface ∨ ∃ te pe, ev = .iface te pe)) ∧ (∃ ev, w.cell? ⟨3, 0, none⟩ = some ev ∧ (ev = .nilIface ∨ ∃ te pe, ev = .iface te pe))
theorem cell_lt_of {w : World} {b o : Nat} {s : Option Nat} {v : Value} (h : w.cell? ⟨b, o, s⟩ = some v) : b < w.heap.size := by
  rcases Nat.lt_or_ge b w.heap.size with hlt | hge
  · exact hlt
  · unfold World.cell? at h
    rw [Array.getElem?_eq_none hge] at h
    cases h
theorem HasErrs.below {w w' : World} (h : HasErrs w) (hb : Below w.heap.size w w') : HasErrs w' := by
  obtain ⟨⟨e1, c1, h1⟩, ⟨e2, c2, h2⟩⟩ := h
  exact ⟨⟨e1, (hb.cell (p := ⟨2, 0, none⟩) (cell_lt_of c1)).trans c1, h1⟩, ⟨e2, (hb.cell (p := ⟨3, 0, none⟩) (cell_lt_of c2)).trans c2, h2⟩⟩
def isErrS (x : String × DataW Unit) : Bool := x.1 == "strconv.ErrSyntax"
def isErrR (x : String × DataW Unit) : Bool := x.1 == "strconv.ErrRange"
theorem err_cell {W : World} {l : List (String × DataW Unit)} {g : Nat} {n : String} {d : DataW Unit} {t : TypeId} {nm : String} {x : DataW Unit} {ms : Array (String × TypeId)} (hm : (n, d) ∈ l) (hd : d = .iface nm x)
    (hg : Tryd.prog.globalNamed n = some g) (ht : (Tryd.prog.globals[g]?).map (·.type) = some t) (hu : Tryd.prog.underlying t = some (.interface ms)) (h : laidMet Tryd.prog l W) :
    ∃ ev, W.cell? ⟨g, 0, none⟩ = some ev ∧ (ev = .nilIface ∨ ∃ te pe, ev = .iface te pe) := by
  obtain ⟨g', t', cs, fuel, p, h1, h2, h3, h4⟩ := Go.Lib.laidMet.reads h hm
  obtain rfl := Option.some.inj (hg.symm.trans h1)
  obtain rfl := Option.some.inj (ht.symm.trans h2)
  subst hd
  obtain ⟨f1, u, v, hcs, _, _⟩ := iface_of_trod hu h4
  have hc := World.var?_cell hg h3 0
  rw [Array.eq_one_of_toList hcs] at hc
  exact ⟨_, by simpa using hc, .inr ⟨u, v, rfl⟩⟩

/-- ParseInt of a text that is a number. -/
theorem parseOk (s : ByteArray) (v : Int) (w : World) (hs : s.size ≤ 281474976710656) (h : Go.Lib.parseIntB 64 s.data.toList = .ok v) :
    Calls Tryd.prog 47 #[.string s, .int .i64 10, .int .i64 64] w fun e w' => e = .returned (.tuple #[.int .i64 v, .nilIface]) ∧ Below w.heap.size w w' :=
  (Tryd.strconv_ParseInt_10_at64_ok s (by omega) v h w).mono fun e w' ⟨he, hw⟩ => by
    refine ⟨he, ?_⟩
    rcases hw with rfl | ⟨t, rfl⟩
    · exact Below.refl _ _
    · exact Go.Joins.below_bytesWorld _ _ _ _ (Nat.le_refl _)
/-- ParseInt of any other text: some number beside an error. -/
theorem parseBad (s : ByteArray) (w : World) (hs : s.size ≤ 281474976710656) (he : HasErrs w) (h : ∀ v, ¬ Go.Lib.parseIntB 64 s.data.toList = .ok v) :
    Calls Tryd.prog 47 #[.string s, .int .i64 10, .int .i64 64] w fun e w' => (∃ v N, e = .returned (.tuple #[.int .i64 v, .iface 107 (.pointer (some ⟨N, 0, none⟩))])) ∧ Below w.heap.size w w' := by
  obtain ⟨⟨e1, c1, h1⟩, ⟨e2, c2, h2⟩⟩ := he
  cases hp : Go.Lib.parseIntB 64 s.data.toList with
  | ok v => exact absurd hp (h v)
  | range =>
    exact (Tryd.strconv_ParseInt_10_at64_range s hs hp e2 w c2 h2).mono fun e w' ⟨N, hr, _, _, hb⟩ => ⟨⟨_, N, hr⟩, hb⟩
  | _ =>
    exact (Tryd.strconv_ParseInt_10_at64_syntax s hs hp e1 w c1 h1).mono fun e w' ⟨N, hr, _, _, hb⟩ => ⟨⟨_, N, hr⟩, hb⟩
end Go.Proofs.YtcphhcnomaociabDoor
