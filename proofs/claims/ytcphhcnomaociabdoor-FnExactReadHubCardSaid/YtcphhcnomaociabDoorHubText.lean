/- Contracts of the model's texts of hubs. -/
import Derived.Test.YtcphhcnomaociabDoorPlainHubText
import Derived.Test.YtcphhcnomaociabDoorSplitSlash
import Derived.Test.YtcphhcnomaociabDoorHubS
import Derived.Test.YtcphhcnomaociabDoorBox
import Derived.Test.YtcphhcnomaociabDoorPlainJoin
import Derived.Test.YtcphhcnomaociabDoorBas
import Derived.Laws.Concat
import Derived.Deep.RegionHeld3
namespace Go.Proofs.YtcphhcnomaociabDoor
open Go.RowKit

def texts (zs : List ByteArray) : List (List UInt8) := zs.map (·.data.toList)
theorem texts_len (zs : List ByteArray) : (texts zs).length = zs.length := by simp [texts]
theorem texts_at (zs : List ByteArray) (k : Nat) (h : k < zs.length) : (texts zs).getD k [] = (zs.getD k ByteArray.empty).data.toList := by simp [texts, h]
theorem add_baH (x : List UInt8) (s : ByteArray) (h : x.length + s.size ≤ 9223372036854775807) (w : World) :
    (Op.stringOp .add ⟨x.toArray⟩ s).run Tryd.prog w = .ok (.string ⟨(x ++ s.data.toList).toArray⟩) w := by
  rw [run_string_add_sum w ⟨x.toArray⟩ s h]
  congr 3
theorem add_sepH (x : List UInt8) (y : List UInt8) (h : x.length + y.length ≤ 9223372036854775807) (w : World) :
    (Op.stringOp .add ⟨x.toArray⟩ ⟨y.toArray⟩).run Tryd.prog w = .ok (.string ⟨(x ++ y).toArray⟩) w := by
  rw [run_string_add_sum w ⟨x.toArray⟩ ⟨y.toArray⟩ h]
  congr 3

theorem specWordsSep (A : Option Addr) (n cap : Nat) (zs : List ByteArray) (sep : UInt8) (lo hi : Nat) (w : World) (h : Rd w lo hi A n (bas zs)) (hn : n ≤ 1000000) (hok : ∀ z ∈ zs, z.size ≤ 50) :
    Calls Tryd.prog 43 #[.slice A n cap, .string ⟨#[sep]⟩] w fun e w' => e = .returned (.string ⟨(Go.Lib.join (texts zs) [sep]).toArray⟩) ∧ w = w' := by
  have hz : zs.length = n := by have := h.len; rwa [bas_len] at this
  have HZ := Go.Lib.hid hz
  clear hz
  go_enter Tryd.func43, Tryd.ntmps43
  go_wp2
  go_loop [5, 6] (fun u i => ∃ k : Nat, k ≤ n ∧ i = .int .i64 k ∧ u = .string ⟨(acc (texts zs) [sep] k).toArray⟩) (fun _ i => n - (intOf i).toNat)
  case atStart => exact ⟨0, Nat.zero_le _, rfl, by rw [acc_zero]⟩
  case round =>
    obtain ⟨k, hk, rfl, rfl⟩ := hrel
    by_cases hlt : k < n
    · obtain ⟨b, o, rfl, p, q, c⟩ := h.at_ hlt
      have hkz : k < zs.length := by have := HZ.out; omega
      have hcell : w.cell? ⟨b, o + k, none⟩ = some (.string (zs.getD k ByteArray.empty)) := c k _ (bas_at zs k hkz)
      have hbd := hok (zs.getD k ByteArray.empty) (by simp [hkz])
      have hal := acc_len (L := texts zs) (sep := [sep]) (m := 50) (by simp) (fun l hl => by obtain ⟨z, hz, rfl⟩ := List.mem_map.1 hl; have := hok z hz; simpa using this) k (by rw [texts_len]; omega)
      have hs1 := fun (h0 : 0 < k) => acc_succ (L := texts zs) [sep] h0 (by rw [texts_len]; exact hkz)
      have hs0 := acc_one (L := texts zs) [sep] (by rw [texts_len]; omega)
      rw [texts_at zs k hkz] at hs1
      obtain ⟨x, hx⟩ : ∃ x, x = zs.getD k ByteArray.empty := ⟨_, rfl⟩
      obtain ⟨l, hl⟩ : ∃ l, l = acc (texts zs) [sep] k := ⟨_, rfl⟩
      rw [← hx] at hcell hbd hs1
      rw [← hl] at hal hs1 ⊢
      have HS := Go.Lib.hid hs1
      have HS0 := Go.Lib.hid hs0
      have HX := Go.Lib.hid hx
      have HL := Go.Lib.hid hl
      clear hs1 hs0 hx hl c
      by_cases h0 : 0 < k
      · have k1 := add_sepH l [sep] (by simp; omega)
        have k2 := add_baH (l ++ [sep]) x (by simp; omega)
        go_wp2
        go_round
        case rel => exact ⟨k + 1, by omega, by go_num, by rw [HS.out h0]; simp⟩
        case measure => simp [intOf]; omega
      · obtain rfl : k = 0 := by omega
        simp only [Nat.add_zero] at hcell
        have k1 := add_baH l x (by omega)
        go_wp2
        go_round
        case rel => exact ⟨1, by omega, by go_num, by rw [HS0.out, HL.out, acc_zero, texts_at zs 0 hkz, HX.out]; rfl⟩
        case measure => simp [intOf]; omega
    · obtain rfl : k = n := by omega
      go_wp2
      go_ret
      exact ⟨by rw [← acc_all, texts_len, HZ.out]; rfl, rfl⟩



/-- What the text of a hub holds while it is made. -/
structure TC (w : World) (q : Nat) (h : Hb) (W : World) : Prop where
  hub : Box W q [.int .i64 h.n, .int .i64 h.l, .int .i64 h.r, .int .i64 h.a, .int .i64 h.b]
  below : Below w.heap.size w W
section
variable {w W W1 : World} {q : Nat} {h : Hb}
theorem TC.next (c : TC w q h W) (hb : Below W.heap.size W W1) : TC w q h W1 := ⟨c.hub.below hb, upB c.below hb⟩
theorem TC.drew (c : TC w q h W) : TC w q h W.drew := ⟨c.hub.drew, c.below.drew⟩
theorem TC.alloc (c : TC w q h W) (o : Obj) : TC w q h (W.alloc o) := ⟨c.hub.alloc o, c.below.alloc c.below.size o⟩
theorem TC.cells (c : TC w q h W) : W.cell? ⟨q, 0, none⟩ = some (.int .i64 h.n) ∧ W.cell? ⟨q, 1, none⟩ = some (.int .i64 h.l) ∧ W.cell? ⟨q, 2, none⟩ = some (.int .i64 h.r) ∧ W.cell? ⟨q, 3, none⟩ = some (.int .i64 h.a) ∧ W.cell? ⟨q, 4, none⟩ = some (.int .i64 h.b) :=
  ⟨c.hub.at_ 0 _ rfl, c.hub.at_ 1 _ rfl, c.hub.at_ 2 _ rfl, c.hub.at_ 3 _ rfl, c.hub.at_ 4 _ rfl⟩
end
/-- A list of strings in a block of its own. -/
theorem rd_strs {w : World} {g0 : Nat} {zs : List ByteArray} {t : TypeId} {cs : Array Value} (hg : w.heap.size = g0) (hc : cs = (bas zs).toArray) : Rd (w.alloc (.cells cs t)) g0 (g0 + 1) (some ⟨g0, 0, none⟩) zs.length (bas zs) := by
  subst hg
  subst hc
  refine ⟨bas_len zs, fun _ => ⟨w.heap.size, 0, rfl, Nat.le_refl _, Nat.lt_succ_self _, fun j u hu => ?_⟩⟩
  have hh := heap_alloc_new w (.cells (bas zs).toArray t)
  simp only [World.cell?, hh, Option.isSome_none, Bool.false_eq_true, if_false, Nat.zero_add]
  simpa using hu
def strOf (l : List UInt8) : ByteArray := ⟨l.toArray⟩
theorem strOf_list (l : List UInt8) : (strOf l).data.toList = l := by simp [strOf]
theorem strOf_size (l : List UInt8) : (strOf l).size = l.length := by show l.toArray.size = _; simp
def hubZs (h : Hb) : List ByteArray := (hubPs h).map strOf
theorem hubZs_texts (h : Hb) : texts (hubZs h) = hubPs h := by simp [hubZs, hubPs, texts, strOf_list]
set_option maxRecDepth 100000 in
set_option maxHeartbeats 2000000 in
theorem specHubT (h : Hb) (w : World) (hb : hubB h = true) : Calls Tryd.prog 23 #[hubV h] w (NewStr w (hubT h)) := by
  obtain ⟨hn, ⟨l0, l1⟩, ⟨r0, r1⟩, ⟨a0, a1⟩, b0, b1⟩ := hubB_of hb
  obtain ⟨n0, n1, -⟩ := holes_bd hn
  have d0 := dec_len h.n.toNat (by omega)
  have d1 := measL_len h.l (by omega) (by omega)
  have d2 := measL_len h.r (by omega) (by omega)
  have d3 := measL_len h.a (by omega) (by omega)
  have d4 := measL_len h.b (by omega) (by omega)
  have hz : ∀ z ∈ hubZs h, z.size ≤ 50 := by
    intro z hz
    simp only [hubZs, hubPs, List.map_cons, List.map_nil, List.mem_cons, List.not_mem_nil, or_false] at hz
    rcases hz with rfl | rfl | rfl | rfl | rfl <;> rw [strOf_size] <;> omega
  have HD := Go.Lib.hid (fun w0 => dec h.n w0 (by omega) (by omega))
  have l1 : h.l ≤ 1200 := l1
  have a1 : h.a ≤ 1200 := by omega
  have b1 : h.b ≤ 1200 := by omega
  have l0 : 0 ≤ h.l := by omega
  have r0 : 0 ≤ h.r := by omega
  have HM := Go.Lib.hid (fun z w0 (h0 : 0 ≤ z) (h1 : z ≤ 1200) => specMeasure z w0 (by omega) (by omega))
  have HJ := Go.Lib.hid (fun q c w0 lo hi (hr : Rd w0 lo hi (some ⟨q, 0, none⟩) 5 (bas (hubZs h))) => specWordsSep (some ⟨q, 0, none⟩) 5 c (hubZs h) 47 lo hi w0 hr (by omega) hz)
  have HV : Hid (Go.Lib.join (texts (hubZs h)) [47] = hubT h) := by rw [hubZs_texts]; rfl
  clear hz
  go_enter Tryd.func23, Tryd.ntmps23
  go_upto_region 1 with fail
  refine wp_gen (R := TC w w.heap.size h) ⟨Box.new rfl rfl, by go_grown⟩ ?_
  rintro W0 c0
  obtain ⟨q, hq⟩ : ∃ q, q = w.heap.size := ⟨_, rfl⟩
  rw [← hq] at c0 ⊢
  clear hq
  have C := Go.Lib.hid c0
  clear c0 d0 d1 d2 d3 d4 hn n0 n1
  go_region_held3 (fun w' => w'.cell? ⟨q, 0, none⟩ = some (.int .i64 h.n) ∧ w'.cell? ⟨q, 1, none⟩ = some (.int .i64 h.l) ∧ w'.cell? ⟨q, 2, none⟩ = some (.int .i64 h.r) ∧ w'.cell? ⟨q, 3, none⟩ = some (.int .i64 h.a) ∧ w'.cell? ⟨q, 4, none⟩ = some (.int .i64 h.b))
    (first | with_reducible exact C.out.cells | with_reducible exact C.out.drew.cells | with_reducible exact (C.out.alloc _).cells | with_reducible exact (C.out.alloc _).drew.cells | with_reducible exact (C.out.drew.alloc _).cells)
    (first
      | (go_at_call 44; refine (HD.out _).mono ?_; rintro _ V1 ⟨rfl, b1⟩; (first | have C := Go.Lib.hid (C.out.next b1) | have C := Go.Lib.hid (C.out.drew.next b1)))
      | (go_at_call 45; refine (HM.out _ _ (by assumption) (by assumption)).mono ?_; rintro _ V2 ⟨rfl, b1⟩; (first | have C := Go.Lib.hid (C.out.next b1) | have C := Go.Lib.hid (C.out.drew.next b1)))
      | (go_at_call 43; refine (HJ.out _ _ _ _ _ (by first | exact rd_strs rfl rfl | exact (rd_strs rfl rfl).drewN 1)).mono ?_; rintro _ _ ⟨rfl, rfl⟩))
  go_wp2_with fail
  go_ret
  exact ⟨by rw [HV.out]; rfl, (C.out.alloc _).below⟩
/-- What HubText hands back in both programs. -/
def HubTEnd (w : World) (h : Hb) (e : Ending) (w' : World) : Prop :=
  Below w.heap.size w w' ∧ e = .returned (.tuple (if hubB h then #[.string ⟨(hubT h).toArray⟩, .int .i64 0] else #[.string ⟨#[]⟩, .int .i64 1]))
theorem specHubText (h : Hb) (w : World) : Calls Tryd.prog 9 #[hubV h] w (HubTEnd w h) := by
  have HH := Go.Lib.hid (fun w0 => specIsHub h w0)
  have hv : ∀ e w', HubTEnd w h e w' ↔ Below w.heap.size w w' ∧ e = .returned (.tuple (if hubB h then #[.string ⟨(hubT h).toArray⟩, .int .i64 0] else #[.string ⟨#[]⟩, .int .i64 1])) := fun _ _ => Iff.rfl
  cases hb : hubB h
  · rw [hb] at HH
    have HV : Hid (∀ w', Below w.heap.size w w' → HubTEnd w h (.returned (.tuple #[.string ⟨#[]⟩, .int .i64 1])) w') := fun w' hw => (hv _ _).2 ⟨hw, by rw [hb]; rfl⟩
    clear hv hb
    go_enter Tryd.func9, Tryd.ntmps9
    go_wp2_with fail
    refine (HH.out _).mono ?_
    rintro _ w1 ⟨rfl, b1⟩
    have B1 := upB (a := w) (by go_grown) b1
    go_wp2_with fail
    go_ret2
    exact HV.out _ B1
  · have HT := Go.Lib.hid (fun w0 => specHubT h w0 hb)
    rw [hb] at HH
    have HV : Hid (∀ w', Below w.heap.size w w' → HubTEnd w h (.returned (.tuple #[.string ⟨(hubT h).toArray⟩, .int .i64 0])) w') := fun w' hw => (hv _ _).2 ⟨hw, by rw [hb]; rfl⟩
    clear hv hb
    generalize hubT h = t at HT HV
    go_enter Tryd.func9, Tryd.ntmps9
    go_wp2_with fail
    refine (HH.out _).mono ?_
    rintro _ w1 ⟨rfl, b1⟩
    obtain ⟨hc1, hf1⟩ := cells2 b1
    have B1 := upB (a := w) (by go_grown) b1
    have z1 := b1.size
    simp only [World.size_alloc] at z1
    have s10 : w.heap.size < w1.heap.size := by omega
    go_wp2_with fail
    refine (HT.out _).mono ?_
    rintro _ w2 ⟨rfl, b2⟩
    have B2 := upB B1 b2
    go_wp2_with fail
    go_ret2
    exact HV.out _ B2
end Go.Proofs.YtcphhcnomaociabDoor
