/- The walk of the model's ReadHub. -/
import Derived.Test.YtcphhcnomaociabDoorReadHub
import Derived.Deep.RegionHeld3
import Derived.Deep.DeepCutAuto
namespace Go.Proofs.YtcphhcnomaociabDoor
open Go.RowKit

theorem extract_leH (s : ByteArray) (a b : Nat) : (s.extract a b).size ≤ s.size := by
  have : (s.extract a b).data.toList.length ≤ s.data.toList.length := by
    rw [Slash.extract_list, List.length_take, List.length_drop]; omega
  exact this
theorem splitB_sizesH : ∀ (K : Nat) (s : ByteArray), ∀ x ∈ Go.Lib.splitB ⟨#[47]⟩ 0 K s, x.size ≤ s.size := by
  intro K
  induction K with
  | zero => intro s x hx; simp [Go.Lib.splitB] at hx; subst hx; exact Nat.le_refl _
  | succ K ih =>
    intro s x hx
    unfold Go.Lib.splitB at hx
    split at hx
    · simp at hx; subst hx; exact Nat.le_refl _
    · rcases List.mem_cons.1 hx with h | h
      · subst h; exact extract_leH _ _ _
      · exact Nat.le_trans (ih _ x h) (extract_leH _ _ _)
theorem cut_sizesH (s : ByteArray) : ∀ x ∈ Slash.cut s, x.size ≤ s.size := by
  have h := Slash.splitB_all s s.size (by have := Slash.cut_len s; omega)
  rw [← h]
  exact splitB_sizesH _ _
/-- What ReadHub holds in its loop: the words, the measures so far, the result's block. -/
structure RH (w : World) (q : Nat) (A : Option Addr) (X : List ByteArray) (B : Nat) (j : Nat) (v : Value) (W : World) : Prop where
  res : Box W q [.int .i64 0, .int .i64 0, .int .i64 0, .int .i64 0, .int .i64 0]
  words : Rd W 0 B A 5 (bas X)
  nums : ∃ g c, v = .slice (some ⟨g, 0, none⟩) j c ∧ Ow W B W.heap.size 2 (some ⟨g, 0, none⟩) j c (ints (msTo X j))
  below : Below w.heap.size w W
  qB : q < B
  ge : B ≤ W.heap.size
  wB : w.heap.size ≤ B
theorem RH.call {w W W1 : World} {q : Nat} {A : Option Addr} {X : List ByteArray} {B j : Nat} {v : Value} (h : RH w q A X B j v W) (b : Below W.heap.size W W1) : RH w q A X B j v W1 := by
  obtain ⟨g, c, e, ho⟩ := h.nums
  have ho2 := ho.below b (Nat.le_refl _)
  exact ⟨h.res.below b, h.words.below b h.ge, ⟨g, c, e, ⟨ho2.1, fun k hk => Nat.lt_of_lt_of_le (ho2.2 k hk) b.size⟩⟩, upB h.below b, h.qB, Nat.le_trans h.ge b.size, h.wB⟩
theorem Box.belowB {w w1 : World} {q B : Nat} {cs : List Value} (h : Box w q cs) (hb : Below B w w1) (hq : q < B) : Box w1 q cs := by
  have hk := hb.block q hq
  refine ⟨fun k v hv => (World.cell?_of_block hk).trans (h.at_ k v hv), fun j => ?_, Nat.lt_of_lt_of_le h.lt hb.size⟩
  have := h.fr j
  simp only [World.frozen?] at this ⊢
  rw [hk]
  exact this
theorem RH.push {w W w4 : World} {q : Nat} {A : Option Addr} {X : List ByteArray} {B j g c q4 c4 : Nat} {m : Int} {o : Obj} (h : RH w q A X B j (.slice (some ⟨g, 0, none⟩) j c) W) (ho : Ow W B W.heap.size 2 (some ⟨g, 0, none⟩) j c (ints (msTo X j))) (hm : m = mAt X j)
    (hown : w4.ownsRow B 2 1 (.slice (some ⟨q4, 0, none⟩) (j + 1) c4) (j + 1) (ints (msTo X j) ++ [.int .i64 m])) (hgrow : (W.alloc o).grownBy w4 (some g)) (hlt : q4 < w4.heap.size) :
    RH w q A X B (j + 1) (.slice (some ⟨q4, 0, none⟩) (j + 1) c4) w4 := by
  subst hm
  have hg := (ho.1.lt g rfl).1
  have hb : Below B W w4 := ((Below.refl _ _).alloc h.ge _).grown hgrow (by have := h.ge; simp; omega) (fun k hk => by cases hk; exact hg)
  refine ⟨h.res.belowB hb h.qB, h.words.below hb (Nat.le_refl _), ⟨q4, c4, rfl, ⟨?_, fun k hk => by rw [← show q4 = k by simpa [Value.ownBlock] using hk]; exact hlt⟩⟩, h.below.trans (hb.mono h.wB), h.qB, Nat.le_trans h.ge hb.size, h.wB⟩
  rw [msTo_next]
  simpa [ints] using hown
/-- A pointer to a hub of the call's own, and what else ReadHub holds behind its loop. -/
def HubAt (w : World) (x : Hb) (s : Value) (W : World) : Prop :=
  ∃ q : Nat, s = .pointer (some ⟨q, 0, none⟩) ∧ Box W q [.int .i64 x.n, .int .i64 x.l, .int .i64 x.r, .int .i64 x.a, .int .i64 x.b] ∧ Box W w.heap.size [.int .i64 0, .int .i64 0, .int .i64 0, .int .i64 0, .int .i64 0] ∧ Below w.heap.size w W ∧ w.heap.size < q
theorem cells4 {W : World} {g : Nat} {m0 m1 m2 m3 : Int} (b : Box W g [.int .i64 m0, .int .i64 m1, .int .i64 m2, .int .i64 m3]) : W.cell? ⟨g, 0, none⟩ = some (.int .i64 m0) ∧ W.cell? ⟨g, 1, none⟩ = some (.int .i64 m1) ∧ W.cell? ⟨g, 2, none⟩ = some (.int .i64 m2) ∧ W.cell? ⟨g, 3, none⟩ = some (.int .i64 m3) :=
  ⟨b.at_ 0 _ rfl, b.at_ 1 _ rfl, b.at_ 2 _ rfl, b.at_ 3 _ rfl⟩
theorem HubAt.new {w W : World} {x : Hb} {t : TypeId} (K : Box W w.heap.size [.int .i64 0, .int .i64 0, .int .i64 0, .int .i64 0, .int .i64 0]) (B : Below w.heap.size w W) : HubAt w x (.pointer (some ⟨W.heap.size, 0, none⟩)) (W.alloc (.cells #[.int .i64 x.n, .int .i64 x.l, .int .i64 x.r, .int .i64 x.a, .int .i64 x.b] t)) :=
  ⟨_, rfl, Box.new rfl rfl, K.alloc _, B.alloc B.size _, K.lt⟩
theorem HubAt.drew {w W : World} {x : Hb} {s : Value} (h : HubAt w x s W) : HubAt w x s W.drew := by
  obtain ⟨q, e, H, K, B, hq⟩ := h
  exact ⟨q, e, H.drew, K.drew, B.drew, hq⟩
theorem HubAt.set {w W : World} {x : Hb} {q : Nat} {cs : List Value} (hl : cs.length = 5) (H : Box W q cs) (K : Box W w.heap.size [.int .i64 0, .int .i64 0, .int .i64 0, .int .i64 0, .int .i64 0]) (B : Below w.heap.size w W) (hq : w.heap.size < q) :
    HubAt w x (.pointer (some ⟨q, 0, none⟩)) (((((W.setCell ⟨q, 0, none⟩ (.int .i64 x.n)).setCell ⟨q, 1, none⟩ (.int .i64 x.l)).setCell ⟨q, 2, none⟩ (.int .i64 x.r)).setCell ⟨q, 3, none⟩ (.int .i64 x.a)).setCell ⟨q, 4, none⟩ (.int .i64 x.b)) := by
  have e : ((((cs.set 0 (.int .i64 x.n)).set 1 (.int .i64 x.l)).set 2 (.int .i64 x.r)).set 3 (.int .i64 x.a)).set 4 (.int .i64 x.b) = [.int .i64 x.n, .int .i64 x.l, .int .i64 x.r, .int .i64 x.a, .int .i64 x.b] := by
    match cs, hl with
    | [_, _, _, _, _], _ => rfl
  refine ⟨q, rfl, e ▸ (((((H.set _ (by simp [hl])).set _ (by simp [hl])).set _ (by simp [hl])).set _ (by simp [hl])).set _ (by simp [hl])), ((((K.other (by simp; omega) _).other (by simp; omega) _).other (by simp; omega) _).other (by simp; omega) _).other (by simp; omega) _, by go_grown, hq⟩
theorem own_nil (w : World) (t : TypeId) : Ow (w.alloc (.cells #[] t)) w.heap.size (w.alloc (.cells #[] t)).heap.size t (some ⟨w.heap.size, 0, none⟩) 0 0 (ints []) :=
  ⟨⟨rfl, .inr ⟨w.heap.size, 0, #[], rfl, Nat.le_refl _, heap_alloc_new w _, Nat.le_refl _, Nat.zero_le _, rfl, rfl⟩⟩, fun j hj => by rw [← show w.heap.size = j by simpa [Value.ownBlock] using hj]; simp⟩
set_option maxRecDepth 100000 in
set_option maxHeartbeats 4000000 in
theorem specReadHub (s : ByteArray) (w : World) (hs : s.size ≤ 1048576) : Calls Tryd.prog 12 #[.string s] w (IsV w (hubR2 (readA s.data.toList))) := by
  obtain ⟨i0, hi, hz0, hz1, hz2⟩ := info_parts infoI64
  have HS := Go.Lib.hid (fun w0 => Slash.specSplit s w0 (by omega))
  have HSZ := Go.Lib.hid (cut_sizesH s)
  obtain ⟨X, hX⟩ : ∃ X, Slash.cut s = X := ⟨_, rfl⟩
  by_cases h5 : X.length = 5
  · have HF := Go.Lib.hid (readA_five hX h5)
    rw [hX] at HS HSZ
    have H5 := Go.Lib.hid h5
    clear hX
    go_enter Tryd.func12, Tryd.ntmps12
    go_wp2_with fail
    refine calls_gen (R := fun w' => Box w' w.heap.size [.int .i64 0, .int .i64 0, .int .i64 0, .int .i64 0, .int .i64 0] ∧ Below w.heap.size w w') ⟨Box.new rfl rfl, by go_grown⟩ ?_
    rintro W0 ⟨K0, B0⟩
    refine (HS.out W0).mono ?_
    rintro _ W1 ⟨A, cap, he, ho, b1⟩
    rw [h5] at he ho
    subst he
    clear h5
    have K1 := K0.below b1
    have B1 := upB B0 b1
    have hrd := ho.rd
    have hl := K0.lt
    have hz := b1.size
    obtain ⟨b, o, rfl, hlo, hhi, hcs⟩ := hrd.at_ (k := 0) (by omega)
    have hc0 := hcs 0 _ (bas_at X 0 (by rw [H5.out]; omega))
    simp only [Nat.add_zero] at hc0
    have hs0 := HSZ.out (X.getD 0 ByteArray.empty) (by have := H5.out; simp [show 0 < X.length by omega])
    clear hcs
    obtain ⟨x0, hx0⟩ : ∃ x, x = X.getD 0 ByteArray.empty := ⟨_, rfl⟩
    rw [← hx0] at hc0 hs0
    have HX0 := Go.Lib.hid hx0
    clear hx0
    go_wp2_with fail
    refine calls_gen (R := RH w w.heap.size (some ⟨b, o, none⟩) X W1.heap.size 0 (.slice (some ⟨W1.heap.size, 0, none⟩) 0 0)) ⟨K1.alloc _, (hrd.below ((Below.refl _ _).alloc (Nat.le_refl _) _) (Nat.le_refl _)).mono (Nat.zero_le _) (Nat.le_refl _), ⟨_, _, rfl, own_nil _ _⟩, B1.alloc B1.size _, by omega, by simp, B1.size⟩ ?_
    rintro W2 R2
    clear K1 B1 K0 B0 ho b1 hrd hc0 hl hz
    refine (specValue x0 W2 (by unfold maxLen; omega)).mono ?_
    rintro _ W3 ⟨b3, v, rfl, hv, hvn⟩
    have R3 := Go.Lib.hid (R2.call b3)
    have HVN : Hid (valOk (X.getD 0 ByteArray.empty).data.toList = true → v = nv 0 (X.getD 0 ByteArray.empty).data.toList) := by rw [← HX0.out]; exact hvn
    have HVO := Go.Lib.hid (show valOk x0.data.toList = okTo X 0 by rw [HX0.out]; simp [okTo])
    clear R2 b3 hvn
    generalize valOk x0.data.toList = ob at HVO
    go_wp2_with fail
    go_loopw [5, 7, 8] (fun vn vo vi wr => ∃ j : Nat, j ≤ 4 ∧ vi = .int .i64 ((j : Int) + 1) ∧ vo = .bool (okTo X j) ∧ RH w w.heap.size (some ⟨b, o, none⟩) X W1.heap.size j vn wr) (fun _ _ i _ => 6 - (intOf i).toNat)
    case atStart => exact ⟨0, by omega, rfl, by rw [HVO.out], R3.out⟩
    case round =>
      clear R3
      obtain ⟨j, hj, rfl, rfl, hR⟩ := hrel
      by_cases hlt : j < 4
      · have hw := hR.words.at_ (k := j + 1) (by omega)
        obtain ⟨b', o', he, -, hhi2, hcs⟩ := hw
        cases he
        have hc := hcs (j + 1) _ (bas_at X (j + 1) (by rw [H5.out]; omega))
        have hs1 := HSZ.out (X.getD (j + 1) ByteArray.empty) (by have := H5.out; simp [show j + 1 < X.length by omega])
        clear hcs
        obtain ⟨x1, hx1⟩ : ∃ x, x = X.getD (j + 1) ByteArray.empty := ⟨_, rfl⟩
        rw [← hx1] at hc hs1
        have hmv : mAt X j = (readsM x1.data.toList).getD 0 := by rw [hx1]; rfl
        have hmo : mOk X j = (readsM x1.data.toList).isSome := by rw [hx1]; rfl
        have HM := Go.Lib.hid (fun w0 => specReadMeasure x1 w0 (by omega))
        have HO := Go.Lib.hid (okTo_next X j)
        clear hx1
        have i1 : (j : Int) + 1 < 5 := by omega
        have t1 : ((j : Int) + 1).toNat = j + 1 := by omega
        obtain ⟨g, c, rfl, -⟩ := hR.nums
        generalize readsM x1.data.toList = r at HM hmv hmo
        cases r with
        | none =>
          have HMV := Go.Lib.hid hmv.symm
          have HMO := Go.Lib.hid hmo
          clear hmv hmo
          cases hob : okTo X j
          · rw [hob] at HO
            have HO2 : Hid (okTo X (j + 1) = false) := by rw [HO.out]; rfl
            clear HO hob
            go_wp2_with fail
            refine (HM.out _).mono ?_
            rintro _ W5 ⟨b5, rfl⟩
            have R5 := hR.call b5
            obtain ⟨g', c', he, ho5⟩ := R5.nums
            cases he
            have hge := R5.ge
            clear hR b5 hc
            go_wp2_with (at_builtin; refine wpList_append_lies _ rfl _ _ 56 rfl W1.heap.size 2 i0 (.int .i64 0) 1 8 Tryd.underlying56 hi hz0 hz1 hz2 rfl (by omega) _ j _ rfl (ho5.1.alloc _) ⟨W5.heap.size, 0, none⟩ 1 1 [.int .i64 0] rfl rfl (World.news_of_block (heap_alloc_new W5 _)) (by simp [Value.oneCell']) (by omega) (by unfold maxLen; omega) (by omega) (by simp; omega) _ rfl ?_; intro q4 c4 w4 hown hgrow hat hlt4)
            have HN := Go.Lib.hid (R5.push ho5 (by rw [← HMV.out]; rfl) hown hgrow hlt4)
            clear hown hgrow hat hlt4 ho5 R5 hge
            go_wp2
            go_roundw
            case rel => exact ⟨j + 1, by omega, by go_num, by rw [HO2.out], HN.out⟩
            case measure => simp [intOf]; omega
          · rw [hob] at HO
            have HO2 : Hid (okTo X (j + 1) = false) := by rw [HO.out, HMO.out]; rfl
            clear HO hob
            go_wp2_with fail
            refine (HM.out _).mono ?_
            rintro _ W5 ⟨b5, rfl⟩
            have R5 := hR.call b5
            obtain ⟨g', c', he, ho5⟩ := R5.nums
            cases he
            have hge := R5.ge
            clear hR b5 hc
            go_wp2_with (at_builtin; refine wpList_append_lies _ rfl _ _ 56 rfl W1.heap.size 2 i0 (.int .i64 0) 1 8 Tryd.underlying56 hi hz0 hz1 hz2 rfl (by omega) _ j _ rfl (ho5.1.alloc _) ⟨W5.heap.size, 0, none⟩ 1 1 [.int .i64 0] rfl rfl (World.news_of_block (heap_alloc_new W5 _)) (by simp [Value.oneCell']) (by omega) (by unfold maxLen; omega) (by omega) (by simp; omega) _ rfl ?_; intro q4 c4 w4 hown hgrow hat hlt4)
            have HN := Go.Lib.hid (R5.push ho5 (by rw [← HMV.out]; rfl) hown hgrow hlt4)
            clear hown hgrow hat hlt4 ho5 R5 hge
            go_wp2
            go_roundw
            case rel => exact ⟨j + 1, by omega, by go_num, by rw [HO2.out], HN.out⟩
            case measure => simp [intOf]; omega
        | some m =>
          have HMV := Go.Lib.hid hmv.symm
          have HMO := Go.Lib.hid hmo
          clear hmv hmo
          cases hob : okTo X j
          · rw [hob] at HO
            have HO2 : Hid (okTo X (j + 1) = false) := by rw [HO.out]; rfl
            clear HO hob
            go_wp2_with fail
            refine (HM.out _).mono ?_
            rintro _ W5 ⟨b5, rfl⟩
            have R5 := hR.call b5
            obtain ⟨g', c', he, ho5⟩ := R5.nums
            cases he
            have hge := R5.ge
            clear hR b5 hc
            go_wp2_with (at_builtin; refine wpList_append_lies _ rfl _ _ 56 rfl W1.heap.size 2 i0 (.int .i64 0) 1 8 Tryd.underlying56 hi hz0 hz1 hz2 rfl (by omega) _ j _ rfl (ho5.1.alloc _) ⟨W5.heap.size, 0, none⟩ 1 1 [.int .i64 m] rfl rfl (World.news_of_block (heap_alloc_new W5 _)) (by simp [Value.oneCell']) (by omega) (by unfold maxLen; omega) (by omega) (by simp; omega) _ rfl ?_; intro q4 c4 w4 hown hgrow hat hlt4)
            have HN := Go.Lib.hid (R5.push ho5 (by rw [← HMV.out]; rfl) hown hgrow hlt4)
            clear hown hgrow hat hlt4 ho5 R5 hge
            go_wp2
            go_roundw
            case rel => exact ⟨j + 1, by omega, by go_num, by rw [HO2.out], HN.out⟩
            case measure => simp [intOf]; omega
          · rw [hob] at HO
            have HO2 : Hid (okTo X (j + 1) = true) := by rw [HO.out, HMO.out]; rfl
            clear HO hob
            go_wp2_with fail
            refine (HM.out _).mono ?_
            rintro _ W5 ⟨b5, rfl⟩
            have R5 := hR.call b5
            obtain ⟨g', c', he, ho5⟩ := R5.nums
            cases he
            have hge := R5.ge
            clear hR b5 hc
            go_wp2_with (at_builtin; refine wpList_append_lies _ rfl _ _ 56 rfl W1.heap.size 2 i0 (.int .i64 0) 1 8 Tryd.underlying56 hi hz0 hz1 hz2 rfl (by omega) _ j _ rfl (ho5.1.alloc _) ⟨W5.heap.size, 0, none⟩ 1 1 [.int .i64 m] rfl rfl (World.news_of_block (heap_alloc_new W5 _)) (by simp [Value.oneCell']) (by omega) (by unfold maxLen; omega) (by omega) (by simp; omega) _ rfl ?_; intro q4 c4 w4 hown hgrow hat hlt4)
            have HN := Go.Lib.hid (R5.push ho5 (by rw [← HMV.out]; rfl) hown hgrow hlt4)
            clear hown hgrow hat hlt4 ho5 R5 hge
            go_wp2
            go_roundw
            case rel => exact ⟨j + 1, by omega, by go_num, by rw [HO2.out], HN.out⟩
            case measure => simp [intOf]; omega
      · obtain rfl : j = 4 := by omega
        obtain ⟨g, c, rfl, ho⟩ := hR.nums
        have n0 : wr.cell? ⟨g, 0, none⟩ = some (.int .i64 (mAt X 0)) := (ho.cell (k := 0) (by omega)).trans rfl
        have n1 : wr.cell? ⟨g, 1, none⟩ = some (.int .i64 (mAt X 1)) := (ho.cell (k := 1) (by omega)).trans rfl
        have n2 : wr.cell? ⟨g, 2, none⟩ = some (.int .i64 (mAt X 2)) := (ho.cell (k := 2) (by omega)).trans rfl
        have n3 : wr.cell? ⟨g, 3, none⟩ = some (.int .i64 (mAt X 3)) := (ho.cell (k := 3) (by omega)).trans rfl
        have Kr := hR.res
        have Bw := hR.below
        have NB : Box wr g [.int .i64 (mAt X 0), .int .i64 (mAt X 1), .int .i64 (mAt X 2), .int .i64 (mAt X 3)] :=
          ⟨fun k u hu => (ho.cell (k := k) (by
            rcases Nat.lt_or_ge k 4 with h | h
            · exact h
            · rw [List.getElem?_eq_none (by simpa using h)] at hu; cases hu)).trans hu, fun k => ho.free k, (ho.1.lt g rfl).2⟩
        have HF1 := HF.out
        generalize mAt X 0 = m0 at HF1 NB n0
        generalize mAt X 1 = m1 at HF1 NB n1
        generalize mAt X 2 = m2 at HF1 NB n2
        generalize mAt X 3 = m3 at HF1 NB n3
        have F := Go.Lib.hid HF1
        have NH := Go.Lib.hid NB
        have KH := Go.Lib.hid Kr
        have BH := Go.Lib.hid Bw
        have gl := NB.lt
        clear ho hR HF HF1 NB Kr Bw
        go_upto_region 12 with fail
        go_cut [11] (fun s11 wx => HubAt w ⟨(v : Int), m0, m1, m2, m3⟩ s11 wx)
        case first =>
          go_region_held3 (fun w' => w'.cell? ⟨g, 0, none⟩ = some (.int .i64 m0) ∧ w'.cell? ⟨g, 1, none⟩ = some (.int .i64 m1) ∧ w'.cell? ⟨g, 2, none⟩ = some (.int .i64 m2) ∧ w'.cell? ⟨g, 3, none⟩ = some (.int .i64 m3))
            (first | exact ⟨n0, n1, n2, n3⟩ | with_reducible exact cells4 NH.out.drew | with_reducible exact cells4 (NH.out.alloc _) | with_reducible exact cells4 (NH.out.alloc _).drew | with_reducible exact cells4 (NH.out.drew.alloc _) | go_keep) (first | fail)
          all_goals (go_wp2_with fail; go_meet)
          all_goals first | exact (HubAt.new KH.out BH.out).drew | exact HubAt.new KH.out BH.out
        case rest =>
          obtain ⟨q, rfl, H6, K6, B6, hq⟩ := hcut
          clear n0 n1 n2 n3 NH KH BH gl
          obtain ⟨f1, f2, f3⟩ := F.out
          have c0 := K6.at_ 0 _ rfl
          have c1 := K6.at_ 1 _ rfl
          have c2 := K6.at_ 2 _ rfl
          have c3 := K6.at_ 3 _ rfl
          have c4 := K6.at_ 4 _ rfl
          have cf := K6.fr
          have cl := K6.lt
          cases hob : okTo X 4
          · have HR := Go.Lib.hid (f1 hob)
            clear f1 f2 f3 F hob
            go_wp2_with fail
            refine bodyPost_ret (v := hubR2 (zeroH, 6)) (by simp [results, Tryd.results12, go_sem, zeroH, c0, c1, c2, c3, c4, cf, cl]) rfl ⟨by rw [HR.out], by go_grown⟩
          · have hvv : v = nv 0 (X.getD 0 ByteArray.empty).data.toList := HVN.out (by
              unfold okTo at hob
              rw [Bool.and_eq_true] at hob
              exact hob.1)
            rw [← hvv] at f2 f3
            have HI := Go.Lib.hid (fun w0 => specIsHub ⟨(v : Int), m0, m1, m2, m3⟩ w0)
            have HF2 := Go.Lib.hid (f2 hob)
            have HF3 := Go.Lib.hid (f3 hob)
            have d0 := H6.at_ 0 _ rfl
            have d1 := H6.at_ 1 _ rfl
            have d2 := H6.at_ 2 _ rfl
            have d3 := H6.at_ 3 _ rfl
            have d4 := H6.at_ 4 _ rfl
            clear f1 f2 f3 F hob hvv HVN
            go_wp2_with fail
            refine (HI.out _).mono ?_
            rintro _ W7 ⟨rfl, b7⟩
            have K7 := K6.below b7
            have H7 := H6.below b7
            have B7 := upB B6 b7
            clear K6 H6 B6 b7 c0 c1 c2 c3 c4 cf cl d0 d1 d2 d3 d4
            have c0 := K7.at_ 0 _ rfl
            have c1 := K7.at_ 1 _ rfl
            have c2 := K7.at_ 2 _ rfl
            have c3 := K7.at_ 3 _ rfl
            have c4 := K7.at_ 4 _ rfl
            have cf := K7.fr
            have cl := K7.lt
            have d0 := H7.at_ 0 _ rfl
            have d1 := H7.at_ 1 _ rfl
            have d2 := H7.at_ 2 _ rfl
            have d3 := H7.at_ 3 _ rfl
            have d4 := H7.at_ 4 _ rfl
            cases hb : hubB ⟨(v : Int), m0, m1, m2, m3⟩
            · have HR := Go.Lib.hid (HF2.out hb)
              clear HF2 HF3 hb
              go_wp2_with fail
              refine bodyPost_ret (v := hubR2 (zeroH, 6)) (by simp [results, Tryd.results12, go_sem, zeroH, c0, c1, c2, c3, c4, cf, cl]) rfl ⟨by rw [HR.out], by go_grown⟩
            · have HR := Go.Lib.hid (HF3.out hb)
              clear HF2 HF3 hb
              go_wp2_with fail
              refine bodyPost_ret (v := hubR2 (⟨(v : Int), m0, m1, m2, m3⟩, 0)) (by simp [results, Tryd.results12, go_sem, c0, c1, c2, c3, c4, cf, cl]) rfl ⟨by rw [HR.out], by go_grown⟩
  · have HR := Go.Lib.hid (readA_short (s := s) (by rw [hX]; exact h5))
    rw [hX] at HS
    have hne : ((X.length : Int) != 5) = true := by simp; omega
    clear hX h5
    go_enter Tryd.func12, Tryd.ntmps12
    go_wp2_with fail
    refine calls_gen (R := fun w' => Box w' w.heap.size [.int .i64 0, .int .i64 0, .int .i64 0, .int .i64 0, .int .i64 0] ∧ Below w.heap.size w w') ⟨Box.new rfl rfl, by go_grown⟩ ?_
    rintro W0 ⟨K0, B0⟩
    refine (HS.out W0).mono ?_
    rintro _ W1 ⟨A, cap, rfl, ho, b1⟩
    have K1 := K0.below b1
    have B1 := upB B0 b1
    clear b1 K0 B0 ho
    have c0 := K1.at_ 0 _ rfl
    have c1 := K1.at_ 1 _ rfl
    have c2 := K1.at_ 2 _ rfl
    have c3 := K1.at_ 3 _ rfl
    have c4 := K1.at_ 4 _ rfl
    have cf := K1.fr
    go_wp2_with fail
    refine bodyPost_ret (v := hubR2 (zeroH, 6)) (by simp [results, Tryd.results12, go_sem, zeroH, c0, c1, c2, c3, c4, cf]) rfl ⟨by rw [HR.out], by go_grown⟩
end Go.Proofs.YtcphhcnomaociabDoor
