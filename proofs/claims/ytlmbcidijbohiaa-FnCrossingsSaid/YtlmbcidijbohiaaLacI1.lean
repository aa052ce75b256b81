/- The program's IsLacing. -/
import Derived.Test.YtlmbcidijbohiaaPlaces
import Derived.Deep.MidRow
import Derived.Shelf.Abstract
namespace Go.Proofs.Ytlmbcidijbohiaa
open Go.RowKit
attribute [local go_sem] Oper.semAt_some

theorem Rd.here {w : World} {lo hi n : Nat} {A : Option Addr} {xs : List Value} (h : Rd w lo hi A n xs) : Rd w 0 w.heap.size A n xs := by
  refine ⟨h.1, fun hn => ?_⟩
  obtain ⟨b, off, e, -, -, hc⟩ := h.2 hn
  obtain ⟨u, hu⟩ : ∃ u, xs[0]? = some u := ⟨xs[0]'(by rw [h.1]; exact hn), List.getElem?_eq_getElem _⟩
  exact ⟨b, off, e, Nat.zero_le _, World.block_lt_of_cell? w _ (hc 0 u hu), hc⟩
theorem leave0 {F : Fence} {n : Nat} {P : Program} {fn : Func} {R : Ending → World → Prop} {tmps : Array Value} {w : World} {v : Value}
    (h : (results fn tmps).run P w = .ok v w) (hR : R (.returned v) w) : bodyPostM F n P fn R .ret { tmps := tmps, defers := [] } w := ⟨v, h, hR⟩
theorem leave1 {F : Fence} {n D : Nat} {P : Program} {fn : Func} {R : Ending → World → Prop} {tmps : Array Value} {w : World} {v : Value} (hk : w.heap[D]? = some (.deferred (some [])))
    (h : (results fn tmps).run P (w.putObj D (.deferred none)) = .ok v (w.putObj D (.deferred none))) (hR : R (.returned v) (w.putObj D (.deferred none))) :
    bodyPostM F n P fn R .ret { tmps := tmps, defers := [{ target := .collected D, args := #[] }] } w := ⟨by simp, .inl ⟨_, _, rfl, run_takeDeferred hk, v, h, hR⟩⟩
theorem results_cellB {fn : Func} {t : Tmp} (h : fn.results = #[.cell t 4]) (tmps : Array Value) (p : Addr) (w : World) (b : Bool) (ht : tmps[t]?.getD undef = .pointer (some p)) (hc : w.cell? p = some (.bool b)) :
    (results fn tmps).run Try.prog w = .ok (.bool b) w := by
  simp [results, h, go_sem, ht, hc]
theorem results_cellI2 {fn : Func} {t u : Tmp} (h : fn.results = #[.cell t 2, .cell u 2]) (tmps : Array Value) (p q : Addr) (w : World) (a b : Int) (ht : tmps[t]?.getD undef = .pointer (some p)) (hu : tmps[u]?.getD undef = .pointer (some q))
    (hc : w.cell? p = some (.int .i64 a)) (hd : w.cell? q = some (.int .i64 b)) : (results fn tmps).run Try.prog w = .ok (.tuple #[.int .i64 a, .int .i64 b]) w := by
  simp [results, h, go_sem, ht, hc, hu, hd]
theorem setCells_keep (b : Nat) : ∀ (vs : List Value) (o : Nat) (w : World), (∀ a, (w.setCells b o vs).frozen? a = w.frozen? a) ∧ (w.setCells b o vs).heap.size = w.heap.size ∧ ∀ B, B ≤ b → Below B w (w.setCells b o vs)
  | [], _, w => ⟨fun _ => rfl, rfl, fun B _ => Below.refl _ _⟩
  | v :: r, o, w => by
    obtain ⟨h1, h2, h3⟩ := setCells_keep b r (o + 1) (w.setCell ⟨b, o, none⟩ v)
    exact ⟨fun a => (h1 a).trans (World.frozen?_setCell _ _ _ _), h2.trans (by simp [World.setCell]), fun B hB => ((Below.refl B w).setCell (p := ⟨b, o, none⟩) hB v).trans (h3 B hB)⟩
theorem Box.there {w : World} {q : Nat} {cs : List Value} (h : Box w q cs) {n : Nat} (hn : n = cs.length) : w.there q 0 n := fun j hj => by
  have := h.at_ j (cs[j]'(by omega)) (List.getElem?_eq_getElem _)
  exact ⟨by rw [Nat.zero_add, this]; rfl, h.fr _⟩
theorem Box.sets {w : World} {q : Nat} {cs vs : List Value} (h : Box w q cs) (hl : vs.length = cs.length) : Box (w.setCells q 0 vs) q vs := by
  obtain ⟨h1, h2, -⟩ := setCells_keep q vs 0 w
  refine ⟨fun k v hv => ?_, fun j => (h1 _).trans (h.fr j), by rw [h2]; exact h.lt⟩
  have := World.rangeAt_setCells_same w q 0 vs (h.there hl) k v hv
  rwa [Nat.zero_add] at this
theorem Box.setsOther {w : World} {q b : Nat} {cs : List Value} (h : Box w q cs) (hb : q < b) (vs : List Value) : Box (w.setCells b 0 vs) q cs := by
  obtain ⟨h1, h2, h3⟩ := setCells_keep b vs 0 w
  exact ⟨fun k v hv => ((h3 b (Nat.le_refl _)).cell (p := ⟨q, k, none⟩) hb).trans (h.at_ k v hv), fun j => (h1 _).trans (h.fr j), by rw [h2]; exact h.lt⟩
theorem Rnd.set {B n₀ q k : Nat} {w W : World} {J J' : World → Prop} (h : Rnd B n₀ w J W) (hq : n₀ ≤ q) (v : Value) (hj : J' (W.setCell ⟨q, k, none⟩ v)) : Rnd B n₀ w J' (W.setCell ⟨q, k, none⟩ v) :=
  ⟨h.b.setCell (p := ⟨q, k, none⟩) hq v, by simpa [World.setCell] using h.s, hj⟩
theorem Rnd.with {B n₀ : Nat} {w W : World} {J J' : World → Prop} (h : Rnd B n₀ w J W) (hj : J' W) : Rnd B n₀ w J' W := ⟨h.b, h.s, hj⟩

set_option maxRecDepth 100000 in
set_option maxHeartbeats 4000000 in
theorem implIsLacing (n : Int) (A : Option Addr) (c : Nat) (zs : List Int) (w : World) (lo hi : Nat) (h0 : Rd w lo hi A zs.length (ints zs)) :
    Calls Try.prog 25 #[.int .i64 n, .slice A zs.length c] w fun e w' => e = .returned (.bool (decide (Lac n zs))) ∧ Below w.heap.size w w' := by
  have h := Go.Lib.hid h0.here
  clear h0
  have HF := Go.Lib.hid (fun w0 => implFlange n w0)
  obtain ⟨s, hs0⟩ : ∃ s, w.heap.size = s := ⟨_, rfl⟩
  have HS := Go.Lib.hid hs0
  refine (callsIn_wide (n := 5)).1 ?_
  refine callsIn_of_wp_marks Try.func25 rfl trivial ?_ rfl
  simp only [Try.ntmps25, List.size_toArray, List.length_cons, List.length_nil, Nat.reduceAdd, Nat.reduceSub, Array.replicate_succ, Array.replicate_zero, List.push_toArray, List.append_toArray, List.nil_append, List.cons_append]
  refine (wpIn_wide (n := 5)).2 ?_
  by_cases hfl : holes6 n = true
  case neg =>
    have hfl' : holes6 n = false := by simpa using hfl
    rw [hfl'] at HF
    have HR := Go.Lib.hid (show decide (Lac n zs) = false from decide_eq_false fun L => hfl L.ok)
    clear hfl hfl' hs0
    go_wp2_with fail
    refine (HF.out _).mono ?_
    rintro _ _ ⟨rfl, rfl⟩
    go_wp2_with fail
    refine leave0 (results_cellB rfl _ ⟨w.heap.size + 1 + 1, 0, none⟩ _ false rfl ?_) ⟨by rw [HR.out], ?_⟩
    · exact (Box.new (w := (w.alloc (.cells #[.int .i64 n] 2)).alloc (.cells #[.slice A zs.length c] 24)) (q := w.heap.size + 1 + 1) (cs := #[.bool false]) (by simp) rfl).at_ 0 _ rfl
    · exact ((((Below.refl _ w).alloc (Nat.le_refl _) _).alloc (by simp) _).alloc (by simp; omega) _)
  case pos =>
    obtain ⟨hn6, hn24, -⟩ := holes6_bd hfl
    rw [hfl] at HF
    by_cases hl : (zs.length : Int) = n
    case neg =>
      have HR := Go.Lib.hid (show decide (Lac n zs) = false from decide_eq_false fun L => hl L.len)
      have hlb : ((zs.length : Int) != n) = true := by simpa using hl
      clear hfl hs0 hl
      go_wp2_with fail
      refine (HF.out _).mono ?_
      rintro _ _ ⟨rfl, rfl⟩
      go_wp2_with fail
      refine leave0 (results_cellB rfl _ ⟨w.heap.size + 1 + 1, 0, none⟩ _ false rfl ?_) ⟨by rw [HR.out], ?_⟩
      · exact (Box.new (w := (w.alloc (.cells #[.int .i64 n] 2)).alloc (.cells #[.slice A zs.length c] 24)) (q := w.heap.size + 1 + 1) (cs := #[.bool false]) (by simp) rfl).at_ 0 _ rfl
      · exact ((((Below.refl _ w).alloc (Nat.le_refl _) _).alloc (by simp) _).alloc (by simp; omega) _)
    case pos =>
      have HL := Go.Lib.hid (fun (hf : Fit n zs) => (⟨hfl, hl, hf.rng, hf.nd⟩ : Lac n zs))
      have hlb : ((zs.length : Int) != n) = false := by simpa using hl
      have HPL := Go.Lib.hid (fun y w0 => implPlace n y w0 (by omega) (by omega))
      have HN := Go.Lib.hid hl
      clear hfl hs0
      have hi65 : (Try.prog.info? 65).map (·.size) = some 24 := by kernel_rfl
      go_upto_region 1 with fail
      refine wp_gen (R := fun W => W.heap.size = s + 1 + 1 + 1 ∧ Below s w W ∧ Box W s [.int .i64 n] ∧ Box W (s + 1) [.slice A zs.length c] ∧ Box W (s + 1 + 1) [.bool false]) ?_ ?_
      · have e := HS.out
        subst e
        refine ⟨by simp, ((((Below.refl _ w).alloc (Nat.le_refl _) _).alloc (by simp) _).alloc (by simp; omega) _), ?_, ?_, ?_⟩
        · exact ((Box.new rfl rfl).alloc _).alloc _
        · exact (Box.new (by simp) rfl).alloc _
        · exact Box.new (by simp) rfl
      rw [HS.out]
      rintro wa ⟨za, ba, a0, a1, a2⟩
      have c0 := a0.at_ 0 _ rfl
      have c1 := a1.at_ 0 _ rfl
      go_wp2_with fail
      refine (HF.out _).mono ?_
      rintro _ _ ⟨rfl, rfl⟩
      have HT := Go.Lib.hid (fun (w1 : World) (cs : Array Value) (t : TypeId) (hw : w1.heap.size = s + 1 + 1 + 1) (hc : cs.size = 24) => (Box.new (w := w1) (cs := cs) (t := t) hw.symm rfl).there (n := 24) (by simp [hc]))
      go_upto_region 4 with (refine wpList_store_mid rfl 65 (.tmp 5) (.tmp 17) rfl (s + 1 + 1 + 1) 0 _ (by simp [Act.eval, za]) rfl (HT.out _ _ _ za rfl) hi65 (by simp [Value.oneCell']) ?_)
      refine wp_gen (R := fun W => W.heap.size = s + 1 + 1 + 1 + 1 ∧ Below s w W ∧ Box W s [.int .i64 n] ∧ Box W (s + 1) [.slice A zs.length c] ∧ Box W (s + 1 + 1) [.bool false] ∧ Box W (s + 1 + 1 + 1) (takenL [])) ?_ ?_
      · obtain ⟨-, k2, k3⟩ := setCells_keep (s + 1 + 1 + 1) (takenL []) 0 (wa.alloc (.cells (takenL []).toArray 65))
        refine ⟨k2.trans (by simp [za]), (ba.alloc (by omega) _).trans (k3 s (by omega)), (a0.alloc _).setsOther (by omega) _, (a1.alloc _).setsOther (by omega) _, (a2.alloc _).setsOther (by omega) _, (Box.new za.symm rfl).sets rfl⟩
      clear a0 a1 a2 c0 c1 za ba HT hi65
      rintro wa ⟨za, ba, a0, a1, a2, a3⟩
      have c0 := a0.at_ 0 _ rfl
      go_wp2_with fail
      refine (implPlaces _ _).mono ?_
      rintro _ _ ⟨rfl, rfl⟩
      go_wp2_with fail
      refine wp_gen (R := fun W => W.heap.size = s + 1 + 1 + 1 + 1 + 1 ∧ Below s w W ∧ Box W s [.int .i64 n] ∧ Box W (s + 1) [.slice A zs.length c] ∧ Box W (s + 1 + 1) [.bool false] ∧ Box W (s + 1 + 1 + 1) (takenL []) ∧ Box W (s + 1 + 1 + 1 + 1) [.int .i64 zs.length]) ?_ ?_
      · refine ⟨by simp [za], ba.alloc (by omega) _, a0.alloc _, a1.alloc _, a2.alloc _, a3.alloc _, Box.new za.symm (by rw [hl])⟩
      clear a0 a1 a2 a3 c0 za ba
      rintro wb ⟨zb, bb, b0, b1, b2, b3, b4⟩
      refine (wpIn_wide (n := 4)).1 ?_
      refine wpIn_rangeFunc_ownG rfl (by omega) (gf := 66) (lb := #[.pointer (some ⟨s + 1 + 1 + 1 + 1, 0, none⟩)]) rfl trivial (enters_of Try.func66 (by kernel_rfl) rfl)
        (places_stops 3 (by omega) (s + 1 + 1 + 1 + 1) zs.length (by omega) wb (by omega) (b4.at_ 0 _ rfl)) (fun _ _ => trivial) (fun _ _ _ _ _ _ _ _ => trivial) (Below.refl _ _) (fun _ => rfl)
        (fun pre W => Rnd wb.heap.size s w (fun W => (Box W s [.int .i64 n] ∧ Box W (s + 1) [.slice A zs.length c] ∧ Box W (s + 1 + 1) [.bool false] ∧ Box W (s + 1 + 1 + 1) (takenL (holesAt zs (pre.map Fin.val)))) ∧ Fit n (holesAt zs (pre.map Fin.val))) W)
        (fun co pre W => Rnd wb.heap.size s w (fun W => Box W (s + 1 + 1) [.bool false] ∧ (co = .ret ∧ ¬ Fit n (holesAt zs (pre.map Fin.val)))) W)
        (Rnd.own (by omega) fun pre => ((Lo.box (by omega) (by simp)).and ((Lo.box (by omega) (by simp)).and ((Lo.box (by omega) (by simp)).and (Lo.box (by omega) (by rw [takenL_len]; omega))))).and Lo.pure)
        (fun co => Rnd.own (by omega) fun pre => (Lo.box (by omega) (by simp)).and Lo.pure)
        ⟨bb, Nat.le_refl _, ⟨b0, b1, b2, b3⟩, Fit.nil n⟩ ?a1 ?assign ?body ?done ?stop
      case assign =>
        intro l x W K hK
        gi_wp2
        exact hK
      case body =>
        rintro l pre x W ⟨hb, hs, ⟨e0, e1, e2, e3⟩, hfit⟩ hlt
        have d0 := e0.at_ 0 _ rfl
        have d1 := e1.at_ 0 _ rfl
        have d2 := e2.at_ 0 _ rfl
        have f2 := e2.fr 0
        have hx := x.2
        have hrd := h.out.below (w' := W) (by rw [HS.out]; exact hb) (Nat.le_refl _)
        obtain ⟨b, o, rfl, -, -, hc⟩ := hrd.at_ hx
        have hcell := hc x.1 _ (ints_at zs x.1 hx)
        clear hc hrd
        have HX := Go.Lib.hid (show holesAt zs (pre.map Fin.val ++ [x.1]) = holesAt zs (pre.map Fin.val) ++ [zs.getD x.1 0] by simp [holesAt])
        generalize zs.getD x.1 0 = y at hcell HX
        by_cases hy : placeB n y = true
        case neg =>
          have hy' : placeB n y = false := by simpa using hy
          have HP := Go.Lib.hid (HPL.out y W)
          rw [hy'] at HP
          have HNF := Go.Lib.hid (fun hf : Fit n (holesAt zs (pre.map Fin.val ++ [x.1])) => hy (placeB_iff.2 (hf.rng y (by rw [HX.out]; simp))))
          clear hy hy'
          gi_wp2_with fail
          refine ⟨trivial, (Calls.round HP.out).mono ?_⟩
          rintro _ _ ⟨rfl, rfl⟩
          gi_wp2_with fail
          exact ⟨(KeepsOthers.setCell _ _ _).from _, Rnd.set (J := fun _ => True) ⟨hb, hs, trivial⟩ (by omega) _ ⟨e2.set (k := 0) (.bool false) (by simp), rfl, by rw [List.map_append]; exact HNF.out⟩⟩
        case pos =>
          obtain ⟨hy0, hy1⟩ := placeB_iff.1 hy
          have HP := Go.Lib.hid (HPL.out y W)
          rw [hy] at HP
          obtain ⟨k, rfl⟩ := Int.eq_ofNat_of_zero_le hy0
          have hk : k < 24 := by omega
          have hk2 : (k : Int) < 24 := by omega
          have d3 := e3.at_ k _ (takenL_at _ hk)
          have f3 := e3.fr k
          by_cases hin : ((k : Nat) : Int) ∈ holesAt zs (pre.map Fin.val)
          case pos =>
            have HNF := Go.Lib.hid (fun hf : Fit n (holesAt zs (pre.map Fin.val ++ [x.1])) => by
              have h1 := hf.nd
              rw [HX.out, List.nodup_append] at h1
              exact h1.2.2 _ hin _ (by simp) rfl)
            rw [decide_eq_true hin] at d3
            clear hin hy
            gi_wp2_with fail
            refine ⟨trivial, (Calls.round HP.out).mono ?_⟩
            rintro _ _ ⟨rfl, rfl⟩
            gi_wp2_with fail
            exact ⟨(KeepsOthers.setCell _ _ _).from _, Rnd.set (J := fun _ => True) ⟨hb, hs, trivial⟩ (by omega) _ ⟨e2.set (k := 0) (.bool false) (by simp), rfl, by rw [List.map_append]; exact HNF.out⟩⟩
          case neg =>
            have HF2 := Go.Lib.hid (hfit.snoc hy0 hy1 hin)
            rw [decide_eq_false hin] at d3
            clear hin hy
            gi_wp2_with fail
            refine ⟨trivial, (Calls.round HP.out).mono ?_⟩
            rintro _ _ ⟨rfl, rfl⟩
            gi_wp2_with fail
            have e3' := e3.set (k := k) (.bool true) (by rw [takenL_len]; exact hk)
            rw [takenL_snoc] at e3'
            refine ⟨(KeepsOthers.setCell _ _ _).from _, trivial, Rnd.set (J := fun _ => True) ⟨hb, hs, trivial⟩ (by omega) _ ⟨⟨e0.other (by simp; omega) _, e1.other (by simp; omega) _, e2.other (by simp) _, ?_⟩, ?_⟩⟩
            · rw [List.map_append]; show Box _ _ (takenL (holesAt zs (pre.map Fin.val ++ [x.1]))); rw [HX.out]; exact e3'
            · rw [List.map_append]; show Fit n (holesAt zs (pre.map Fin.val ++ [x.1])); rw [HX.out]; exact HF2.out
      case done =>
        rintro D ys W hD hys ⟨hb, hs, ⟨-, -, e2, -⟩, hfit⟩ hK
        have HR : Hid (decide (Lac n zs) = true) := Go.Lib.hid (decide_eq_true (HL.out (by
          have hys' : ys.map Fin.val = List.range zs.length := hys
          rwa [hys', holesAt_range] at hfit)))
        have d2 := e2.at_ 0 _ rfl
        have f2 := e2.fr 0
        clear hys hfit
        go_wp2_with fail
        have hK' := (KeepsOthers.setCell W ⟨s + 1 + 1, 0, none⟩ (.bool true)).same D _ hK rfl
        have r2 : Rnd wb.heap.size s w (fun W => Box W (s + 1 + 1) [.bool true]) (W.setCell ⟨s + 1 + 1, 0, none⟩ (.bool true)) := Rnd.set (J := fun _ => True) ⟨hb, hs, trivial⟩ (by omega) _ (e2.set (k := 0) (.bool true) (by simp))
        have r3 := r2.shut (by omega) (Lo.box (by omega) (by simp)) hD hK'  (o' := .deferred none)
        exact leave1 hK' (results_cellB rfl _ ⟨s + 1 + 1, 0, none⟩ _ true rfl (r3.j.at_ 0 _ rfl)) ⟨by rw [HR.out], by rw [HS.out]; exact r3.b⟩
      case stop =>
        rintro D co pre W hD ⟨k, hk, hpre⟩ hI hK
        obtain ⟨hb, hs, e2, rfl, hnf⟩ := hI
        have HR : Hid (decide (Lac n zs) = false) := Go.Lib.hid (decide_eq_false fun L => hnf (by
          have hys' : pre.map Fin.val = List.range k := hpre
          rw [hys', holesAt_take zs hk]
          exact L.fit))
        clear hnf hpre hk
        refine (wpIn_wide (n := 4)).2 ?_
        go_wp2_with fail
        have r2 : Rnd wb.heap.size s w (fun W => Box W (s + 1 + 1) [.bool false]) W := ⟨hb, hs, e2⟩
        have r3 := r2.shut (by omega) (Lo.box (by omega) (by simp)) hD hK (o' := .deferred none)
        exact leave1 hK (results_cellB rfl _ ⟨s + 1 + 1, 0, none⟩ _ false rfl (r3.j.at_ 0 _ rfl)) ⟨by rw [HR.out], by rw [HS.out]; exact r3.b⟩
end Go.Proofs.Ytlmbcidijbohiaa
