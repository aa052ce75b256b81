/- The program of chapter 11: the gears that are crossed, or the others. -/
import Derived.Test.YthedanpldebjcaaShP1
import Derived.Test.YthedanpldebjcaaPlainDel
import Derived.Lib.SliceRun
import Derived.Deep.RegionHeld3
import Derived.Deep.RegionHeld
namespace Go.Proofs.Ythedanpldebjcaa
open Go.RowKit
set_option linter.unusedSimpArgs false
set_option linter.unusedVariables false

/-- What the closure has caught: the train with its limit, and what is asked. -/
structure Cap (x : Trn) (A : Option Addr) (c : Nat) (B : Option Addr) (d : Nat) (lm : Int) (b : Bool) (sb ab : Nat) (w : World) : Prop where
  s : Box w sb (shC x A c B d lm)
  a : Box w ab [.bool b]
theorem Cap.below {x : Trn} {A : Option Addr} {c : Nat} {B : Option Addr} {d : Nat} {lm : Int} {b : Bool} {sb ab : Nat} {w w1 : World} (h : Cap x A c B d lm b sb ab w) (k : Below w.heap.size w w1) : Cap x A c B d lm b sb ab w1 := ⟨h.s.below k, h.a.below k⟩
/-- A list of gears at the head of block g. -/
def Gs (x : Trn) (w : World) (g : Nat) (us : List Gr) : Prop := ∃ r, Box w g (cellsG x us ++ r)
theorem Gs.lt {x : Trn} {w : World} {g : Nat} {us : List Gr} (h : Gs x w g us) : g < w.heap.size := by
  obtain ⟨r, h⟩ := h
  exact h.lt
theorem Gs.of {x : Trn} {w : World} {g : Nat} {us : List Gr} (h : Box w g (cellsG x us)) : Gs x w g us := ⟨[], by rw [List.append_nil]; exact h⟩
theorem Gs.below {x : Trn} {w w1 : World} {g : Nat} {us : List Gr} (h : Gs x w g us) (b : Below w.heap.size w w1) : Gs x w1 g us := by
  obtain ⟨r, h⟩ := h
  exact ⟨r, h.below b⟩
theorem Gs.keep {x : Trn} {w w1 : World} {g lo hi : Nat} {us : List Gr} (h : Gs x w g us) (k : Keep lo hi w w1) (ho : g < lo ∨ hi ≤ g) : Gs x w1 g us := by
  obtain ⟨r, h⟩ := h
  exact ⟨r, h.keep k ho⟩
theorem Gs.at_ {x : Trn} {w : World} {g : Nat} {us : List Gr} (h : Gs x w g us) {k : Nat} (hk : k < us.length) :
    w.cell? ⟨g, k * 4, none⟩ = some (.int .i64 ((us.getD k (0, 0)).1 : Nat)) ∧ w.cell? ⟨g, k * 4 + 1, none⟩ = some (.int .i64 ((us.getD k (0, 0)).2 : Nat)) ∧ w.cell? ⟨g, k * 4 + 2, none⟩ = some (.int .i64 (fI x (us.getD k (0, 0)).1)) ∧ w.cell? ⟨g, k * 4 + 3, none⟩ = some (.int .i64 (rI x (us.getD k (0, 0)).2)) := by
  obtain ⟨r, h⟩ := h
  have hl := cellsG_len x us
  have hh : ∀ j v, (cellsG x us)[j]? = some v → (cellsG x us ++ r)[j]? = some v := fun j v e => by
    rw [List.getElem?_append_left (List.getElem?_eq_some_iff.1 e).1]
    exact e
  refine ⟨h.at_ (k * 4) _ (hh _ _ ?_), h.at_ (k * 4 + 1) _ (hh _ _ ?_), h.at_ (k * 4 + 2) _ (hh _ _ ?_), h.at_ (k * 4 + 3) _ (hh _ _ ?_)⟩
  · have := cellsG_at (x := x) hk (show 0 < 4 by decide)
    rwa [Nat.add_zero] at this
  · exact cellsG_at hk (by decide)
  · exact cellsG_at hk (by decide)
  · exact cellsG_at hk (by decide)
theorem cellsG_take (x : Trn) : ∀ (us : List Gr) (k : Nat), (cellsG x us).take (k * 4) = cellsG x (us.take k)
  | [], k => by simp [cellsG]
  | u :: us, 0 => by simp [cellsG]
  | u :: us, k + 1 => by
    have ih := cellsG_take x us k
    simp only [cellsG, List.flatMap_cons, List.take_succ_cons] at ih ⊢
    rw [show (k + 1) * 4 = (gearC x u).length + k * 4 by simp [gearC]; omega, List.take_length_add_append, ih]
theorem box_setCells {q : Nat} : ∀ (vs cs : List Value) (o : Nat) (w : World), Box w q cs → o + vs.length ≤ cs.length → ∀ n, n ≤ o → ∃ r, Box (w.setCells q o vs) q (cs.take n ++ r) ∧ Keep q (q + 1) w (w.setCells q o vs)
  | [], cs, o, w, h, _, n, _ => ⟨cs.drop n, by rw [List.take_append_drop]; exact h, Keep.refl _ _ _⟩
  | v :: vs, cs, o, w, h, hl, n, hn => by
    have hlen : o + 1 + vs.length ≤ cs.length := by simp only [List.length_cons] at hl; omega
    have h1 := h.set (k := o) v (by omega)
    obtain ⟨r, h2, k2⟩ := box_setCells vs (cs.set o v) (o + 1) (w.setCell ⟨q, o, none⟩ v) h1 (by rw [List.length_set]; omega) n (by omega)
    refine ⟨r, ?_, ?_⟩
    · rw [show cs.take n = (cs.set o v).take n from ?_]
      · exact h2
      · apply List.ext_getElem?
        intro j
        by_cases hj : j < n
        · rw [List.getElem?_take_of_lt hj, List.getElem?_take_of_lt hj, List.getElem?_set_ne (by omega)]
        · rw [List.getElem?_eq_none (by rw [List.length_take]; omega), List.getElem?_eq_none (by rw [List.length_take]; omega)]
    · exact ((Keep.refl q (q + 1) w).setCell (p := ⟨q, o, none⟩) (Nat.le_refl _) (Nat.lt_succ_self _) v).trans k2
theorem zeroGear (w : World) : (zeroValue 76).run Try.prog w = .ok (gV 0 0 0 0) w := by kernel_rfl
theorem zeroCells4 (n : Nat) : (Builtin.zeroCells (Value.agg #[.int .i64 0, .int .i64 0, .int .i64 0, .int .i64 0]).cells n).toList = List.replicate (n * 4) (.int .i64 0) := by
  simp only [Value.cells, Builtin.zeroCells]
  apply List.ext_getElem
  · simp
  · intro i h1 h2
    simp
    have : i % 4 = 0 ∨ i % 4 = 1 ∨ i % 4 = 2 ∨ i % 4 = 3 := by omega
    rcases this with h | h | h | h <;> simp [h]
/-- clear on gears: from place k on zero. -/
theorem run_clear_gears {x : Trn} (w : World) (g n k cap : Nat) (us : List Gr) (h : Box w g (cellsG x us)) (hl : us.length = n) (hk : k < n) :
    ∃ w', (∀ ty : TypeId, (Builtin.clear_ #[93] ty #[.slice (some ⟨g, k * 4, none⟩) (n - k) cap]).run Try.prog w = .ok (.tuple #[]) w') ∧ Gs x w' g (us.take k) ∧ Keep g (g + 1) w w' := by
  have hcl := cellsG_len x us
  obtain ⟨r, h1, h2⟩ := box_setCells (List.replicate ((n - k) * 4) (.int .i64 0)) (cellsG x us) (k * 4) w h (by rw [List.length_replicate, hcl, hl]; omega) (k * 4) (Nat.le_refl _)
  rw [cellsG_take] at h1
  refine ⟨_, fun ty => ?_, ⟨r, h1⟩, h2⟩
  have hst := run_storeCells_cells (P := Try.prog) g (k * 4) (List.replicate ((n - k) * 4) (.int .i64 0)) 0 w (fun j hj => by
    rw [List.length_replicate] at hj
    have hlt : k * 4 + 0 + j < (cellsG x us).length := by rw [hcl, hl]; omega
    rw [h.at_ _ _ (List.getElem?_eq_getElem hlt)]
    rfl) (fun j _ => h.fr _) (fun v hv => by rw [List.eq_of_mem_replicate hv]; rfl)
  simp only [Nat.add_zero] at hst
  obtain ⟨m, hm⟩ : ∃ m, n - k = m + 1 := ⟨n - k - 1, by omega⟩
  rw [hm] at hst ⊢
  simp [Builtin.clear_, run_underlying Try.underlying93, zeroGear, zeroCells4, hst]
set_option maxRecDepth 100000 in
set_option maxHeartbeats 4000000 in
theorem implClo (x : Trn) (A : Option Addr) (c : Nat) (B : Option Addr) (d : Nat) (lm : Int) (b : Bool) (sb ab : Nat) (f r p q : Int) (w : World) (T : TrL x A c B d w) (K : Cap x A c B d lm b sb ab w) (hl : 0 ≤ lm ∧ lm ≤ 4) (h1 : 1 ≤ x.f.length) :
    Calls Try.prog 90 #[gV f r p q, .pointer (some ⟨sb, 0, none⟩), .pointer (some ⟨ab, 0, none⟩)] w (IsV w (.bool (crossB x lm (f, r) != b))) := by
  have HT := Go.Lib.hid T
  have HK := Go.Lib.hid K
  have HG := Go.Lib.hid (gbox f r p q w)
  have HGB := Go.Lib.hid (gbelow f r p q w)
  have HC := Go.Lib.hid (fun w0 T0 => implCrossedG x A c B d lm f r p q w0 T0 hl h1)
  clear T K hl h1
  generalize crossB x lm (f, r) = cb at *
  cases cb
  case false =>
    cases b
    case false =>
      unfold shV at HC
      unfold gV at *
      go_enter Try.func90, Try.ntmps90
      go_upto_region 1 with fail
      refine wp_gen (R := fun W => Box W w.heap.size (gC f r p q) ∧ Below w.heap.size w W) ⟨HG.out, HGB.out⟩ ?_
      rintro W ⟨hg, hb⟩
      have HB1 := Go.Lib.hid hb
      have HTD := Go.Lib.hid (HT.out.below (show Below w.heap.size w W.drew from below_drewN hb 1))
      have HK1 := HK.out.below hb
      obtain ⟨g0, g1, g2, g3⟩ := cells4 hg
      have hgl : w.heap.size < W.drew.heap.size := hg.lt
      have hsl : sb < W.drew.heap.size := HK1.s.lt
      have hal : ab < W.drew.heap.size := HK1.a.lt
      have s0 : W.cell? ⟨sb, 0, none⟩ = some (.slice A x.f.length c) := HK1.s.at_ 0 _ rfl
      have s1 : W.cell? ⟨sb, 1, none⟩ = some (.slice B x.r.length d) := HK1.s.at_ 1 _ rfl
      have s2 : W.cell? ⟨sb, 2, none⟩ = some (.int .i64 x.n) := HK1.s.at_ 2 _ rfl
      have s3 : W.cell? ⟨sb, 3, none⟩ = some (.int .i64 lm) := HK1.s.at_ 3 _ rfl
      have a0 : W.cell? ⟨ab, 0, none⟩ = some (.bool false) := HK1.a.at_ 0 _ rfl
      clear hg hb HG HGB HK1
      refine wp_region_held_drew (S := fun w' => w'.cell? ⟨sb, 0, none⟩ = some (.slice A x.f.length c) ∧ w'.cell? ⟨sb, 1, none⟩ = some (.slice B x.r.length d) ∧ w'.cell? ⟨sb, 2, none⟩ = some (.int .i64 x.n) ∧ w'.cell? ⟨sb, 3, none⟩ = some (.int .i64 lm) ∧ w'.cell? ⟨w.heap.size, 0, none⟩ = some (.int .i64 f) ∧ w'.cell? ⟨w.heap.size, 1, none⟩ = some (.int .i64 r) ∧ w'.cell? ⟨w.heap.size, 2, none⟩ = some (.int .i64 p) ∧ w'.cell? ⟨w.heap.size, 3, none⟩ = some (.int .i64 q) ∧ w'.cell? ⟨ab, 0, none⟩ = some (.bool false)) (by kernel_rfl) (by exact ⟨s0, s1, s2, s3, g0, g1, g2, g3, a0⟩) (fun hHeld => ?_)
      refine wpAnyH_take (i := 0) (v := ?vcff1) rfl (by kernel_rfl) (by kernel_rfl) (by kernel_rfl) (fun _ _ _ h => h) (Or.inl ⟨by rfl, ?hycff1⟩) (by assumption) ?restcff1
      case hycff1 => (intro w hSw; (try dsimp only at hSw); go_simp; try with_reducible rfl)
      try simp only [List.getElem_toArray, List.getElem_cons_succ, List.getElem_cons_zero, Act.put, List.setIfInBounds_toArray, List.set_cons_zero, List.set_cons_succ]
      refine wpAnyH_take (i := 1) (v := ?vcff2) rfl (by kernel_rfl) (by kernel_rfl) (by kernel_rfl) (fun _ _ _ h => h) (Or.inl ⟨by rfl, ?hycff2⟩) (by assumption) ?restcff2
      case hycff2 => (intro w hSw; (try dsimp only at hSw); go_simp; try with_reducible rfl)
      try simp only [List.getElem_toArray, List.getElem_cons_succ, List.getElem_cons_zero, Act.put, List.setIfInBounds_toArray, List.set_cons_zero, List.set_cons_succ]
      refine wpAnyH_take (i := 3) (v := ?vcff3) rfl (by kernel_rfl) (by kernel_rfl) (by kernel_rfl) (fun _ _ _ h => h) (Or.inl ⟨by rfl, ?hycff3⟩) (by assumption) ?restcff3
      case hycff3 => (intro w hSw; (try dsimp only at hSw); go_simp; try with_reducible rfl)
      try simp only [List.getElem_toArray, List.getElem_cons_succ, List.getElem_cons_zero, Act.put, List.setIfInBounds_toArray, List.set_cons_zero, List.set_cons_succ]
      refine wpAnyH_ready (rs := [2]) (by kernel_rfl) (by simp) ?_
      refine AllReadyH.cons rfl (fun K hK => ?_) AllReadyH.nil
      go_simp
      (go_at_call 55; refine (HC.out _ HTD.out).mono ?_; rintro _ wc ⟨rfl, bc⟩)
      refine hK.out _ _ ?_ (fun hHeld => ?_)
      · exact ⟨(bc.cell (p := ⟨sb, 0, none⟩) hsl).trans hHeld.1, (bc.cell (p := ⟨sb, 1, none⟩) hsl).trans hHeld.2.1, (bc.cell (p := ⟨sb, 2, none⟩) hsl).trans hHeld.2.2.1, (bc.cell (p := ⟨sb, 3, none⟩) hsl).trans hHeld.2.2.2.1, (bc.cell (p := ⟨w.heap.size, 0, none⟩) hgl).trans hHeld.2.2.2.2.1, (bc.cell (p := ⟨w.heap.size, 1, none⟩) hgl).trans hHeld.2.2.2.2.2.1, (bc.cell (p := ⟨w.heap.size, 2, none⟩) hgl).trans hHeld.2.2.2.2.2.2.1, (bc.cell (p := ⟨w.heap.size, 3, none⟩) hgl).trans hHeld.2.2.2.2.2.2.2.1, (bc.cell (p := ⟨ab, 0, none⟩) hal).trans hHeld.2.2.2.2.2.2.2.2⟩
      clear hK K
      try simp only [List.getElem_toArray, List.getElem_cons_succ, List.getElem_cons_zero, Act.put, List.setIfInBounds_toArray, List.set_cons_zero, List.set_cons_succ]
      refine wpAnyH_take (i := 4) (v := ?vcff4) rfl (by kernel_rfl) (by kernel_rfl) (by kernel_rfl) (fun _ _ _ h => h) (Or.inl ⟨by rfl, ?hycff4⟩) (by assumption) ?restcff4
      case hycff4 => (intro w hSw; (try dsimp only at hSw); go_simp; try with_reducible rfl)
      try simp only [List.getElem_toArray, List.getElem_cons_succ, List.getElem_cons_zero, Act.put, List.setIfInBounds_toArray, List.set_cons_zero, List.set_cons_succ]
      refine wpAnyH_take (i := 5) (v := ?vcff5) rfl (by kernel_rfl) (by kernel_rfl) (by kernel_rfl) (fun _ _ _ h => h) (Or.inl ⟨by rfl, ?hycff5⟩) (by assumption) ?restcff5
      case hycff5 => (intro w hSw; (try dsimp only at hSw); go_simp; try with_reducible rfl)
      try simp only [List.getElem_toArray, List.getElem_cons_succ, List.getElem_cons_zero, Act.put, List.setIfInBounds_toArray, List.set_cons_zero, List.set_cons_succ]
      refine wpAnyH_done (by kernel_rfl) ?_ _
      have HBC := Go.Lib.hid (show Below w.heap.size w wc from HB1.out.trans (((show Below W.heap.size W W.drew from below_drewN (Below.refl _ _) 1).trans bc).mono HB1.out.size))
      clear bc hHeld hsl hgl hal s0 s1 s2 s3 g0 g1 g2 g3 a0
      go_wp2_with fail
      go_ret
      exact ⟨rfl, HBC.out⟩
    case true =>
      unfold shV at HC
      unfold gV at *
      go_enter Try.func90, Try.ntmps90
      go_upto_region 1 with fail
      refine wp_gen (R := fun W => Box W w.heap.size (gC f r p q) ∧ Below w.heap.size w W) ⟨HG.out, HGB.out⟩ ?_
      rintro W ⟨hg, hb⟩
      have HB1 := Go.Lib.hid hb
      have HTD := Go.Lib.hid (HT.out.below (show Below w.heap.size w W.drew from below_drewN hb 1))
      have HK1 := HK.out.below hb
      obtain ⟨g0, g1, g2, g3⟩ := cells4 hg
      have hgl : w.heap.size < W.drew.heap.size := hg.lt
      have hsl : sb < W.drew.heap.size := HK1.s.lt
      have hal : ab < W.drew.heap.size := HK1.a.lt
      have s0 : W.cell? ⟨sb, 0, none⟩ = some (.slice A x.f.length c) := HK1.s.at_ 0 _ rfl
      have s1 : W.cell? ⟨sb, 1, none⟩ = some (.slice B x.r.length d) := HK1.s.at_ 1 _ rfl
      have s2 : W.cell? ⟨sb, 2, none⟩ = some (.int .i64 x.n) := HK1.s.at_ 2 _ rfl
      have s3 : W.cell? ⟨sb, 3, none⟩ = some (.int .i64 lm) := HK1.s.at_ 3 _ rfl
      have a0 : W.cell? ⟨ab, 0, none⟩ = some (.bool true) := HK1.a.at_ 0 _ rfl
      clear hg hb HG HGB HK1
      refine wp_region_held_drew (S := fun w' => w'.cell? ⟨sb, 0, none⟩ = some (.slice A x.f.length c) ∧ w'.cell? ⟨sb, 1, none⟩ = some (.slice B x.r.length d) ∧ w'.cell? ⟨sb, 2, none⟩ = some (.int .i64 x.n) ∧ w'.cell? ⟨sb, 3, none⟩ = some (.int .i64 lm) ∧ w'.cell? ⟨w.heap.size, 0, none⟩ = some (.int .i64 f) ∧ w'.cell? ⟨w.heap.size, 1, none⟩ = some (.int .i64 r) ∧ w'.cell? ⟨w.heap.size, 2, none⟩ = some (.int .i64 p) ∧ w'.cell? ⟨w.heap.size, 3, none⟩ = some (.int .i64 q) ∧ w'.cell? ⟨ab, 0, none⟩ = some (.bool true)) (by kernel_rfl) (by exact ⟨s0, s1, s2, s3, g0, g1, g2, g3, a0⟩) (fun hHeld => ?_)
      refine wpAnyH_take (i := 0) (v := ?vcft1) rfl (by kernel_rfl) (by kernel_rfl) (by kernel_rfl) (fun _ _ _ h => h) (Or.inl ⟨by rfl, ?hycft1⟩) (by assumption) ?restcft1
      case hycft1 => (intro w hSw; (try dsimp only at hSw); go_simp; try with_reducible rfl)
      try simp only [List.getElem_toArray, List.getElem_cons_succ, List.getElem_cons_zero, Act.put, List.setIfInBounds_toArray, List.set_cons_zero, List.set_cons_succ]
      refine wpAnyH_take (i := 1) (v := ?vcft2) rfl (by kernel_rfl) (by kernel_rfl) (by kernel_rfl) (fun _ _ _ h => h) (Or.inl ⟨by rfl, ?hycft2⟩) (by assumption) ?restcft2
      case hycft2 => (intro w hSw; (try dsimp only at hSw); go_simp; try with_reducible rfl)
      try simp only [List.getElem_toArray, List.getElem_cons_succ, List.getElem_cons_zero, Act.put, List.setIfInBounds_toArray, List.set_cons_zero, List.set_cons_succ]
      refine wpAnyH_take (i := 3) (v := ?vcft3) rfl (by kernel_rfl) (by kernel_rfl) (by kernel_rfl) (fun _ _ _ h => h) (Or.inl ⟨by rfl, ?hycft3⟩) (by assumption) ?restcft3
      case hycft3 => (intro w hSw; (try dsimp only at hSw); go_simp; try with_reducible rfl)
      try simp only [List.getElem_toArray, List.getElem_cons_succ, List.getElem_cons_zero, Act.put, List.setIfInBounds_toArray, List.set_cons_zero, List.set_cons_succ]
      refine wpAnyH_ready (rs := [2]) (by kernel_rfl) (by simp) ?_
      refine AllReadyH.cons rfl (fun K hK => ?_) AllReadyH.nil
      go_simp
      (go_at_call 55; refine (HC.out _ HTD.out).mono ?_; rintro _ wc ⟨rfl, bc⟩)
      refine hK.out _ _ ?_ (fun hHeld => ?_)
      · exact ⟨(bc.cell (p := ⟨sb, 0, none⟩) hsl).trans hHeld.1, (bc.cell (p := ⟨sb, 1, none⟩) hsl).trans hHeld.2.1, (bc.cell (p := ⟨sb, 2, none⟩) hsl).trans hHeld.2.2.1, (bc.cell (p := ⟨sb, 3, none⟩) hsl).trans hHeld.2.2.2.1, (bc.cell (p := ⟨w.heap.size, 0, none⟩) hgl).trans hHeld.2.2.2.2.1, (bc.cell (p := ⟨w.heap.size, 1, none⟩) hgl).trans hHeld.2.2.2.2.2.1, (bc.cell (p := ⟨w.heap.size, 2, none⟩) hgl).trans hHeld.2.2.2.2.2.2.1, (bc.cell (p := ⟨w.heap.size, 3, none⟩) hgl).trans hHeld.2.2.2.2.2.2.2.1, (bc.cell (p := ⟨ab, 0, none⟩) hal).trans hHeld.2.2.2.2.2.2.2.2⟩
      clear hK K
      try simp only [List.getElem_toArray, List.getElem_cons_succ, List.getElem_cons_zero, Act.put, List.setIfInBounds_toArray, List.set_cons_zero, List.set_cons_succ]
      refine wpAnyH_take (i := 4) (v := ?vcft4) rfl (by kernel_rfl) (by kernel_rfl) (by kernel_rfl) (fun _ _ _ h => h) (Or.inl ⟨by rfl, ?hycft4⟩) (by assumption) ?restcft4
      case hycft4 => (intro w hSw; (try dsimp only at hSw); go_simp; try with_reducible rfl)
      try simp only [List.getElem_toArray, List.getElem_cons_succ, List.getElem_cons_zero, Act.put, List.setIfInBounds_toArray, List.set_cons_zero, List.set_cons_succ]
      refine wpAnyH_take (i := 5) (v := ?vcft5) rfl (by kernel_rfl) (by kernel_rfl) (by kernel_rfl) (fun _ _ _ h => h) (Or.inl ⟨by rfl, ?hycft5⟩) (by assumption) ?restcft5
      case hycft5 => (intro w hSw; (try dsimp only at hSw); go_simp; try with_reducible rfl)
      try simp only [List.getElem_toArray, List.getElem_cons_succ, List.getElem_cons_zero, Act.put, List.setIfInBounds_toArray, List.set_cons_zero, List.set_cons_succ]
      refine wpAnyH_done (by kernel_rfl) ?_ _
      have HBC := Go.Lib.hid (show Below w.heap.size w wc from HB1.out.trans (((show Below W.heap.size W W.drew from below_drewN (Below.refl _ _) 1).trans bc).mono HB1.out.size))
      clear bc hHeld hsl hgl hal s0 s1 s2 s3 g0 g1 g2 g3 a0
      go_wp2_with fail
      go_ret
      exact ⟨rfl, HBC.out⟩
  case true =>
    cases b
    case false =>
      unfold shV at HC
      unfold gV at *
      go_enter Try.func90, Try.ntmps90
      go_upto_region 1 with fail
      refine wp_gen (R := fun W => Box W w.heap.size (gC f r p q) ∧ Below w.heap.size w W) ⟨HG.out, HGB.out⟩ ?_
      rintro W ⟨hg, hb⟩
      have HB1 := Go.Lib.hid hb
      have HTD := Go.Lib.hid (HT.out.below (show Below w.heap.size w W.drew from below_drewN hb 1))
      have HK1 := HK.out.below hb
      obtain ⟨g0, g1, g2, g3⟩ := cells4 hg
      have hgl : w.heap.size < W.drew.heap.size := hg.lt
      have hsl : sb < W.drew.heap.size := HK1.s.lt
      have hal : ab < W.drew.heap.size := HK1.a.lt
      have s0 : W.cell? ⟨sb, 0, none⟩ = some (.slice A x.f.length c) := HK1.s.at_ 0 _ rfl
      have s1 : W.cell? ⟨sb, 1, none⟩ = some (.slice B x.r.length d) := HK1.s.at_ 1 _ rfl
      have s2 : W.cell? ⟨sb, 2, none⟩ = some (.int .i64 x.n) := HK1.s.at_ 2 _ rfl
      have s3 : W.cell? ⟨sb, 3, none⟩ = some (.int .i64 lm) := HK1.s.at_ 3 _ rfl
      have a0 : W.cell? ⟨ab, 0, none⟩ = some (.bool false) := HK1.a.at_ 0 _ rfl
      clear hg hb HG HGB HK1
      refine wp_region_held_drew (S := fun w' => w'.cell? ⟨sb, 0, none⟩ = some (.slice A x.f.length c) ∧ w'.cell? ⟨sb, 1, none⟩ = some (.slice B x.r.length d) ∧ w'.cell? ⟨sb, 2, none⟩ = some (.int .i64 x.n) ∧ w'.cell? ⟨sb, 3, none⟩ = some (.int .i64 lm) ∧ w'.cell? ⟨w.heap.size, 0, none⟩ = some (.int .i64 f) ∧ w'.cell? ⟨w.heap.size, 1, none⟩ = some (.int .i64 r) ∧ w'.cell? ⟨w.heap.size, 2, none⟩ = some (.int .i64 p) ∧ w'.cell? ⟨w.heap.size, 3, none⟩ = some (.int .i64 q) ∧ w'.cell? ⟨ab, 0, none⟩ = some (.bool false)) (by kernel_rfl) (by exact ⟨s0, s1, s2, s3, g0, g1, g2, g3, a0⟩) (fun hHeld => ?_)
      refine wpAnyH_take (i := 0) (v := ?vctf1) rfl (by kernel_rfl) (by kernel_rfl) (by kernel_rfl) (fun _ _ _ h => h) (Or.inl ⟨by rfl, ?hyctf1⟩) (by assumption) ?restctf1
      case hyctf1 => (intro w hSw; (try dsimp only at hSw); go_simp; try with_reducible rfl)
      try simp only [List.getElem_toArray, List.getElem_cons_succ, List.getElem_cons_zero, Act.put, List.setIfInBounds_toArray, List.set_cons_zero, List.set_cons_succ]
      refine wpAnyH_take (i := 1) (v := ?vctf2) rfl (by kernel_rfl) (by kernel_rfl) (by kernel_rfl) (fun _ _ _ h => h) (Or.inl ⟨by rfl, ?hyctf2⟩) (by assumption) ?restctf2
      case hyctf2 => (intro w hSw; (try dsimp only at hSw); go_simp; try with_reducible rfl)
      try simp only [List.getElem_toArray, List.getElem_cons_succ, List.getElem_cons_zero, Act.put, List.setIfInBounds_toArray, List.set_cons_zero, List.set_cons_succ]
      refine wpAnyH_take (i := 3) (v := ?vctf3) rfl (by kernel_rfl) (by kernel_rfl) (by kernel_rfl) (fun _ _ _ h => h) (Or.inl ⟨by rfl, ?hyctf3⟩) (by assumption) ?restctf3
      case hyctf3 => (intro w hSw; (try dsimp only at hSw); go_simp; try with_reducible rfl)
      try simp only [List.getElem_toArray, List.getElem_cons_succ, List.getElem_cons_zero, Act.put, List.setIfInBounds_toArray, List.set_cons_zero, List.set_cons_succ]
      refine wpAnyH_ready (rs := [2]) (by kernel_rfl) (by simp) ?_
      refine AllReadyH.cons rfl (fun K hK => ?_) AllReadyH.nil
      go_simp
      (go_at_call 55; refine (HC.out _ HTD.out).mono ?_; rintro _ wc ⟨rfl, bc⟩)
      refine hK.out _ _ ?_ (fun hHeld => ?_)
      · exact ⟨(bc.cell (p := ⟨sb, 0, none⟩) hsl).trans hHeld.1, (bc.cell (p := ⟨sb, 1, none⟩) hsl).trans hHeld.2.1, (bc.cell (p := ⟨sb, 2, none⟩) hsl).trans hHeld.2.2.1, (bc.cell (p := ⟨sb, 3, none⟩) hsl).trans hHeld.2.2.2.1, (bc.cell (p := ⟨w.heap.size, 0, none⟩) hgl).trans hHeld.2.2.2.2.1, (bc.cell (p := ⟨w.heap.size, 1, none⟩) hgl).trans hHeld.2.2.2.2.2.1, (bc.cell (p := ⟨w.heap.size, 2, none⟩) hgl).trans hHeld.2.2.2.2.2.2.1, (bc.cell (p := ⟨w.heap.size, 3, none⟩) hgl).trans hHeld.2.2.2.2.2.2.2.1, (bc.cell (p := ⟨ab, 0, none⟩) hal).trans hHeld.2.2.2.2.2.2.2.2⟩
      clear hK K
      try simp only [List.getElem_toArray, List.getElem_cons_succ, List.getElem_cons_zero, Act.put, List.setIfInBounds_toArray, List.set_cons_zero, List.set_cons_succ]
      refine wpAnyH_take (i := 4) (v := ?vctf4) rfl (by kernel_rfl) (by kernel_rfl) (by kernel_rfl) (fun _ _ _ h => h) (Or.inl ⟨by rfl, ?hyctf4⟩) (by assumption) ?restctf4
      case hyctf4 => (intro w hSw; (try dsimp only at hSw); go_simp; try with_reducible rfl)
      try simp only [List.getElem_toArray, List.getElem_cons_succ, List.getElem_cons_zero, Act.put, List.setIfInBounds_toArray, List.set_cons_zero, List.set_cons_succ]
      refine wpAnyH_take (i := 5) (v := ?vctf5) rfl (by kernel_rfl) (by kernel_rfl) (by kernel_rfl) (fun _ _ _ h => h) (Or.inl ⟨by rfl, ?hyctf5⟩) (by assumption) ?restctf5
      case hyctf5 => (intro w hSw; (try dsimp only at hSw); go_simp; try with_reducible rfl)
      try simp only [List.getElem_toArray, List.getElem_cons_succ, List.getElem_cons_zero, Act.put, List.setIfInBounds_toArray, List.set_cons_zero, List.set_cons_succ]
      refine wpAnyH_done (by kernel_rfl) ?_ _
      have HBC := Go.Lib.hid (show Below w.heap.size w wc from HB1.out.trans (((show Below W.heap.size W W.drew from below_drewN (Below.refl _ _) 1).trans bc).mono HB1.out.size))
      clear bc hHeld hsl hgl hal s0 s1 s2 s3 g0 g1 g2 g3 a0
      go_wp2_with fail
      go_ret
      exact ⟨rfl, HBC.out⟩
    case true =>
      unfold shV at HC
      unfold gV at *
      go_enter Try.func90, Try.ntmps90
      go_upto_region 1 with fail
      refine wp_gen (R := fun W => Box W w.heap.size (gC f r p q) ∧ Below w.heap.size w W) ⟨HG.out, HGB.out⟩ ?_
      rintro W ⟨hg, hb⟩
      have HB1 := Go.Lib.hid hb
      have HTD := Go.Lib.hid (HT.out.below (show Below w.heap.size w W.drew from below_drewN hb 1))
      have HK1 := HK.out.below hb
      obtain ⟨g0, g1, g2, g3⟩ := cells4 hg
      have hgl : w.heap.size < W.drew.heap.size := hg.lt
      have hsl : sb < W.drew.heap.size := HK1.s.lt
      have hal : ab < W.drew.heap.size := HK1.a.lt
      have s0 : W.cell? ⟨sb, 0, none⟩ = some (.slice A x.f.length c) := HK1.s.at_ 0 _ rfl
      have s1 : W.cell? ⟨sb, 1, none⟩ = some (.slice B x.r.length d) := HK1.s.at_ 1 _ rfl
      have s2 : W.cell? ⟨sb, 2, none⟩ = some (.int .i64 x.n) := HK1.s.at_ 2 _ rfl
      have s3 : W.cell? ⟨sb, 3, none⟩ = some (.int .i64 lm) := HK1.s.at_ 3 _ rfl
      have a0 : W.cell? ⟨ab, 0, none⟩ = some (.bool true) := HK1.a.at_ 0 _ rfl
      clear hg hb HG HGB HK1
      refine wp_region_held_drew (S := fun w' => w'.cell? ⟨sb, 0, none⟩ = some (.slice A x.f.length c) ∧ w'.cell? ⟨sb, 1, none⟩ = some (.slice B x.r.length d) ∧ w'.cell? ⟨sb, 2, none⟩ = some (.int .i64 x.n) ∧ w'.cell? ⟨sb, 3, none⟩ = some (.int .i64 lm) ∧ w'.cell? ⟨w.heap.size, 0, none⟩ = some (.int .i64 f) ∧ w'.cell? ⟨w.heap.size, 1, none⟩ = some (.int .i64 r) ∧ w'.cell? ⟨w.heap.size, 2, none⟩ = some (.int .i64 p) ∧ w'.cell? ⟨w.heap.size, 3, none⟩ = some (.int .i64 q) ∧ w'.cell? ⟨ab, 0, none⟩ = some (.bool true)) (by kernel_rfl) (by exact ⟨s0, s1, s2, s3, g0, g1, g2, g3, a0⟩) (fun hHeld => ?_)
      refine wpAnyH_take (i := 0) (v := ?vctt1) rfl (by kernel_rfl) (by kernel_rfl) (by kernel_rfl) (fun _ _ _ h => h) (Or.inl ⟨by rfl, ?hyctt1⟩) (by assumption) ?restctt1
      case hyctt1 => (intro w hSw; (try dsimp only at hSw); go_simp; try with_reducible rfl)
      try simp only [List.getElem_toArray, List.getElem_cons_succ, List.getElem_cons_zero, Act.put, List.setIfInBounds_toArray, List.set_cons_zero, List.set_cons_succ]
      refine wpAnyH_take (i := 1) (v := ?vctt2) rfl (by kernel_rfl) (by kernel_rfl) (by kernel_rfl) (fun _ _ _ h => h) (Or.inl ⟨by rfl, ?hyctt2⟩) (by assumption) ?restctt2
      case hyctt2 => (intro w hSw; (try dsimp only at hSw); go_simp; try with_reducible rfl)
      try simp only [List.getElem_toArray, List.getElem_cons_succ, List.getElem_cons_zero, Act.put, List.setIfInBounds_toArray, List.set_cons_zero, List.set_cons_succ]
      refine wpAnyH_take (i := 3) (v := ?vctt3) rfl (by kernel_rfl) (by kernel_rfl) (by kernel_rfl) (fun _ _ _ h => h) (Or.inl ⟨by rfl, ?hyctt3⟩) (by assumption) ?restctt3
      case hyctt3 => (intro w hSw; (try dsimp only at hSw); go_simp; try with_reducible rfl)
      try simp only [List.getElem_toArray, List.getElem_cons_succ, List.getElem_cons_zero, Act.put, List.setIfInBounds_toArray, List.set_cons_zero, List.set_cons_succ]
      refine wpAnyH_ready (rs := [2]) (by kernel_rfl) (by simp) ?_
      refine AllReadyH.cons rfl (fun K hK => ?_) AllReadyH.nil
      go_simp
      (go_at_call 55; refine (HC.out _ HTD.out).mono ?_; rintro _ wc ⟨rfl, bc⟩)
      refine hK.out _ _ ?_ (fun hHeld => ?_)
      · exact ⟨(bc.cell (p := ⟨sb, 0, none⟩) hsl).trans hHeld.1, (bc.cell (p := ⟨sb, 1, none⟩) hsl).trans hHeld.2.1, (bc.cell (p := ⟨sb, 2, none⟩) hsl).trans hHeld.2.2.1, (bc.cell (p := ⟨sb, 3, none⟩) hsl).trans hHeld.2.2.2.1, (bc.cell (p := ⟨w.heap.size, 0, none⟩) hgl).trans hHeld.2.2.2.2.1, (bc.cell (p := ⟨w.heap.size, 1, none⟩) hgl).trans hHeld.2.2.2.2.2.1, (bc.cell (p := ⟨w.heap.size, 2, none⟩) hgl).trans hHeld.2.2.2.2.2.2.1, (bc.cell (p := ⟨w.heap.size, 3, none⟩) hgl).trans hHeld.2.2.2.2.2.2.2.1, (bc.cell (p := ⟨ab, 0, none⟩) hal).trans hHeld.2.2.2.2.2.2.2.2⟩
      clear hK K
      try simp only [List.getElem_toArray, List.getElem_cons_succ, List.getElem_cons_zero, Act.put, List.setIfInBounds_toArray, List.set_cons_zero, List.set_cons_succ]
      refine wpAnyH_take (i := 4) (v := ?vctt4) rfl (by kernel_rfl) (by kernel_rfl) (by kernel_rfl) (fun _ _ _ h => h) (Or.inl ⟨by rfl, ?hyctt4⟩) (by assumption) ?restctt4
      case hyctt4 => (intro w hSw; (try dsimp only at hSw); go_simp; try with_reducible rfl)
      try simp only [List.getElem_toArray, List.getElem_cons_succ, List.getElem_cons_zero, Act.put, List.setIfInBounds_toArray, List.set_cons_zero, List.set_cons_succ]
      refine wpAnyH_take (i := 5) (v := ?vctt5) rfl (by kernel_rfl) (by kernel_rfl) (by kernel_rfl) (fun _ _ _ h => h) (Or.inl ⟨by rfl, ?hyctt5⟩) (by assumption) ?restctt5
      case hyctt5 => (intro w hSw; (try dsimp only at hSw); go_simp; try with_reducible rfl)
      try simp only [List.getElem_toArray, List.getElem_cons_succ, List.getElem_cons_zero, Act.put, List.setIfInBounds_toArray, List.set_cons_zero, List.set_cons_succ]
      refine wpAnyH_done (by kernel_rfl) ?_ _
      have HBC := Go.Lib.hid (show Below w.heap.size w wc from HB1.out.trans (((show Below W.heap.size W W.drew from below_drewN (Below.refl _ _) 1).trans bc).mono HB1.out.size))
      clear bc hHeld hsl hgl hal s0 s1 s2 s3 g0 g1 g2 g3 a0
      go_wp2_with fail
      go_ret
      exact ⟨rfl, HBC.out⟩
set_option maxRecDepth 100000 in
set_option maxHeartbeats 4000000 in
theorem implIndexF (x : Trn) (A : Option Addr) (c : Nat) (B : Option Addr) (d : Nat) (lm : Int) (b : Bool) (sb ab g cap : Nat) (L : List Gr) (w0 w : World) (T : TrL x A c B d w0) (K : Cap x A c B d lm b sb ab w0) (hb : Below w0.heap.size w0 w) (hl : 0 ≤ lm ∧ lm ≤ 4) (h1 : 1 ≤ x.f.length) (hx : Box w g (cellsG x L)) (h36 : L.length ≤ 36) :
    Calls Try.prog 96 #[.slice (some ⟨g, 0, none⟩) L.length cap, .func (.func 90) #[] #[.pointer (some ⟨sb, 0, none⟩), .pointer (some ⟨ab, 0, none⟩)]] w (fun e w' => ((e = .returned (.int .i64 (-1)) ∧ ∀ t, t < L.length → keepG x lm b (L.getD t (0, 0)) = true) ∨ ∃ k, e = .returned (.int .i64 (k : Nat)) ∧ k < L.length ∧ (∀ t, t < k → keepG x lm b (L.getD t (0, 0)) = true) ∧ keepG x lm b (L.getD k (0, 0)) = false) ∧ Below w.heap.size w w') := by
  have HC := Go.Lib.hid (fun (p : Gr) w1 (b1 : Below w0.heap.size w0 w1) => implClo x A c B d lm b sb ab p.1 p.2 (fI x p.1) (rI x p.2) w1 (T.below b1) (K.below b1) hl h1)
  have HB := Go.Lib.hid hb
  have HX := Go.Lib.hid hx
  clear T K hl h1 hb hx
  go_enter Try.func96, Try.ntmps96
  go_wp2_with fail
  go_loopw [8] (fun u wr => ∃ k : Nat, k ≤ L.length ∧ u = .int .i64 k ∧ (∀ t, t < k → keepG x lm b (L.getD t (0, 0)) = true) ∧ Below w.heap.size w wr) (fun u _ => L.length - (intOf u).toNat)
  case atStart => exact ⟨0, Nat.zero_le _, rfl, fun t ht => absurd ht (Nat.not_lt_zero _), Below.refl _ _⟩
  case round =>
    obtain ⟨k, hk, rfl, hall, hbr⟩ := hrel
    have HA := Go.Lib.hid hall
    have HR := Go.Lib.hid hbr
    by_cases hlt : k < L.length
    case neg =>
      obtain rfl : k = L.length := by omega
      clear hall hbr
      go_wp2_with fail
      go_ret
      exact ⟨.inl ⟨rfl, HA.out⟩, HR.out⟩
    case pos =>
      have hkl : (k : Int) < L.length := by omega
      obtain ⟨p0, p1, p2, p3⟩ := gbox_at (HX.out.below hbr) hlt
      have HCP := Go.Lib.hid (HC.out (L.getD k (0, 0)) wr (upB HB.out hbr))
      have HN := Go.Lib.hid (fun (v : Bool) (e : (crossB x lm (plG (L.getD k (0, 0))) != b) = v) => keep_not (x := x) (lm := lm) e)
      clear hall hbr
      generalize hpk : L.getD k (0, 0) = p at *
      have HPK := Go.Lib.hid hpk
      clear hpk
      generalize hv : (crossB x lm (((p.1 : Nat) : Int), ((p.2 : Nat) : Int)) != b) = v at HCP
      have HKP := Go.Lib.hid (HN.out v hv)
      clear hv HN
      generalize fI x p.1 = pf at *
      generalize rI x p.2 = pr at *
      unfold gV at HCP
      cases v
      case false =>
        go_wp2_with fail
        refine (HCP.out).mono ?_
        rintro _ w2 ⟨rfl, b2⟩
        have HB2 := Go.Lib.hid (upB HR.out b2)
        clear b2 p0 p1 p2 p3
        go_wp2_with fail
        go_roundw
        case rel => exact ⟨k + 1, by omega, by go_num, fun t ht => by
          rcases Nat.lt_or_ge t k with h | h
          · exact HA.out t h
          · obtain rfl : t = k := by omega
            rw [HPK.out]
            exact HKP.out, HB2.out⟩
        case measure => simp [intOf]; omega
      case true =>
        go_wp2_with fail
        refine (HCP.out).mono ?_
        rintro _ w2 ⟨rfl, b2⟩
        have HB2 := Go.Lib.hid (upB HR.out b2)
        clear b2 p0 p1 p2 p3
        go_wp2_with fail
        go_ret
        exact ⟨.inr ⟨k, rfl, hlt, HA.out, by rw [HPK.out]; exact HKP.out⟩, HB2.out⟩
set_option maxRecDepth 100000 in
set_option maxHeartbeats 4000000 in
theorem implDelF (x : Trn) (A : Option Addr) (c : Nat) (B : Option Addr) (d : Nat) (lm : Int) (b : Bool) (sb ab g cap : Nat) (L : List Gr) (w0 w : World) (T : TrL x A c B d w0) (K : Cap x A c B d lm b sb ab w0) (hb : Below w0.heap.size w0 w) (hl : 0 ≤ lm ∧ lm ≤ 4) (h1 : 1 ≤ x.f.length) (hx : Box w g (cellsG x L)) (h36 : L.length ≤ 36) (hg : w0.heap.size ≤ g) (hcap : L.length ≤ cap) :
    Calls Try.prog 88 #[.slice (some ⟨g, 0, none⟩) L.length cap, .func (.func 90) #[] #[.pointer (some ⟨sb, 0, none⟩), .pointer (some ⟨ab, 0, none⟩)]] w (fun e w' => e = .returned (.slice (some ⟨g, 0, none⟩) (L.filter (keepG x lm b)).length cap) ∧ Gs x w' g (L.filter (keepG x lm b)) ∧ Below w0.heap.size w0 w') := by
  have HC := Go.Lib.hid (fun (p : Gr) w1 (b1 : Below w0.heap.size w0 w1) => implClo x A c B d lm b sb ab p.1 p.2 (fI x p.1) (rI x p.2) w1 (T.below b1) (K.below b1) hl h1)
  have HI := Go.Lib.hid (implIndexF x A c B d lm b sb ab g cap L w0 w T K hb hl h1 hx h36)
  have HB := Go.Lib.hid hb
  have HX := Go.Lib.hid hx
  have HGE := Go.Lib.hid hg
  have HCA := Go.Lib.hid hcap
  clear T K hl h1 hb hx hg hcap
  go_enter Try.func88, Try.ntmps88
  go_wp2_with fail
  refine (HI.out).mono ?_
  rintro _ w2 ⟨hc, b2⟩
  rcases hc with ⟨rfl, hall⟩ | ⟨k, rfl, hk, hall, hno⟩
  · have HFN := Go.Lib.hid (filter_none hall)
    have HF := Go.Lib.hid (Gs.of (HX.out.below b2))
    have HBW := Go.Lib.hid (upB HB.out b2)
    clear hall b2
    go_wp2_with fail
    go_ret
    exact ⟨by rw [HFN.out]; rfl, by rw [HFN.out]; exact HF.out, HBW.out⟩
  · have HST := Go.Lib.hid (Kept.start hk hall hno)
    have HX2 := Go.Lib.hid (HX.out.below b2)
    have HBW := Go.Lib.hid (upB HB.out b2)
    have hk1 : ¬ (k : Int) = -1 := by omega
    have hkb : ((k : Int) == -1) = false := beq_eq_false_iff_ne.2 hk1
    have hk36 : k ≤ 36 := by omega
    clear hall hno b2 hk1
    go_wp2_with fail
    go_loopw [5, 6] (fun u v wr => ∃ (i j : Nat) (us : List Gr), u = .int .i64 i ∧ v = .int .i64 j ∧ Kept (keepG x lm b) L i j us ∧ Box wr g (cellsG x us) ∧ Below w0.heap.size w0 wr) (fun _ v _ => L.length - (intOf v).toNat)
    case atStart => exact ⟨k, k + 1, L, rfl, by go_num, HST.out, HX2.out, HBW.out⟩
    case round =>
      obtain ⟨i, j, us, rfl, rfl, hkp, hbx, hbr⟩ := hrel
      have HKP := Go.Lib.hid hkp
      have HBX := Go.Lib.hid hbx
      have HBR := Go.Lib.hid hbr
      have hij := hkp.lt
      have hjl := hkp.le
      have hul := hkp.len
      clear HST HX2 HBW HX
      by_cases hlt : j < L.length
      case neg =>
        have hje : j = L.length := by omega
        have hji : ¬ (j : Int) < L.length := by omega
        obtain ⟨e1, e2, hil⟩ := hkp.done hje
        obtain ⟨w3, hrun, hgs, hk3⟩ := run_clear_gears wr g L.length i (cap - i) us hbx hul hil
        rw [e1] at hgs
        have HGS := Go.Lib.hid hgs
        have HB3 := Go.Lib.hid (hbr.trans (hk3.below HGE.out hbr.size))
        have hil2 : (i : Int) ≤ L.length := by omega
        have hic : i ≤ cap := by have := HCA.out; omega
        have hil3 : i ≤ L.length := Nat.le_of_lt hil
        have hne : ¬ cap = i := by have := HCA.out; omega
        have HE2 := Go.Lib.hid e2
        clear hkp hbx hbr hgs hk3 e1 e2 hje hul HKP HBX HBR
        go_wp2_with fail
        go_ret
        exact ⟨by rw [HE2.out]; rfl, HGS.out, HB3.out⟩
      case pos =>
        have hji : (j : Int) < L.length := by omega
        obtain ⟨p0, p1, p2, p3⟩ := gbox_at hbx (show j < us.length by omega)
        rw [hkp.high j (Nat.le_refl _)] at p0 p1 p2 p3
        have HCP := Go.Lib.hid (HC.out (L.getD j (0, 0)) (wr.alloc (.cells #[.int .i64 ((L.getD j (0, 0)).1 : Nat), .int .i64 ((L.getD j (0, 0)).2 : Nat), .int .i64 (fI x (L.getD j (0, 0)).1), .int .i64 (rI x (L.getD j (0, 0)).2)] 76)) (hbr.alloc hbr.size _))
        have HN := Go.Lib.hid (fun (v : Bool) (e : (crossB x lm (plG (L.getD j (0, 0))) != b) = v) => keep_not (x := x) (lm := lm) e)
        have HKK := Go.Lib.hid (fun (e : keepG x lm b (L.getD j (0, 0)) = true) => hkp.keep hlt e)
        have HKS := Go.Lib.hid (fun (e : keepG x lm b (L.getD j (0, 0)) = false) => hkp.skip hlt e)
        have HPUT := Go.Lib.hid (fun (W : World) (hw : Box W g (cellsG x us)) => put4_gears hw (show i < us.length by omega) (L.getD j (0, 0)))
        have hil : (i : Int) < L.length := by omega
        have HUL := Go.Lib.hid hul
        clear hkp hul
        generalize L.getD j (0, 0) = p at *
        generalize hv : (crossB x lm (((p.1 : Nat) : Int), ((p.2 : Nat) : Int)) != b) = v at HCP
        have HKP2 := Go.Lib.hid (HN.out v hv)
        clear hv HN
        generalize fI x p.1 = pf at *
        generalize rI x p.2 = pr at *
        unfold gV at HCP
        have HVB := Go.Lib.hid (gbox p.1 p.2 pf pr wr)
        have HXA := Go.Lib.hid (hbx.alloc (.cells #[.int .i64 (p.1 : Nat), .int .i64 (p.2 : Nat), .int .i64 pf, .int .i64 pr] 76))
        have HBA := Go.Lib.hid (hbr.alloc hbr.size (.cells #[.int .i64 (p.1 : Nat), .int .i64 (p.2 : Nat), .int .i64 pf, .int .i64 pr] 76))
        have hgq : g < wr.heap.size := hbx.lt
        go_upto_region 8 with fail
        refine wp_gen (R := fun V => Box V wr.heap.size (gC p.1 p.2 pf pr) ∧ Box V g (cellsG x us) ∧ Below w0.heap.size w0 V ∧ Calls Try.prog 90 #[.agg #[.int .i64 (p.1 : Nat), .int .i64 (p.2 : Nat), .int .i64 pf, .int .i64 pr], .pointer (some ⟨sb, 0, none⟩), .pointer (some ⟨ab, 0, none⟩)] V (IsV V (.bool v))) ⟨HVB.out, HXA.out, HBA.out, HCP.out⟩ ?_
        rintro V ⟨hq, hx, hb, hcl⟩
        have HQ := Go.Lib.hid hq
        have HX3 := Go.Lib.hid hx
        have HB3 := Go.Lib.hid hb
        have HCL := Go.Lib.hid hcl
        obtain ⟨q0, q1, q2, q3⟩ := cells4 hq
        clear hq hx hb hcl p0 p1 p2 p3 HVB HXA HBA HCP hbx hbr HBX HBR
        generalize wr.heap.size = t at *
        cases v
        case false =>
          have HKN := Go.Lib.hid (HKK.out HKP2.out)
          go_wp2_with fail
          refine (HCL.out).mono ?_
          rintro _ w4 ⟨rfl, b4⟩
          have HQ4 := Go.Lib.hid (HQ.out.below b4)
          have HX4 := Go.Lib.hid (HX3.out.below b4)
          have HB4 := Go.Lib.hid (upB HB3.out b4)
          clear b4 q0 q1 q2 q3
          obtain ⟨q0, q1, q2, q3⟩ := cells4 HQ4.out
          obtain ⟨o0, o1, o2, o3⟩ := gbox_at HX4.out (show i < us.length by have := HUL.out; omega)
          have f0 := HX4.out.fr (i * 4)
          have f1 := HX4.out.fr (i * 4 + 1)
          have f2 := HX4.out.fr (i * 4 + 2)
          have f3 := HX4.out.fr (i * 4 + 3)
          have HX5 := Go.Lib.hid (HPUT.out _ HX4.out)
          have HB5 := Go.Lib.hid (HB4.out.trans ((put4_keep w4 g (i * 4) p.1 p.2 pf pr).below HGE.out HB4.out.size))
          go_upto_region 10 with fail
          change Code.wp _ _ _ _ (put4 w4 g (i * 4) p.1 p.2 pf pr)
          generalize put4 w4 g (i * 4) p.1 p.2 pf pr = w5 at *
          clear q0 q1 q2 q3 o0 o1 o2 o3 f0 f1 f2 f3
          go_wp2_with fail
          go_roundw
          case rel => exact ⟨i + 1, j + 1, us.set i p, by go_num, by go_num, HKN.out, HX5.out, HB5.out⟩
          case measure => simp [intOf]; omega
        case true =>
          have HKN := Go.Lib.hid (HKS.out HKP2.out)
          go_wp2_with fail
          refine (HCL.out).mono ?_
          rintro _ w4 ⟨rfl, b4⟩
          have HX4 := Go.Lib.hid (HX3.out.below b4)
          have HB4 := Go.Lib.hid (upB HB3.out b4)
          clear b4 q0 q1 q2 q3
          go_wp2_with fail
          go_roundw
          case rel => exact ⟨i, j + 1, us, rfl, by go_num, HKN.out, HX4.out, HB4.out⟩
          case measure => simp [intOf]; omega
set_option maxRecDepth 100000 in
set_option maxHeartbeats 4000000 in
theorem implGearsOf (x : Trn) (A : Option Addr) (c : Nat) (B : Option Addr) (d : Nat) (lm : Int) (b : Bool) (w : World) (T : TrL x A c B d w) (hT : Train x) (hl : 0 ≤ lm ∧ lm ≤ 4) :
    Calls Try.prog 66 #[shV x A c B d lm, .bool b] w (fun e w' => ∃ g cap, e = .returned (.slice (some ⟨g, 0, none⟩) ((ordI x).filter (keepG x lm b)).length cap) ∧ Gs x w' g ((ordI x).filter (keepG x lm b)) ∧ w.heap.size ≤ g ∧ Below w.heap.size w w') := by
  have HT := Go.Lib.hid T
  have HTR := Go.Lib.hid hT
  have hf1 := hT.f.one
  have HX := Go.Lib.hid ((boxS_box x A c B d lm w).alloc (.cells #[.bool b] 4))
  have HA := Go.Lib.hid (show Box ((boxS x A c B d lm w).alloc (.cells #[.bool b] 4)) (w.heap.size + 1) [.bool b] from Box.new (by simp [boxS]) rfl)
  have HXB := Go.Lib.hid ((boxS_below x A c B d lm w).alloc (boxS_below x A c B d lm w).size (.cells #[.bool b] 4))
  have HG := Go.Lib.hid (fun w1 T1 => implGearsC x A c B d w1 T1 hT)
  have HD := Go.Lib.hid (fun g cap w1 w2 T1 K1 h1 hx hg hcap => implDelF x A c B d lm b w.heap.size (w.heap.size + 1) g cap (ordI x) w1 w2 T1 K1 h1 hl hf1 hx (ordI_few hT) hg hcap)
  have HL := Go.Lib.hid hl
  clear T hT hl hf1
  unfold trainV at *
  unfold shV
  go_enter Try.func66, Try.ntmps66
  go_upto_region 1 with fail
  refine wp_gen (R := fun W => Box W w.heap.size (shC x A c B d lm) ∧ Box W (w.heap.size + 1) [.bool b] ∧ Below w.heap.size w W) ⟨HX.out, HA.out, HXB.out⟩ ?_
  rintro W ⟨hx, ha, hb⟩
  have HX1 := Go.Lib.hid hx
  have HA1 := Go.Lib.hid ha
  have HB1 := Go.Lib.hid hb
  have HT1 := Go.Lib.hid (HT.out.below hb)
  clear hx ha hb HX HA HXB
  have hc0 : W.cell? ⟨w.heap.size, 0, none⟩ = some (.slice A x.f.length c) := HX1.out.at_ 0 _ rfl
  have hc1 : W.cell? ⟨w.heap.size, 1, none⟩ = some (.slice B x.r.length d) := HX1.out.at_ 1 _ rfl
  have hc2 : W.cell? ⟨w.heap.size, 2, none⟩ = some (.int .i64 x.n) := HX1.out.at_ 2 _ rfl
  have hc3 : W.cell? ⟨w.heap.size, 3, none⟩ = some (.int .i64 lm) := HX1.out.at_ 3 _ rfl
  go_wp2_with fail
  refine (HG.out _ HT1.out).mono ?_
  rintro _ w2 ⟨g, cap, rfl, hbx, hge, b2, hcl⟩
  have HDE := Go.Lib.hid (HD.out g cap W w2 HT1.out ⟨HX1.out, HA1.out⟩ b2 hbx hge hcl)
  have HGE := Go.Lib.hid (Nat.le_trans HB1.out.size hge)
  clear hbx hge b2 hcl hc0 hc1 hc2 hc3
  go_wp2_with fail
  refine (HDE.out).mono ?_
  rintro _ w3 ⟨rfl, hgs, b3⟩
  have HGS := Go.Lib.hid hgs
  have HB3 := Go.Lib.hid (upB HB1.out b3)
  clear hgs b3
  go_wp2_with fail
  go_ret
  exact ⟨g, cap, rfl, HGS.out, HGE.out, HB3.out⟩
end Go.Proofs.Ythedanpldebjcaa
