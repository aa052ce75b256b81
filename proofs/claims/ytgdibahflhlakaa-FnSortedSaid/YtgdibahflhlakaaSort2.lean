/- The walk of spec.SortNumbers. -/
import Derived.Test.YtgdibahflhlakaaSort
import Derived.Deep.RegionHeld3
import Derived.Deep.AppendLies
namespace Go.Proofs.Ytgdibahflhlakaa
open Go.RowKit

/-- The list under way: sorted, and made of the first k numbers. -/
def SortTo (zs : List Int) (k : Nat) (ys : List Int) : Prop := ys.Pairwise (· ≤ ·) ∧ ys.Perm (zs.take k)
theorem SortTo.start (zs : List Int) : SortTo zs 0 [] := ⟨List.Pairwise.nil, by simp⟩
theorem SortTo.len {zs ys : List Int} {k : Nat} (h : SortTo zs k ys) (hk : k ≤ zs.length) : ys.length = k := by
  rw [h.2.length_eq, List.length_take, Nat.min_eq_left hk]
theorem SortTo.done {zs ys : List Int} (h : SortTo zs zs.length ys) : ys = zs.mergeSort (fun x y => decide (x ≤ y)) := by
  have hp : ys.Perm (zs.mergeSort (fun x y => decide (x ≤ y))) := by
    have := h.2
    rw [List.take_length] at this
    exact this.trans (List.mergeSort_perm _ _).symm
  have hs : (zs.mergeSort (fun x y => decide (x ≤ y))).Pairwise (· ≤ ·) := by
    have := List.pairwise_mergeSort (le := fun (x y : Int) => decide (x ≤ y)) (fun a b c h1 h2 => by simp only [decide_eq_true_eq] at *; omega) (fun a b => by simp only [Bool.or_eq_true, decide_eq_true_eq]; omega) zs
    simpa using this
  exact hp.eq_of_pairwise (fun a b _ _ h1 h2 => by omega) h.1 hs
/-- Where x goes: behind j numbers that are no greater, ahead of a greater one or the end. -/
theorem SortTo.put {zs ys : List Int} {k j : Nat} {x : Int} (h : SortTo zs k ys) (hk : k < zs.length) (hx : x = zs.getD k 0) (hj : j ≤ k) (hle : ∀ i, i < j → ys.getD i 0 ≤ x) (hgt : j < k → ¬ ys.getD j 0 ≤ x) :
    SortTo zs (k + 1) (ys.take j ++ [x] ++ ys.drop j) := by
  have hl := h.len (by omega)
  refine ⟨?_, ?_⟩
  · have hpw := h.1
    have hall : ∀ i m, i < m → m < ys.length → ys.getD i 0 ≤ ys.getD m 0 := fun i m him hm => by
      have := List.pairwise_iff_getElem.1 hpw i m (by omega) hm him
      simpa [List.getD, List.getElem?_eq_getElem, hm, show i < ys.length by omega] using this
    rw [List.append_assoc, List.pairwise_append]
    refine ⟨hpw.take, ?_, ?_⟩
    · simp only [List.cons_append, List.nil_append, List.pairwise_cons]
      refine ⟨fun b hb => ?_, hpw.drop⟩
      obtain ⟨i, hi, rfl⟩ := List.getElem_of_mem hb
      simp only [List.length_drop] at hi
      have h1 := hgt (by omega)
      have h2 : ys.getD j 0 ≤ ys.getD (j + i) 0 := by
        by_cases hi0 : i = 0
        · subst hi0; simp
        · exact hall j (j + i) (by omega) (by omega)
      have h3 : (ys.drop j)[i] = ys.getD (j + i) 0 := by simp [List.getD, show j + i < ys.length by omega]
      rw [h3]
      omega
    · intro a ha b hb
      obtain ⟨i, hi, rfl⟩ := List.getElem_of_mem ha
      simp only [List.length_take] at hi
      have h1 := hle i (by omega)
      have h3 : (ys.take j)[i] = ys.getD i 0 := by simp [List.getD, show i < ys.length by omega]
      rw [h3]
      simp only [List.cons_append, List.nil_append, List.mem_cons] at hb
      rcases hb with rfl | hb
      · exact h1
      · obtain ⟨m, hm, rfl⟩ := List.getElem_of_mem hb
        simp only [List.length_drop] at hm
        have h4 : (ys.drop j)[m] = ys.getD (j + m) 0 := by simp [List.getD, show j + m < ys.length by omega]
        rw [h4]
        exact hall i (j + m) (by omega) (by omega)
  · have e : zs.take (k + 1) = zs.take k ++ [x] := by
      rw [List.take_add_one, hx]
      simp [List.getD, hk]
    rw [e]
    refine List.Perm.trans ?_ (h.2.append_right [x])
    have : (ys.take j ++ [x] ++ ys.drop j).Perm (ys.take j ++ ys.drop j ++ [x]) := by
      rw [List.append_assoc, List.append_assoc]
      exact List.Perm.append_left _ List.perm_append_comm
    rwa [List.take_append_drop] at this

/-- The world under way. -/
def SortAt (w : World) (zs : List Int) (k : Nat) (v : Value) (wr : World) : Prop :=
  ∃ ys g cap, SortTo zs k ys ∧ v = .slice (some ⟨g, 0, none⟩) k cap ∧ Ow wr w.heap.size wr.heap.size 2 (some ⟨g, 0, none⟩) k cap (ints ys) ∧ Below w.heap.size w wr

/-- An empty literal: a block of its own with no cell. -/
theorem own_empty {w : World} {base g : Nat} {t : TypeId} (hg : w.heap.size = g) (hb : base ≤ g) : (w.alloc (.cells #[] t)).ownsRow base t 1 (.slice (some ⟨g, 0, none⟩) 0 0) 0 [] := by
  subst hg
  exact ⟨rfl, .inr ⟨w.heap.size, 0, #[], rfl, hb, heap_alloc_new w _, Nat.le_refl _, Nat.zero_le _, rfl, rfl⟩⟩

/-- append onto a slice that is not nil, at a step of a region that draws its order. -/
theorem step_app {P : Program} {ops : Array Oper} {o : Oper} {a : Act} {w : World} {K : Act → World → Prop} {Q : Exit → Act → World → Prop} {E : Prop} (hgd : o.guard = none) (s x : Operand) (t : TypeId)
    (ho : o.op = .call { callee := .builtin .append, args := #[s, x], argTypes := #[t, t] })
    (base : Nat) (e : TypeId) (i : TypeInfo) (z : Value) (bytes : Nat) (ht : P.underlying t = some (.slice e)) (hi : P.info? e = some i) (hz : i.zero = some z)
    (hsize : i.size = 1) (hby : i.bytes = bytes) (hzs : z.cells.size = 1)
    (g n cap : Nat) (xs : List Value) (hs : a.eval s = .slice (some ⟨g, 0, none⟩) n cap) (hown : w.ownsRow base e 1 (.slice (some ⟨g, 0, none⟩) n cap) n xs)
    (ad : Addr) (m c : Nat) (news : List Value) (hx : a.eval x = .slice (some ad) m c) (hl : news.length = m) (hnews : ∀ j u, news[j]? = some u → w.cell? (ad.add j) = some u) (h1 : ∀ u ∈ news, u.oneCell' = true)
    (h63 : n + m ≤ maxLen) (hbytes : (n + m) * bytes ≤ 140737488355328) (hbase : base ≤ w.heap.size) (N : Nat) (hN : n + m = N) (L : List Value) (hL : xs ++ news = L)
    (h : ∀ g' cap' w', w'.ownsRow base e 1 (.slice (some ⟨g', 0, none⟩) N cap') N L → w.grownBy w' (some g) → (g' = g ∨ g' = w.heap.size) → g' < w'.heap.size → K (a.put o.dst (.slice (some ⟨g', 0, none⟩) N cap')) w') :
    if Region.wanted o (yielded ops a.tmps) = true then Oper.wp P o a w K Q else E := by
  have hw : Region.wanted o (yielded ops a.tmps) = true := by simp [Region.wanted, hgd]
  rw [if_pos hw]
  subst hN
  subst hL
  obtain ⟨v', w', hr, h2, h3, h4, h5⟩ := run_append_own_at (P := P) w base t o.type e i z 1 bytes ht hi hz hsize hby hzs (by omega) _ n xs hown ad m c news (by omega) hnews h1 h63 hbytes hbase
  obtain ⟨g', cap', rfl, hlt⟩ : ∃ g' cap', v' = .slice (some ⟨g', 0, none⟩) (n + m) cap' ∧ g' < w'.heap.size := by
    rcases h2.2 with ⟨hv, _⟩ | ⟨g', cap', cur, hv, _, hg, _⟩
    · have := (h4.1 hv).1
      cases this
    · subst hv
      exact ⟨g', cap', rfl, (h2.lt g' rfl).2⟩
  unfold Oper.wp execOp
  simp only [ho, resolve, invoke, builtin, Sem.run_bind, Sem.run_pure, Result.andThen_ok, List.map_toArray, List.map_cons, List.map_nil, hs, hx, hr]
  refine h g' cap' w' h2 h3 ?_ hlt
  rcases h5 with h5 | h5
  · exact .inl (by simpa [Value.ownBlock] using h5)
  · exact .inr (by simpa [Value.ownBlock] using h5)

theorem cell_new {w : World} {B : Nat} {x : Value} {t : TypeId} (h : w.heap.size = B) : (w.alloc (.cells #[x] t)).cell? ⟨B, 0, none⟩ = some x := by
  subst h
  have := cell_one_new w x t 0 x rfl
  rwa [show (⟨w.heap.size, 0, none⟩ : Addr).add 0 = ⟨w.heap.size, 0, none⟩ by simp [Addr.add]] at this
theorem news_one {w : World} {B : Nat} {x : Value} (c : w.cell? ⟨B, 0, none⟩ = some x) : ∀ i u, [x][i]? = some u → w.cell? ((⟨B, 0, none⟩ : Addr).add i) = some u := by
  intro i u hu
  match i, hu with
  | 0, hu =>
    simp at hu
    subst hu
    simpa [Addr.add] using c
theorem news_of {W w' : World} {g0 : Nat} {xs news : List Value} (c : ∀ i u, xs[i]? = some u → W.cell? ⟨g0, i, none⟩ = some u) (hb : Below W.heap.size W w') (hg : g0 < W.heap.size) (off : Nat) (hn : ∀ i u, news[i]? = some u → xs[off + i]? = some u) :
    ∀ i u, news[i]? = some u → w'.cell? ((⟨g0, off, none⟩ : Addr).add i) = some u := fun i u hu => by
  have h1 := (hb.cell (p := ⟨g0, off + i, none⟩) hg).trans (c _ u (hn i u hu))
  by_cases h0 : i = 0
  · subst h0; simpa [Addr.add] using h1
  · simpa [Addr.add, h0] using h1
theorem keepS {W w' : World} {a : Addr} {u : Value} (c : W.cell? a = some u) (h : a.block < W.heap.size) (hb : Below W.heap.size W w') : w'.cell? a = some u ∧ Below W.heap.size W w' := ⟨(hb.cell (p := a) h).trans c, hb⟩
theorem take_at (ys : List Int) (j : Nat) : ∀ i u, (ints (ys.take j))[i]? = some u → (ints ys)[0 + i]? = some u := fun i u hu => by
  rw [Nat.zero_add]
  simp only [ints, List.map_take] at hu ⊢
  rw [List.getElem?_take] at hu
  split at hu
  · exact hu
  · cases hu
theorem drop_at (ys : List Int) (j : Nat) : ∀ i u, (ints (ys.drop j))[i]? = some u → (ints ys)[j + i]? = some u := fun i u hu => by
  simp only [ints, List.map_drop] at hu ⊢
  rwa [List.getElem?_drop] at hu
theorem drop_none {ys : List Int} {j : Nat} (h : ys.length ≤ j) {p : Nat → Value → Prop} : ∀ i u, (ints (ys.drop j))[i]? = some u → p i u := fun i u hu => by
  rw [List.drop_eq_nil_of_le h] at hu
  cases hu
theorem one_ints (zs : List Int) : ∀ u ∈ ints zs, u.oneCell' = true := fun u hu => by
  simp only [ints, List.mem_map] at hu
  obtain ⟨x, _, rfl⟩ := hu
  rfl

set_option maxRecDepth 100000 in
set_option maxHeartbeats 4000000 in
theorem specSort (g n cap : Nat) (zs : List Int) (w : World) (lo : Nat) (h : Rd w lo w.heap.size (some ⟨g, 0, none⟩) n (ints zs)) (hn : n ≤ 1048576) :
    Calls Try.prog 10 #[.slice (some ⟨g, 0, none⟩) n cap] w (SortEnd w zs) := by
  have hz : zs.length = n := by have := h.len; rwa [ints_len] at this
  obtain ⟨i0, hi, hz0, hz1, hz2⟩ := info_parts infoInt
  have hk := specValues (some ⟨g, 0, none⟩) n cap zs lo w.heap.size w h (by omega)
  cases hc : decide (codeB zs = 0)
  · have hc' : ¬ codeB zs = 0 := by simpa using hc
    have hne : (codeB zs != 0) = true := by simpa using hc'
    have HC := Go.Lib.hid hc'
    have HK := Go.Lib.hid hk
    clear hc hc' hk
    go_enter Try.func10, Try.ntmps10
    go_wp2_with fail
    refine HK.out.mono ?_
    rintro e w' ⟨rfl, rfl⟩
    go_wp2_with fail
    go_ret2
    exact SortEnd.bad rfl HC.out (Below.refl _ _)
  · have hc' : codeB zs = 0 := by simpa using hc
    obtain ⟨h60, hok⟩ := codeB_zero hc'
    rw [hc'] at hk
    have HC := Go.Lib.hid hc'
    have HK := Go.Lib.hid hk
    have HZ := Go.Lib.hid hz
    have hn60 : n ≤ 60 := by omega
    clear hc hc' hk hz hok h60
    go_enter Try.func10, Try.ntmps10
    go_wp2_with fail
    refine HK.out.mono ?_
    rintro e w' ⟨rfl, rfl⟩
    go_wp2_with fail
    have start : SortAt w zs 0 (.slice (some ⟨w.heap.size, 0, none⟩) 0 0) (w.alloc (.cells #[] 2)) :=
      ⟨[], _, _, SortTo.start zs, rfl, ⟨own_empty rfl (Nat.le_refl _), fun q hq => by rw [← show w.heap.size = q by simpa [Value.ownBlock] using hq]; simp⟩, (Below.refl _ _).alloc (Nat.le_refl _) _⟩
    have START := Go.Lib.hid start
    clear start
    go_loopw [5, 6] (fun v i wr => ∃ k : Nat, k ≤ n ∧ i = .int .i64 k ∧ SortAt w zs k v wr) (fun _ i _ => n - (intOf i).toNat)
    case atStart => exact ⟨0, Nat.zero_le _, rfl, START.out⟩
    case round =>
      obtain ⟨k, hk, rfl, ys, g0, cap0, hso, rfl, ho, hb⟩ := hrel
      rename World => wo
      by_cases hlt : k < n
      · obtain ⟨b, o, he, p, q, c⟩ := h.at_ hlt
        cases he
        have hcell : wo.cell? ⟨g, k, none⟩ = some (.int .i64 (zs.getD k 0)) := by
          have := (hb.cell (p := ⟨g, 0 + k, none⟩) q).trans (c k _ (ints_at zs k (by have := HZ.out; omega)))
          rwa [Nat.zero_add] at this
        have hsl := hso.len (by have := HZ.out; omega)
        obtain ⟨x, hx⟩ : ∃ x, x = zs.getD k 0 := ⟨_, rfl⟩
        rw [← hx] at hcell
        have HSO := Go.Lib.hid hso
        have HX := Go.Lib.hid hx
        clear hx c hso
        go_wp2_with fail
        go_loopw [7] (fun i wq => ∃ j m : Nat, j ≤ k ∧ i = .int .i64 j ∧ wq = wo.drewN m ∧ ∀ i, i < j → ys.getD i 0 ≤ x) (fun i _ => k - (intOf i).toNat)
        case atStart => exact ⟨0, 0, Nat.zero_le _, rfl, rfl, fun i h => absurd h (by omega)⟩
        case round =>
          obtain ⟨j, m, hj, rfl, rfl, hle⟩ := hrel
          have HLE := Go.Lib.hid hle
          clear hle
          by_cases hjk : j < k
          · have hc0 : wo.cell? ⟨g0, j, none⟩ = some (.int .i64 (ys.getD j 0)) := (ho.cell hjk).trans (ints_at ys j (by omega))
            obtain ⟨y, hy⟩ : ∃ y, y = ys.getD j 0 := ⟨_, rfl⟩
            rw [← hy] at hc0
            have HY := Go.Lib.hid hy
            clear hy
            by_cases hyx : y ≤ x
            · go_wp2_with fail
              go_quiet (fail)
              go_wp2_with fail
              go_roundw
              case rel => exact ⟨j + 1, _, by omega, by go_num, rfl, fun i hi => by
                rcases Nat.lt_or_ge i j with h1 | h1
                · exact HLE.out i h1
                · obtain rfl : i = j := by omega
                  rw [← HY.out]; exact hyx⟩
              case measure => simp [intOf]; omega
            · go_wp2_with fail
              go_quiet (fail)
              go_wp2_with fail
              have hgt : j < k → ¬ ys.getD j 0 ≤ x := fun _ => by rw [← HY.out]; omega
              have PUT := Go.Lib.hid (HSO.out.put (by have := HZ.out; omega) HX.out hj HLE.out hgt)
              have oW : Ow ((wo.drewN m).drewN nq) w.heap.size ((wo.drewN m).drewN nq).heap.size 2 (some ⟨g0, 0, none⟩) k cap0 (ints ys) := ho
              have bW : Below w.heap.size w ((wo.drewN m).drewN nq) := below_drewN (below_drewN hb m) nq
              have cW : ((wo.drewN m).drewN nq).cell? ⟨g, k, none⟩ = some (.int .i64 x) := hcell
              generalize (wo.drewN m).drewN nq = W at oW bW cW ⊢
              have sW := bW.size
              have gW : g < W.heap.size := by omega
              have hg0 := (oW.1.lt g0 rfl).2
              have hle0 := oW.le
              have hjc : (j : Int) ≤ (cap0 : Int) := by omega
              have hjk' : (j : Int) ≤ (k : Int) := by omega
              have hj0 : (0 : Int) ≤ (j : Int) := by omega
              have hkc : (k : Int) ≤ (cap0 : Int) := by omega
              have hcj : ¬ cap0 = j := by omega
              have hcs : ∀ i u, (ints ys)[i]? = some u → W.cell? ⟨g0, i, none⟩ = some u := fun i u hu => by
                have hi' : i < k := by
                  rcases Nat.lt_or_ge i k with h1 | h1
                  · exact h1
                  · rw [List.getElem?_eq_none (by rw [ints_len]; omega)] at hu; cases hu
                exact (oW.cell hi').trans hu
              have HCS := Go.Lib.hid hcs
              clear hcs hgt ho hb hcell HLE HSO HX HY hc0
              go_region_held3 (fun w' => w'.cell? ⟨g, k, none⟩ = some (.int .i64 x) ∧ Below W.heap.size W w')
                (first
                  | exact ⟨cW, ⟨rfl, rfl, rfl, Nat.le_refl _, fun _ _ => rfl⟩⟩
                  | exact keepS cW gW (‹_ ∧ Below W.heap.size W _›.2.grown hgrow3 ‹_ ∧ Below W.heap.size W _›.2.size (fun q hq => by cases hq; first | assumption | omega | simp))
                  | exact keepS cW gW (‹_ ∧ Below W.heap.size W _›.2.grown hgrow2 ‹_ ∧ Below W.heap.size W _›.2.size (fun q hq => by cases hq; first | assumption | omega | simp))
                  | exact keepS cW gW (‹_ ∧ Below W.heap.size W _›.2.grown hgrow1 ‹_ ∧ Below W.heap.size W _›.2.size (fun q hq => by cases hq; first | assumption | omega | simp))
                  | exact keepS cW gW (below_drewN ((Below.refl _ _).alloc (Nat.le_refl _) _) 1)
                  | exact keepS cW gW (below_drewN (((Below.refl _ _).alloc (Nat.le_refl _) _).alloc (by simp) _) 1)
                  | exact keepS cW gW (‹_ ∧ Below W.heap.size W _›.2.alloc ‹_ ∧ Below W.heap.size W _›.2.size _))
                (first
                  | (refine step_app rfl (.tmp 37) (.tmp 40) 24 rfl W.heap.size 2 i0 (.int .i64 0) 8 Try.underlying24 hi hz0 hz1 hz2 rfl _ 0 0 [] rfl (by first | exact own_empty (by simp) (by simp) | exact (own_empty (by simp) (by simp)).alloc _)
                       ⟨g0, 0, none⟩ j cap0 (ints (ys.take j)) rfl (by rw [ints_len, List.length_take]; omega) (news_of HCS.out ‹_ ∧ Below W.heap.size W _›.2 hg0 0 (take_at ys j)) (one_ints _)
                       (by unfold maxLen; omega) (by omega) ‹_ ∧ Below W.heap.size W _›.2.size j (by omega) (ints (ys.take j)) rfl ?_; intro g1 cap1 w1 hown1 hgrow1 hat1 hlt1; have hsz1 := ‹_ ∧ Below W.heap.size W _›.2.size; have hge1 : W.heap.size ≤ g1 := by rcases hat1 with h1 | h1 <;> rw [h1] <;> first | exact hsz1 | omega | simp)
                  | (refine step_app rfl (.tmp 41) (.tmp 46) 24 rfl W.heap.size 2 i0 (.int .i64 0) 8 Try.underlying24 hi hz0 hz1 hz2 rfl g1 j cap1 (ints (ys.take j)) rfl (by first | exact hown1 | exact hown1.alloc _)
                       ⟨_, 0, none⟩ 1 1 [.int .i64 x] rfl rfl (news_one (by first | exact cell_new rfl | exact (hgrow1.cell_far _ (by simp) (by simp)).trans (cell_new (w := W.alloc _) (by simp)) | exact (hgrow1.cell_far _ (by simp; omega) (by simp)).trans ((World.cell?_alloc_lt (W.alloc _) _ _ (by simp)).trans (cell_new rfl)))) (by simp [Value.oneCell'])
                       (by unfold maxLen; omega) (by omega) ‹_ ∧ Below W.heap.size W _›.2.size (j + 1) rfl (ints (ys.take j ++ [x])) (by simp [ints]) ?_; intro g2 cap2 w2 hown2 hgrow2 hat2 hlt2; have hsz2 := ‹_ ∧ Below W.heap.size W _›.2.size; have hge2 : W.heap.size ≤ g2 := by rcases hat2 with h1 | h1 <;> rw [h1] <;> first | exact hsz2 | exact hge1)
                  | (refine step_app rfl (.tmp 47) (.tmp 50) 24 rfl W.heap.size 2 i0 (.int .i64 0) 8 Try.underlying24 hi hz0 hz1 hz2 rfl g2 (j + 1) cap2 (ints (ys.take j ++ [x])) rfl hown2
                       ⟨g0, j, none⟩ (k - j) (cap0 - j) (ints (ys.drop j)) rfl (by rw [ints_len, List.length_drop]; omega) (news_of HCS.out ‹_ ∧ Below W.heap.size W _›.2 hg0 j (drop_at ys j)) (one_ints _)
                       (by unfold maxLen; omega) (by omega) ‹_ ∧ Below W.heap.size W _›.2.size (k + 1) (by omega) (ints (ys.take j ++ [x] ++ ys.drop j)) (by simp [ints]) ?_; intro g3 cap3 w3 hown3 hgrow3 hat3 hlt3)
                  | (refine step_app rfl (.tmp 47) (.tmp 50) 24 rfl W.heap.size 2 i0 (.int .i64 0) 8 Try.underlying24 hi hz0 hz1 hz2 rfl g2 (j + 1) cap2 (ints (ys.take j ++ [x])) rfl hown2
                       ⟨g0, 0, none⟩ (k - j) (cap0 - j) (ints (ys.drop j)) rfl (by rw [ints_len, List.length_drop]; omega) (drop_none (by omega)) (one_ints _)
                       (by unfold maxLen; omega) (by omega) ‹_ ∧ Below W.heap.size W _›.2.size (k + 1) (by omega) (ints (ys.take j ++ [x] ++ ys.drop j)) (by simp [ints]) ?_; intro g3 cap3 w3 hown3 hgrow3 hat3 hlt3))
              all_goals (have HS : SortAt w zs (k + 1) (.slice (some ⟨g3, 0, none⟩) (k + 1) cap3) w3 := ⟨_, g3, cap3, PUT.out, rfl, Ow.lower ⟨hown3, fun q hq => by rw [← show g3 = q by simpa [Value.ownBlock] using hq]; exact hlt3⟩ sW, bW.trans (‹_ ∧ Below W.heap.size W w3›.2.mono sW)⟩)
              all_goals (clear hown3 hgrow3 hat3 hlt3 hown2 hgrow2 hat2 hown1 hgrow1 hat1)
              all_goals go_wp2_with fail
              all_goals go_roundw
              all_goals first | exact ⟨k + 1, by omega, by go_num, HS⟩ | (simp [intOf]; omega)
          · go_wp2_with fail
            go_quiet (fail)
            go_wp2_with fail
            have hgt : j < k → ¬ ys.getD j 0 ≤ x := fun h => absurd h hjk
            have PUT := Go.Lib.hid (HSO.out.put (by have := HZ.out; omega) HX.out hj HLE.out hgt)
            have oW : Ow ((wo.drewN m).drewN nq) w.heap.size ((wo.drewN m).drewN nq).heap.size 2 (some ⟨g0, 0, none⟩) k cap0 (ints ys) := ho
            have bW : Below w.heap.size w ((wo.drewN m).drewN nq) := below_drewN (below_drewN hb m) nq
            have cW : ((wo.drewN m).drewN nq).cell? ⟨g, k, none⟩ = some (.int .i64 x) := hcell
            generalize (wo.drewN m).drewN nq = W at oW bW cW ⊢
            have sW := bW.size
            have gW : g < W.heap.size := by omega
            have hg0 := (oW.1.lt g0 rfl).2
            have hle0 := oW.le
            have hjc : (j : Int) ≤ (cap0 : Int) := by omega
            have hjk' : (j : Int) ≤ (k : Int) := by omega
            have hj0 : (0 : Int) ≤ (j : Int) := by omega
            have hkc : (k : Int) ≤ (cap0 : Int) := by omega
            by_cases hcj : cap0 = j
            · have hcs : ∀ i u, (ints ys)[i]? = some u → W.cell? ⟨g0, i, none⟩ = some u := fun i u hu => by
                have hi' : i < k := by
                  rcases Nat.lt_or_ge i k with h1 | h1
                  · exact h1
                  · rw [List.getElem?_eq_none (by rw [ints_len]; omega)] at hu; cases hu
                exact (oW.cell hi').trans hu
              have HCS := Go.Lib.hid hcs
              clear hcs hgt ho hb hcell HLE HSO HX
              go_region_held3 (fun w' => w'.cell? ⟨g, k, none⟩ = some (.int .i64 x) ∧ Below W.heap.size W w')
                (first
                  | exact ⟨cW, ⟨rfl, rfl, rfl, Nat.le_refl _, fun _ _ => rfl⟩⟩
                  | exact keepS cW gW (‹_ ∧ Below W.heap.size W _›.2.grown hgrow3 ‹_ ∧ Below W.heap.size W _›.2.size (fun q hq => by cases hq; first | assumption | omega | simp))
                  | exact keepS cW gW (‹_ ∧ Below W.heap.size W _›.2.grown hgrow2 ‹_ ∧ Below W.heap.size W _›.2.size (fun q hq => by cases hq; first | assumption | omega | simp))
                  | exact keepS cW gW (‹_ ∧ Below W.heap.size W _›.2.grown hgrow1 ‹_ ∧ Below W.heap.size W _›.2.size (fun q hq => by cases hq; first | assumption | omega | simp))
                  | exact keepS cW gW (below_drewN ((Below.refl _ _).alloc (Nat.le_refl _) _) 1)
                    | exact keepS cW gW (below_drewN (((Below.refl _ _).alloc (Nat.le_refl _) _).alloc (by simp) _) 1)
                    | exact keepS cW gW (‹_ ∧ Below W.heap.size W _›.2.alloc ‹_ ∧ Below W.heap.size W _›.2.size _))
                (first
                  | (refine step_app rfl (.tmp 37) (.tmp 40) 24 rfl W.heap.size 2 i0 (.int .i64 0) 8 Try.underlying24 hi hz0 hz1 hz2 rfl _ 0 0 [] rfl (by first | exact own_empty (by simp) (by simp) | exact (own_empty (by simp) (by simp)).alloc _)
                       ⟨g0, 0, none⟩ j _ (ints (ys.take j)) rfl (by rw [ints_len, List.length_take]; omega) (news_of HCS.out ‹_ ∧ Below W.heap.size W _›.2 hg0 0 (take_at ys j)) (one_ints _)
                       (by unfold maxLen; omega) (by omega) ‹_ ∧ Below W.heap.size W _›.2.size j (by omega) (ints (ys.take j)) rfl ?_; intro g1 cap1 w1 hown1 hgrow1 hat1 hlt1; have hsz1 := ‹_ ∧ Below W.heap.size W _›.2.size; have hge1 : W.heap.size ≤ g1 := by rcases hat1 with h1 | h1 <;> rw [h1] <;> first | exact hsz1 | omega | simp)
                  | (refine step_app rfl (.tmp 41) (.tmp 46) 24 rfl W.heap.size 2 i0 (.int .i64 0) 8 Try.underlying24 hi hz0 hz1 hz2 rfl g1 j cap1 (ints (ys.take j)) rfl (by first | exact hown1 | exact hown1.alloc _)
                       ⟨_, 0, none⟩ 1 1 [.int .i64 x] rfl rfl (news_one (by first | exact cell_new rfl | exact (hgrow1.cell_far _ (by simp) (by simp)).trans (cell_new (w := W.alloc _) (by simp)) | exact (hgrow1.cell_far _ (by simp; omega) (by simp)).trans ((World.cell?_alloc_lt (W.alloc _) _ _ (by simp)).trans (cell_new rfl)))) (by simp [Value.oneCell'])
                       (by unfold maxLen; omega) (by omega) ‹_ ∧ Below W.heap.size W _›.2.size (j + 1) rfl (ints (ys.take j ++ [x])) (by simp [ints]) ?_; intro g2 cap2 w2 hown2 hgrow2 hat2 hlt2; have hsz2 := ‹_ ∧ Below W.heap.size W _›.2.size; have hge2 : W.heap.size ≤ g2 := by rcases hat2 with h1 | h1 <;> rw [h1] <;> first | exact hsz2 | exact hge1)
                  | (refine step_app rfl (.tmp 47) (.tmp 50) 24 rfl W.heap.size 2 i0 (.int .i64 0) 8 Try.underlying24 hi hz0 hz1 hz2 rfl g2 (j + 1) cap2 (ints (ys.take j ++ [x])) rfl hown2
                       ⟨g0, j, none⟩ (k - j) _ (ints (ys.drop j)) rfl (by rw [ints_len, List.length_drop]; omega) (news_of HCS.out ‹_ ∧ Below W.heap.size W _›.2 hg0 j (drop_at ys j)) (one_ints _)
                       (by unfold maxLen; omega) (by omega) ‹_ ∧ Below W.heap.size W _›.2.size (k + 1) (by omega) (ints (ys.take j ++ [x] ++ ys.drop j)) (by simp [ints]) ?_; intro g3 cap3 w3 hown3 hgrow3 hat3 hlt3)
                    | (refine step_app rfl (.tmp 47) (.tmp 50) 24 rfl W.heap.size 2 i0 (.int .i64 0) 8 Try.underlying24 hi hz0 hz1 hz2 rfl g2 (j + 1) cap2 (ints (ys.take j ++ [x])) rfl hown2
                         ⟨g0, 0, none⟩ (k - j) _ (ints (ys.drop j)) rfl (by rw [ints_len, List.length_drop]; omega) (drop_none (by omega)) (one_ints _)
                         (by unfold maxLen; omega) (by omega) ‹_ ∧ Below W.heap.size W _›.2.size (k + 1) (by omega) (ints (ys.take j ++ [x] ++ ys.drop j)) (by simp [ints]) ?_; intro g3 cap3 w3 hown3 hgrow3 hat3 hlt3))
              all_goals (have HS : SortAt w zs (k + 1) (.slice (some ⟨g3, 0, none⟩) (k + 1) cap3) w3 := ⟨_, g3, cap3, PUT.out, rfl, Ow.lower ⟨hown3, fun q hq => by rw [← show g3 = q by simpa [Value.ownBlock] using hq]; exact hlt3⟩ sW, bW.trans (‹_ ∧ Below W.heap.size W w3›.2.mono sW)⟩)
              all_goals (clear hown3 hgrow3 hat3 hlt3 hown2 hgrow2 hat2 hown1 hgrow1 hat1)
              all_goals go_wp2_with fail
              all_goals go_roundw
              all_goals first | exact ⟨k + 1, by omega, by go_num, HS⟩ | (simp [intOf]; omega)
            · have hcs : ∀ i u, (ints ys)[i]? = some u → W.cell? ⟨g0, i, none⟩ = some u := fun i u hu => by
                have hi' : i < k := by
                  rcases Nat.lt_or_ge i k with h1 | h1
                  · exact h1
                  · rw [List.getElem?_eq_none (by rw [ints_len]; omega)] at hu; cases hu
                exact (oW.cell hi').trans hu
              have HCS := Go.Lib.hid hcs
              clear hcs hgt ho hb hcell HLE HSO HX
              go_region_held3 (fun w' => w'.cell? ⟨g, k, none⟩ = some (.int .i64 x) ∧ Below W.heap.size W w')
                (first
                  | exact ⟨cW, ⟨rfl, rfl, rfl, Nat.le_refl _, fun _ _ => rfl⟩⟩
                  | exact keepS cW gW (‹_ ∧ Below W.heap.size W _›.2.grown hgrow3 ‹_ ∧ Below W.heap.size W _›.2.size (fun q hq => by cases hq; first | assumption | omega | simp))
                  | exact keepS cW gW (‹_ ∧ Below W.heap.size W _›.2.grown hgrow2 ‹_ ∧ Below W.heap.size W _›.2.size (fun q hq => by cases hq; first | assumption | omega | simp))
                  | exact keepS cW gW (‹_ ∧ Below W.heap.size W _›.2.grown hgrow1 ‹_ ∧ Below W.heap.size W _›.2.size (fun q hq => by cases hq; first | assumption | omega | simp))
                  | exact keepS cW gW (below_drewN ((Below.refl _ _).alloc (Nat.le_refl _) _) 1)
                    | exact keepS cW gW (below_drewN (((Below.refl _ _).alloc (Nat.le_refl _) _).alloc (by simp) _) 1)
                    | exact keepS cW gW (‹_ ∧ Below W.heap.size W _›.2.alloc ‹_ ∧ Below W.heap.size W _›.2.size _))
                (first
                  | (refine step_app rfl (.tmp 37) (.tmp 40) 24 rfl W.heap.size 2 i0 (.int .i64 0) 8 Try.underlying24 hi hz0 hz1 hz2 rfl _ 0 0 [] rfl (by first | exact own_empty (by simp) (by simp) | exact (own_empty (by simp) (by simp)).alloc _)
                       ⟨g0, 0, none⟩ j cap0 (ints (ys.take j)) rfl (by rw [ints_len, List.length_take]; omega) (news_of HCS.out ‹_ ∧ Below W.heap.size W _›.2 hg0 0 (take_at ys j)) (one_ints _)
                       (by unfold maxLen; omega) (by omega) ‹_ ∧ Below W.heap.size W _›.2.size j (by omega) (ints (ys.take j)) rfl ?_; intro g1 cap1 w1 hown1 hgrow1 hat1 hlt1; have hsz1 := ‹_ ∧ Below W.heap.size W _›.2.size; have hge1 : W.heap.size ≤ g1 := by rcases hat1 with h1 | h1 <;> rw [h1] <;> first | exact hsz1 | omega | simp)
                  | (refine step_app rfl (.tmp 41) (.tmp 46) 24 rfl W.heap.size 2 i0 (.int .i64 0) 8 Try.underlying24 hi hz0 hz1 hz2 rfl g1 j cap1 (ints (ys.take j)) rfl (by first | exact hown1 | exact hown1.alloc _)
                       ⟨_, 0, none⟩ 1 1 [.int .i64 x] rfl rfl (news_one (by first | exact cell_new rfl | exact (hgrow1.cell_far _ (by simp) (by simp)).trans (cell_new (w := W.alloc _) (by simp)) | exact (hgrow1.cell_far _ (by simp; omega) (by simp)).trans ((World.cell?_alloc_lt (W.alloc _) _ _ (by simp)).trans (cell_new rfl)))) (by simp [Value.oneCell'])
                       (by unfold maxLen; omega) (by omega) ‹_ ∧ Below W.heap.size W _›.2.size (j + 1) rfl (ints (ys.take j ++ [x])) (by simp [ints]) ?_; intro g2 cap2 w2 hown2 hgrow2 hat2 hlt2; have hsz2 := ‹_ ∧ Below W.heap.size W _›.2.size; have hge2 : W.heap.size ≤ g2 := by rcases hat2 with h1 | h1 <;> rw [h1] <;> first | exact hsz2 | exact hge1)
                  | (refine step_app rfl (.tmp 47) (.tmp 50) 24 rfl W.heap.size 2 i0 (.int .i64 0) 8 Try.underlying24 hi hz0 hz1 hz2 rfl g2 (j + 1) cap2 (ints (ys.take j ++ [x])) rfl hown2
                       ⟨g0, j, none⟩ (k - j) (cap0 - j) (ints (ys.drop j)) rfl (by rw [ints_len, List.length_drop]; omega) (news_of HCS.out ‹_ ∧ Below W.heap.size W _›.2 hg0 j (drop_at ys j)) (one_ints _)
                       (by unfold maxLen; omega) (by omega) ‹_ ∧ Below W.heap.size W _›.2.size (k + 1) (by omega) (ints (ys.take j ++ [x] ++ ys.drop j)) (by simp [ints]) ?_; intro g3 cap3 w3 hown3 hgrow3 hat3 hlt3)
                    | (refine step_app rfl (.tmp 47) (.tmp 50) 24 rfl W.heap.size 2 i0 (.int .i64 0) 8 Try.underlying24 hi hz0 hz1 hz2 rfl g2 (j + 1) cap2 (ints (ys.take j ++ [x])) rfl hown2
                         ⟨g0, 0, none⟩ (k - j) (cap0 - j) (ints (ys.drop j)) rfl (by rw [ints_len, List.length_drop]; omega) (drop_none (by omega)) (one_ints _)
                         (by unfold maxLen; omega) (by omega) ‹_ ∧ Below W.heap.size W _›.2.size (k + 1) (by omega) (ints (ys.take j ++ [x] ++ ys.drop j)) (by simp [ints]) ?_; intro g3 cap3 w3 hown3 hgrow3 hat3 hlt3))
              all_goals (have HS : SortAt w zs (k + 1) (.slice (some ⟨g3, 0, none⟩) (k + 1) cap3) w3 := ⟨_, g3, cap3, PUT.out, rfl, Ow.lower ⟨hown3, fun q hq => by rw [← show g3 = q by simpa [Value.ownBlock] using hq]; exact hlt3⟩ sW, bW.trans (‹_ ∧ Below W.heap.size W w3›.2.mono sW)⟩)
              all_goals (clear hown3 hgrow3 hat3 hlt3 hown2 hgrow2 hat2 hown1 hgrow1 hat1)
              all_goals go_wp2_with fail
              all_goals go_roundw
              all_goals first | exact ⟨k + 1, by omega, by go_num, HS⟩ | (simp [intOf]; omega)
      · obtain rfl : k = n := by omega
        go_wp2_with fail
        go_ret2
        have hy := (show SortTo zs zs.length ys by rw [HZ.out]; exact hso).done
        exact SortEnd.good (ys := ys) HC.out hy (by rw [hso.len (by have := HZ.out; omega)]) ho hb
end Go.Proofs.Ytgdibahflhlakaa
