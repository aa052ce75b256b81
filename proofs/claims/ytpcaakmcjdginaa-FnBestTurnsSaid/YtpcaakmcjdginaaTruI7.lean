/- The program: the least plan: a search whose end is a panic that is recovered. -/
import Derived.Test.YtpcaakmcjdginaaTruI6
import Derived.Defers
import Derived.Recover
import Derived.Laws.Pointers
import Derived.Deep.DeepCutAuto
namespace Go.Proofs.Ytpcaakmcjdginaa
open Go.RowKit
set_option linter.unusedSimpArgs false
set_option linter.unusedVariables false

set_option maxRecDepth 100000 in
set_option maxHeartbeats 4000000 in
theorem catchP (x y : Addr) (v : Value) (A : Option Addr) (n c : Nat) (older : List PanicEntry) (w : World) (u1 u2 : Value) (hv : v = .slice A n c) (hc : w.cell? x = some u1) (hz : w.frozen? x = false) (hd : (w.setCell x v).cell? y = some u2) (hy : (w.setCell x v).frozen? y = false) :
    CallsD Try.prog 72 #[.pointer (some x), .pointer (some y)] (.panicking ({ v := .iface 77 v, recovered := false } :: older)) w fun e u' w' =>
      e = .returned (.tuple #[]) ∧ u' = .panicking ({ v := .iface 77 v, recovered := true } :: older) ∧ w' = (w.setCell x v).setCell y (.bool true) := by
  subst hv
  have hta : ∀ w : World, Sem.run Try.prog (Instr.typeAssert (.iface 77 (.slice A n c)) 20 77 true) w = .ok (.tuple #[.slice A n c, .bool true]) w := fun w => by kernel_rfl
  refine callsD_of_wpS Try.func72 rfl fun c₀ cs hu => ?_
  apply wpS_region
  simp [wpOpsS, go_sem, recoverD, hu, Try.ntmps72, Exit.thenS, hta, Result.andThen, hc, hz, hd, hy]
  simp [bodyPostS, results, Try.results72]
set_option maxRecDepth 100000 in
set_option maxHeartbeats 4000000 in
theorem catchI (x y : Addr) (w : World) (u1 u2 : Value) (hc : w.cell? x = some u1) (hz : w.frozen? x = false) (hd : (w.setCell x (.slice none 0 0)).cell? y = some u2) (hy : (w.setCell x (.slice none 0 0)).frozen? y = false) :
    CallsD Try.prog 72 #[.pointer (some x), .pointer (some y)] .returning w fun e u' w' =>
      e = .returned (.tuple #[]) ∧ u' = .returning ∧ w' = (w.setCell x (.slice none 0 0)).setCell y (.bool false) := by
  have hta : ∀ w : World, Sem.run Try.prog (Instr.typeAssert .nilIface 20 77 true) w = .ok (.tuple #[.slice none 0 0, .bool false]) w := fun w => by kernel_rfl
  refine callsD_of_wpS Try.func72 rfl fun c₀ cs hu => ?_
  apply wpS_region
  simp [wpOpsS, go_sem, recoverD, hu, Try.ntmps72, Exit.thenS, hta, Result.andThen, hc, hz, hd, hy]
  cases c₀
  simp_all [bodyPostS, results, Try.results72]
theorem Box.belowAt {w w' : World} {q B : Nat} {cs : List Value} (h : Box w q cs) (hb : Below B w w') (hq : q < B) : Box w' q cs :=
  ⟨fun k v hv => (hb.cell (p := ⟨q, k, none⟩) hq).trans (h.at_ k v hv), fun j => (hb.frozen (p := ⟨q, j, none⟩) hq).trans (h.fr j), Nat.lt_of_lt_of_le h.lt hb.size⟩
theorem wp_normal {P : Program} {c : Code} {K : Act → World → Prop} {Q : Exit → Act → World → Prop} {a : Act} {w : World} (h : c.wp P (Exit.then K fun _ _ _ => False) a w) : c.wp P (Exit.then K Q) a w :=
  Code.wp_mono (fun e a w h => by cases e <;> first | exact h | exact h.elim) h
/-- A list in a block of its own, from base on. -/
structure Lone (base a ca n : Nat) (xs : List Int) (w : World) : Prop where
  ow : Ow w a (a + 1) 2 (some ⟨a, 0, none⟩) n ca (ints xs)
  lo : base ≤ a
  hi : a < w.heap.size
theorem Lone.below {base a ca n : Nat} {xs : List Int} {w w' : World} (h : Lone base a ca n xs w) (b : Below w.heap.size w w') : Lone base a ca n xs w' := ⟨h.ow.below b h.hi, h.lo, Nat.lt_of_lt_of_le h.hi b.size⟩
theorem Lone.set {base a ca n g k : Nat} {xs : List Int} {w : World} (h : Lone base a ca n xs w) (hg : a ≠ g) (v : Value) : Lone base a ca n xs (w.setCell ⟨g, k, none⟩ v) := by
  have hk := keepAt (Keep.refl g (g + 1) w) k v
  exact ⟨h.ow.keep hk (Nat.succ_le_of_lt h.hi) (by omega), h.lo, Nat.lt_of_lt_of_le h.hi hk.size⟩
theorem Lone.tur {base g cap n : Nat} {zs : List Int} {w w' : World} (h : Tur w n g cap zs w') (hb : base ≤ w.heap.size) (hn : 0 < n) : Lone base g cap n zs w' ∧ w.heap.size ≤ g :=
  ⟨⟨h.ow.block_, Nat.le_trans hb (h.lo hn).1, (h.lo hn).2⟩, (h.lo hn).1⟩
theorem Lone.made {base n : Nat} {w w' : World} (h : Ow w' base w'.heap.size 2 (some ⟨w.heap.size, 0, none⟩) n n (ints (List.replicate n 0))) (hb : base ≤ w.heap.size) (hn : 0 < n) : Lone base w.heap.size n n (List.replicate n 0) w' := by
  obtain ⟨g', e, -, -, hl⟩ := h.form hn
  cases e
  exact ⟨h.block_, hb, hl⟩
/-- A struct is filled. -/
theorem Sch.fill {base g a ca p cp n b : Nat} {B : Option Addr} {s us ts : List Int} {tol : Int} {w : World} {z0 z1 z2 z3 : Value} (hg : Box w g [z0, z1, z2, z3]) (la : Lone base a ca n us w) (lp : Lone base p cp n ts w) (sr : Rd w 0 base B s.length (ints s)) (ap : a ≠ p) (ag : a ≠ g) (pg : p ≠ g) (g0 : base ≤ g) :
    Sch base g a ca p cp n B b s tol us ts ((((w.setCell ⟨g, 0, none⟩ (.slice (some ⟨a, 0, none⟩) n ca)).setCell ⟨g, 1, none⟩ (.slice B s.length b)).setCell ⟨g, 2, none⟩ (.int .i64 tol)).setCell ⟨g, 3, none⟩ (.slice (some ⟨p, 0, none⟩) n cp)) := by
  have h0 := hg.set (k := 0) (.slice (some ⟨a, 0, none⟩) n ca) (by simp)
  have h1 := h0.set (k := 1) (.slice B s.length b) (by simp)
  have h2 := h1.set (k := 2) (.int .i64 tol) (by simp)
  have h3 := h2.set (k := 3) (.slice (some ⟨p, 0, none⟩) n cp) (by simp)
  have la4 := (((la.set (k := 0) ag (.slice (some ⟨a, 0, none⟩) n ca)).set (k := 1) ag (.slice B s.length b)).set (k := 2) ag (.int .i64 tol)).set (k := 3) ag (.slice (some ⟨p, 0, none⟩) n cp)
  have lp4 := (((lp.set (k := 0) pg (.slice (some ⟨a, 0, none⟩) n ca)).set (k := 1) pg (.slice B s.length b)).set (k := 2) pg (.int .i64 tol)).set (k := 3) pg (.slice (some ⟨p, 0, none⟩) n cp)
  have hk : Keep g (g + 1) w ((((w.setCell ⟨g, 0, none⟩ (.slice (some ⟨a, 0, none⟩) n ca)).setCell ⟨g, 1, none⟩ (.slice B s.length b)).setCell ⟨g, 2, none⟩ (.int .i64 tol)).setCell ⟨g, 3, none⟩ (.slice (some ⟨p, 0, none⟩) n cp)) :=
    keepAt (keepAt (keepAt (keepAt (Keep.refl g (g + 1) w) 0 _) 1 _) 2 _) 3 _
  exact ⟨h3, la4.ow, lp4.ow, sr.keep hk (Nat.le_trans la.lo (Nat.le_of_lt la.hi)) (.inl g0), ap, ag, pg, la.lo, lp.lo, g0, la4.hi, lp4.hi⟩
theorem catchI2 (r : Nat) (W : World) {u1 u2 : Value} (b0 : Box W r [u1]) (b1 : Box W (r + 1) [u2]) :
    CallsD Try.prog 72 #[.pointer (some ⟨r, 0, none⟩), .pointer (some ⟨r + 1, 0, none⟩)] .returning W fun e u' w' =>
      e = .returned (.tuple #[]) ∧ u' = .returning ∧ Box w' r [.slice none 0 0] ∧ Box w' (r + 1) [.bool false] ∧ Keep r (r + 2) W w' := by
  have b2 := b1.other (p := ⟨r, 0, none⟩) (by simp) (.slice none 0 0)
  refine (catchI ⟨r, 0, none⟩ ⟨r + 1, 0, none⟩ W u1 u2 (b0.at_ 0 _ rfl) (b0.fr 0) (b2.at_ 0 _ rfl) (b2.fr 0)).mono ?_
  rintro e u' w' ⟨rfl, rfl, rfl⟩
  exact ⟨rfl, rfl, (b0.set (k := 0) (.slice none 0 0) (by simp)).other (p := ⟨r + 1, 0, none⟩) (by simp) _, b2.set (k := 0) (.bool false) (by simp), ((Keep.refl r (r + 2) W).setCell (p := ⟨r, 0, none⟩) (Nat.le_refl _) (by simp) _).setCell (p := ⟨r + 1, 0, none⟩) (by simp) (by simp) _⟩
theorem catchP2 (r : Nat) (W : World) (A : Option Addr) (n c : Nat) (older : List PanicEntry) {u1 u2 : Value} (b0 : Box W r [u1]) (b1 : Box W (r + 1) [u2]) :
    CallsD Try.prog 72 #[.pointer (some ⟨r, 0, none⟩), .pointer (some ⟨r + 1, 0, none⟩)] (.panicking ({ v := .iface 77 (.slice A n c), recovered := false } :: older)) W fun e u' w' =>
      e = .returned (.tuple #[]) ∧ u' = .panicking ({ v := .iface 77 (.slice A n c), recovered := true } :: older) ∧ Box w' r [.slice A n c] ∧ Box w' (r + 1) [.bool true] ∧ Keep r (r + 2) W w' := by
  have b2 := b1.other (p := ⟨r, 0, none⟩) (by simp) (.slice A n c)
  refine (catchP ⟨r, 0, none⟩ ⟨r + 1, 0, none⟩ _ A n c older W u1 u2 rfl (b0.at_ 0 _ rfl) (b0.fr 0) (b2.at_ 0 _ rfl) (b2.fr 0)).mono ?_
  rintro e u' w' ⟨rfl, rfl, rfl⟩
  exact ⟨rfl, rfl, (b0.set (k := 0) (.slice A n c) (by simp)).other (p := ⟨r + 1, 0, none⟩) (by simp) _, b2.set (k := 0) (.bool true) (by simp), ((Keep.refl r (r + 2) W).setCell (p := ⟨r, 0, none⟩) (Nat.le_refl _) (by simp) _).setCell (p := ⟨r + 1, 0, none⟩) (by simp) (by simp) _⟩
theorem spendAll (base g a ca p cp n : Nat) (B : Option Addr) (b : Nat) (s : List Int) (tol : Int) (zs : List Int) (hnn : zs.length = n) (sc : s.length ≤ b) (h4 : 4 ≤ n) (h10 : n ≤ 10) (hS : Eff s) (hX : Bd 500 zs) (t0 : 0 ≤ tol) (t1 : tol ≤ 500) (k : Nat) (w : World) (H : Sch base g a ca p cp n B b s tol zs (List.replicate n 0) w) (hk : k ≤ 4) :
    Calls Try.prog 73 #[.pointer (some ⟨g, 0, none⟩), .int .i64 0, .int .i64 k] w (Spent base g a ca p cp n B b s tol zs (List.replicate n 0) (firstR zs s tol n k []) w) := by
  have e1 : padI [] n = List.replicate n 0 := rfl
  have e2 : afterI zs s (List.replicate n 0) = zs := after_zero (by simp [hnn]) (zeros_get n)
  have h := implSpend base g a ca p cp n B b s tol zs hnn sc h4 h10 hS hX t0 t1 n k [] w
  rw [e1, e2] at h
  exact h H (by simp) hk rfl
set_option maxRecDepth 100000 in
set_option maxHeartbeats 8000000 in
theorem implLeast0 (A : Option Addr) (c : Nat) (zs : List Int) (B : Option Addr) (b : Nat) (s : List Int) (tol : Int) (w : World) (L : Ls zs A c w) (L2 : Ls s B b w) (n : Nat) (hnn : zs.length = n) (h4 : 4 ≤ n) (h10 : n ≤ 10) (hS : Eff s) (hX : Bd 500 zs) (t0 : 0 ≤ tol) (t1 : tol ≤ 500) :
    Calls Try.prog 53 #[.slice A n c, .slice B s.length b, .int .i64 tol] w fun e w' => Below w.heap.size w w' ∧
      (((leastI zs s tol).length = 0 ∧ e = .returned (.tuple #[.slice none 0 0, .bool false])) ∨
       ((leastI zs s tol).length = n ∧ ∃ p cp, e = .returned (.tuple #[.slice (some ⟨p, 0, none⟩) n cp, .bool true]) ∧ Ow w' w.heap.size w'.heap.size 2 (some ⟨p, 0, none⟩) n cp (ints (leastI zs s tol)))) := by
  have hmf : ∀ (fn : Fn) (first cap : Array Value) (w : World), (Instr.makeFunc fn first cap).run Try.prog w = .ok (.func fn first cap) w := fun _ _ _ _ => rfl
  have HL := Go.Lib.hid L
  have HS := Go.Lib.hid L2
  have HCL := Go.Lib.hid (fun w0 L0 => implClone A c zs w0 L0 (by omega))
  rw [hnn] at HCL
  have hn0 : 0 < n := by omega
  obtain ⟨i0, hi, hz0, hz1, hz2⟩ := info_parts infoI64
  have HLI := Go.Lib.hid (show leastI zs s tol = leastUp (fun eff => firstR zs s tol n eff []) ((0 : Nat) : Int) (5 - 0) by unfold leastI; rw [hnn]; rfl)
  have HSP := Go.Lib.hid (fun base g a ca p cp (k : Nat) w0 (H : Sch base g a ca p cp n B b s tol zs (List.replicate n 0) w0) (hk : k ≤ 4) => spendAll base g a ca p cp n B b s tol zs hnn L2.le h4 h10 hS hX t0 t1 k w0 H hk)
  clear L L2 hS hX
  go_enter_defers Try.func53, Try.ntmps53
  have HX0 := Go.Lib.hid (show Box ((w.alloc (.cells #[.slice none 0 0] 24)).alloc (.cells #[.bool false] 4)) w.heap.size [.slice none 0 0] from (Box.new (w := w) (t := 24) (cs := #[.slice none 0 0]) rfl rfl).alloc _)
  have HX1 := Go.Lib.hid (show Box ((w.alloc (.cells #[.slice none 0 0] 24)).alloc (.cells #[.bool false] 4)) (w.heap.size + 1) [.bool false] from Box.new (by simp) rfl)
  have HB0 := Go.Lib.hid (show Below w.heap.size w ((w.alloc (.cells #[.slice none 0 0] 24)).alloc (.cells #[.bool false] 4)) from ((Below.refl _ _).alloc (Nat.le_refl _) _).alloc (by simp) _)
  go_upto_region 2 with fail
  refine wp_gen (R := fun W => Box W w.heap.size [.slice none 0 0] ∧ Box W (w.heap.size + 1) [.bool false] ∧ Below w.heap.size w W) ⟨HX0.out, HX1.out, HB0.out⟩ ?_
  rintro V ⟨hx0, hx1, hb0⟩
  have HX0 := Go.Lib.hid hx0
  have HX1 := Go.Lib.hid hx1
  have HB0 := Go.Lib.hid hb0
  have HLV := Go.Lib.hid (HL.out.below hb0)
  clear hx0 hx1 hb0
  go_cut [8] from 11 to 18 (fun s8 wx => ∃ g a ca p cp : Nat, s8 = .pointer (some ⟨g, 0, none⟩) ∧ Sch V.heap.size g a ca p cp n B b s tol zs (List.replicate n 0) wx ∧ Below V.heap.size V wx)
  case first =>
    refine wp_normal ?_
    refine wp_region_held_drew (S := fun _ => True) (by kernel_rfl) trivial (fun hHeld => ?_)
    have HBV := Go.Lib.hid (show Below V.heap.size V V.drew from below_drewN (Below.refl _ _) 1)
    have HRD := Go.Lib.hid (show Rd V 0 V.heap.size B s.length (ints s) from (HS.out.below HB0.out).rd)
    generalize V.drew = V1 at *
    refine wpAnyH_take (i := 0) (v := ?vk1) rfl (by kernel_rfl) (by kernel_rfl) (by kernel_rfl) (fun _ _ _ h => h) (Or.inl ⟨by rfl, ?hyk1⟩) (by assumption) ?restk1
    case hyk1 => (intro w hSw; (try dsimp only at hSw); go_simp; try with_reducible rfl)
    try simp only [List.getElem_toArray, List.getElem_cons_succ, List.getElem_cons_zero, Act.put, List.setIfInBounds_toArray, List.set_cons_zero, List.set_cons_succ]
    refine wpAnyH_take (i := 2) (v := ?vk2) rfl (by kernel_rfl) (by kernel_rfl) (by kernel_rfl) (fun _ _ _ h => h) (Or.inl ⟨by rfl, ?hyk2⟩) (by assumption) ?restk2
    case hyk2 => (intro w hSw; (try dsimp only at hSw); go_simp; try with_reducible rfl)
    try simp only [List.getElem_toArray, List.getElem_cons_succ, List.getElem_cons_zero, Act.put, List.setIfInBounds_toArray, List.set_cons_zero, List.set_cons_succ]
    refine wpAnyH_take (i := 3) (v := ?vk3) rfl (by kernel_rfl) (by kernel_rfl) (by kernel_rfl) (fun _ _ _ h => h) (Or.inl ⟨by rfl, ?hyk3⟩) (by assumption) ?restk3
    case hyk3 => (intro w hSw; (try dsimp only at hSw); go_simp; try with_reducible rfl)
    try simp only [List.getElem_toArray, List.getElem_cons_succ, List.getElem_cons_zero, Act.put, List.setIfInBounds_toArray, List.set_cons_zero, List.set_cons_succ]
    refine wpAnyH_take (i := 4) (v := ?vk4) rfl (by kernel_rfl) (by kernel_rfl) (by kernel_rfl) (fun _ _ _ h => h) (Or.inl ⟨by rfl, ?hyk4⟩) (by assumption) ?restk4
    case hyk4 => (intro w hSw; (try dsimp only at hSw); go_simp; try with_reducible rfl)
    try simp only [List.getElem_toArray, List.getElem_cons_succ, List.getElem_cons_zero, Act.put, List.setIfInBounds_toArray, List.set_cons_zero, List.set_cons_succ]
    refine wpAnyH_take (i := 5) (v := ?vk5) rfl (by kernel_rfl) (by kernel_rfl) (by kernel_rfl) (fun _ _ _ h => h) (Or.inl ⟨by rfl, ?hyk5⟩) (by assumption) ?restk5
    case hyk5 => (intro w hSw; (try dsimp only at hSw); go_simp; try with_reducible rfl)
    try simp only [List.getElem_toArray, List.getElem_cons_succ, List.getElem_cons_zero, Act.put, List.setIfInBounds_toArray, List.set_cons_zero, List.set_cons_succ]
    refine wpAnyH_ready (rs := [1, 6, 8]) (by kernel_rfl) (by simp) ?_
    refine AllReadyH.cons rfl (fun K hK => ?_) (AllReadyH.cons rfl (fun K hK => ?_) (AllReadyH.cons rfl (fun K hK => ?_) AllReadyH.nil))
    · go_simp
      (go_at_call 58; refine (HCL.out _ (HLV.out.below HBV.out)).mono ?_; rintro _ wc ⟨a, ca, rfl, ht⟩)
      obtain ⟨hl1, hl2⟩ := Lone.tur ht HBV.out.size hn0
      have HSTEP := Go.Lib.hid ht.b
      have HDA := Go.Lib.hid hl2
      have HA := Go.Lib.hid hl1
      have HBV := Go.Lib.hid (HBV.out.trans (HSTEP.out.mono HBV.out.size))
      clear ht hl1 hl2 HSTEP
      refine hK.out _ _ ?_ (fun hHeld => ?_)
      · trivial
      clear hK K
      try simp only [List.getElem_toArray, List.getElem_cons_succ, List.getElem_cons_zero, Act.put, List.setIfInBounds_toArray, List.set_cons_zero, List.set_cons_succ]
      refine wpAnyH_ready (rs := [6, 8]) (by kernel_rfl) (by simp) ?_
      refine AllReadyH.cons rfl (fun K hK => ?_) (AllReadyH.cons rfl (fun K hK => ?_) AllReadyH.nil)
      · have hdap := HA.out.hi
        rw [if_pos (by rfl)]
        refine op_make_full _ _ _ 24 rfl V.heap.size 2 i0 (.int .i64 0) 1 Try.underlying24 hi hz0 hz1 .i64 .i64 _ _ n rfl rfl rfl rfl (by rw [hz2]; omega) (by unfold maxLen; omega) HBV.out.size ?_
        intro wm hown hg
        have HSTEP := Go.Lib.hid (show Below _ _ wm from (Below.refl _ _).grown hg (Nat.le_refl _) (by simp))
        have HP := Go.Lib.hid (Lone.made (made_zero hown) HBV.out.size hn0)
        clear hown hg
        have HA := Go.Lib.hid (HA.out.below HSTEP.out)
        have HBV := Go.Lib.hid (HBV.out.trans (HSTEP.out.mono HBV.out.size))
        clear HSTEP
        refine hK.out _ _ ?_ (fun hHeld => ?_)
        · trivial
        clear hK K
        try simp only [List.getElem_toArray, List.getElem_cons_succ, List.getElem_cons_zero, Act.put, List.setIfInBounds_toArray, List.set_cons_zero, List.set_cons_succ]
        refine wpAnyH_take (i := 7) (v := ?vk6) rfl (by kernel_rfl) (by kernel_rfl) (by kernel_rfl) (fun _ _ _ h => h) (Or.inl ⟨by rfl, ?hyk6⟩) (by assumption) ?restk6
        case hyk6 => (intro w hSw; (try dsimp only at hSw); go_simp; try with_reducible rfl)
        try simp only [List.getElem_toArray, List.getElem_cons_succ, List.getElem_cons_zero, Act.put, List.setIfInBounds_toArray, List.set_cons_zero, List.set_cons_succ]
        refine wpAnyH_ready (rs := [8]) (by kernel_rfl) (by simp) ?_
        refine AllReadyH.cons rfl (fun K hK => ?_) AllReadyH.nil
        have hdag := HA.out.hi
        have hdpg := HP.out.hi
        go_simp
        have HSTEP := Go.Lib.hid (show Below wm.heap.size wm (World.alloc wm (.cells #[.slice none 0 0, .slice none 0 0, .int .i64 0, .slice none 0 0] 80)) from (Below.refl _ _).alloc (Nat.le_refl _) _)
        have HG := Go.Lib.hid (show Box (World.alloc wm (.cells #[.slice none 0 0, .slice none 0 0, .int .i64 0, .slice none 0 0] 80)) wm.heap.size [.slice none 0 0, .slice none 0 0, .int .i64 0, .slice none 0 0] from Box.new rfl rfl)
        have HGL := Go.Lib.hid (show V.heap.size ≤ wm.heap.size from HBV.out.size)
        generalize World.alloc wm (.cells #[.slice none 0 0, .slice none 0 0, .int .i64 0, .slice none 0 0] 80) = wa at *
        have HA := Go.Lib.hid (HA.out.below HSTEP.out)
        have HP := Go.Lib.hid (HP.out.below HSTEP.out)
        have HBV := Go.Lib.hid (HBV.out.trans (HSTEP.out.mono HBV.out.size))
        clear HSTEP
        refine hK.out _ _ ?_ (fun hHeld => ?_)
        · trivial
        clear hK K
        try simp only [List.getElem_toArray, List.getElem_cons_succ, List.getElem_cons_zero, Act.put, List.setIfInBounds_toArray, List.set_cons_zero, List.set_cons_succ]
        refine wpAnyH_ready (rs := [9]) (by kernel_rfl) (by simp) ?_
        refine AllReadyH.cons rfl (fun K hK => ?_) AllReadyH.nil
        have hg0 : wa.cell? ⟨wm.heap.size, 0, none⟩ = some (.slice none 0 0) := HG.out.at_ 0 _ rfl
        have hg1 : wa.cell? ⟨wm.heap.size, 1, none⟩ = some (.slice none 0 0) := HG.out.at_ 1 _ rfl
        have hg2 : wa.cell? ⟨wm.heap.size, 2, none⟩ = some (.int .i64 0) := HG.out.at_ 2 _ rfl
        have hg3 : wa.cell? ⟨wm.heap.size, 3, none⟩ = some (.slice none 0 0) := HG.out.at_ 3 _ rfl
        have hf0 := HG.out.fr 0
        have hf1 := HG.out.fr 1
        have hf2 := HG.out.fr 2
        have hf3 := HG.out.fr 3
        have hda := HDA.out
        have HSCH := Go.Lib.hid (show Sch V.heap.size (wm.heap.size) a ca (wc.heap.size) n n B b s tol zs (List.replicate n 0) ((((wa.setCell ⟨wm.heap.size, 0, none⟩ (.slice (some ⟨a, 0, none⟩) n ca)).setCell ⟨wm.heap.size, 1, none⟩ (.slice B s.length b)).setCell ⟨wm.heap.size, 2, none⟩ (.int .i64 tol)).setCell ⟨wm.heap.size, 3, none⟩ (.slice (some ⟨wc.heap.size, 0, none⟩) n n)) from Sch.fill HG.out HA.out HP.out (HRD.out.below HBV.out (Nat.le_refl _)) (by omega) (by omega) (by omega) HGL.out)
        have HBF := Go.Lib.hid (show Below V.heap.size V ((((wa.setCell ⟨wm.heap.size, 0, none⟩ (.slice (some ⟨a, 0, none⟩) n ca)).setCell ⟨wm.heap.size, 1, none⟩ (.slice B s.length b)).setCell ⟨wm.heap.size, 2, none⟩ (.int .i64 tol)).setCell ⟨wm.heap.size, 3, none⟩ (.slice (some ⟨wc.heap.size, 0, none⟩) n n)) from (((HBV.out.setCell (p := ⟨wm.heap.size, 0, none⟩) HGL.out _).setCell (p := ⟨wm.heap.size, 1, none⟩) HGL.out _).setCell (p := ⟨wm.heap.size, 2, none⟩) HGL.out _).setCell (p := ⟨wm.heap.size, 3, none⟩) HGL.out _)
        go_simp
        refine hK.out _ _ ?_ (fun hHeld => ?_)
        · trivial
        clear hK K
        try simp only [List.getElem_toArray, List.getElem_cons_succ, List.getElem_cons_zero, Act.put, List.setIfInBounds_toArray, List.set_cons_zero, List.set_cons_succ]
        refine wpAnyH_done (by kernel_rfl) ?_ _
        go_wp2_with fail
        go_meet
        case rel => exact ⟨wm.heap.size, a, ca, wc.heap.size, n, rfl, HSCH.out, HBF.out⟩
      · have hdag := HA.out.hi
        go_simp
        have HSTEP := Go.Lib.hid (show Below wc.heap.size wc (World.alloc wc (.cells #[.slice none 0 0, .slice none 0 0, .int .i64 0, .slice none 0 0] 80)) from (Below.refl _ _).alloc (Nat.le_refl _) _)
        have HG := Go.Lib.hid (show Box (World.alloc wc (.cells #[.slice none 0 0, .slice none 0 0, .int .i64 0, .slice none 0 0] 80)) wc.heap.size [.slice none 0 0, .slice none 0 0, .int .i64 0, .slice none 0 0] from Box.new rfl rfl)
        have HGL := Go.Lib.hid (show V.heap.size ≤ wc.heap.size from HBV.out.size)
        generalize World.alloc wc (.cells #[.slice none 0 0, .slice none 0 0, .int .i64 0, .slice none 0 0] 80) = wa at *
        have HA := Go.Lib.hid (HA.out.below HSTEP.out)
        have HBV := Go.Lib.hid (HBV.out.trans (HSTEP.out.mono HBV.out.size))
        clear HSTEP
        refine hK.out _ _ ?_ (fun hHeld => ?_)
        · trivial
        clear hK K
        try simp only [List.getElem_toArray, List.getElem_cons_succ, List.getElem_cons_zero, Act.put, List.setIfInBounds_toArray, List.set_cons_zero, List.set_cons_succ]
        refine wpAnyH_ready (rs := [6]) (by kernel_rfl) (by simp) ?_
        refine AllReadyH.cons rfl (fun K hK => ?_) AllReadyH.nil
        have hdap := HA.out.hi
        have hdgp := HG.out.lt
        rw [if_pos (by rfl)]
        refine op_make_full _ _ _ 24 rfl V.heap.size 2 i0 (.int .i64 0) 1 Try.underlying24 hi hz0 hz1 .i64 .i64 _ _ n rfl rfl rfl rfl (by rw [hz2]; omega) (by unfold maxLen; omega) HBV.out.size ?_
        intro wm hown hg
        have HSTEP := Go.Lib.hid (show Below _ _ wm from (Below.refl _ _).grown hg (Nat.le_refl _) (by simp))
        have HP := Go.Lib.hid (Lone.made (made_zero hown) HBV.out.size hn0)
        clear hown hg
        have HA := Go.Lib.hid (HA.out.below HSTEP.out)
        have HG := Go.Lib.hid (HG.out.below HSTEP.out)
        have HBV := Go.Lib.hid (HBV.out.trans (HSTEP.out.mono HBV.out.size))
        clear HSTEP
        refine hK.out _ _ ?_ (fun hHeld => ?_)
        · trivial
        clear hK K
        try simp only [List.getElem_toArray, List.getElem_cons_succ, List.getElem_cons_zero, Act.put, List.setIfInBounds_toArray, List.set_cons_zero, List.set_cons_succ]
        refine wpAnyH_take (i := 7) (v := ?vk7) rfl (by kernel_rfl) (by kernel_rfl) (by kernel_rfl) (fun _ _ _ h => h) (Or.inl ⟨by rfl, ?hyk7⟩) (by assumption) ?restk7
        case hyk7 => (intro w hSw; (try dsimp only at hSw); go_simp; try with_reducible rfl)
        try simp only [List.getElem_toArray, List.getElem_cons_succ, List.getElem_cons_zero, Act.put, List.setIfInBounds_toArray, List.set_cons_zero, List.set_cons_succ]
        refine wpAnyH_ready (rs := [9]) (by kernel_rfl) (by simp) ?_
        refine AllReadyH.cons rfl (fun K hK => ?_) AllReadyH.nil
        have hg0 : wm.cell? ⟨wc.heap.size, 0, none⟩ = some (.slice none 0 0) := HG.out.at_ 0 _ rfl
        have hg1 : wm.cell? ⟨wc.heap.size, 1, none⟩ = some (.slice none 0 0) := HG.out.at_ 1 _ rfl
        have hg2 : wm.cell? ⟨wc.heap.size, 2, none⟩ = some (.int .i64 0) := HG.out.at_ 2 _ rfl
        have hg3 : wm.cell? ⟨wc.heap.size, 3, none⟩ = some (.slice none 0 0) := HG.out.at_ 3 _ rfl
        have hf0 := HG.out.fr 0
        have hf1 := HG.out.fr 1
        have hf2 := HG.out.fr 2
        have hf3 := HG.out.fr 3
        have hda := HDA.out
        have HSCH := Go.Lib.hid (show Sch V.heap.size (wc.heap.size) a ca (wa.heap.size) n n B b s tol zs (List.replicate n 0) ((((wm.setCell ⟨wc.heap.size, 0, none⟩ (.slice (some ⟨a, 0, none⟩) n ca)).setCell ⟨wc.heap.size, 1, none⟩ (.slice B s.length b)).setCell ⟨wc.heap.size, 2, none⟩ (.int .i64 tol)).setCell ⟨wc.heap.size, 3, none⟩ (.slice (some ⟨wa.heap.size, 0, none⟩) n n)) from Sch.fill HG.out HA.out HP.out (HRD.out.below HBV.out (Nat.le_refl _)) (by omega) (by omega) (by omega) HGL.out)
        have HBF := Go.Lib.hid (show Below V.heap.size V ((((wm.setCell ⟨wc.heap.size, 0, none⟩ (.slice (some ⟨a, 0, none⟩) n ca)).setCell ⟨wc.heap.size, 1, none⟩ (.slice B s.length b)).setCell ⟨wc.heap.size, 2, none⟩ (.int .i64 tol)).setCell ⟨wc.heap.size, 3, none⟩ (.slice (some ⟨wa.heap.size, 0, none⟩) n n)) from (((HBV.out.setCell (p := ⟨wc.heap.size, 0, none⟩) HGL.out _).setCell (p := ⟨wc.heap.size, 1, none⟩) HGL.out _).setCell (p := ⟨wc.heap.size, 2, none⟩) HGL.out _).setCell (p := ⟨wc.heap.size, 3, none⟩) HGL.out _)
        go_simp
        refine hK.out _ _ ?_ (fun hHeld => ?_)
        · trivial
        clear hK K
        try simp only [List.getElem_toArray, List.getElem_cons_succ, List.getElem_cons_zero, Act.put, List.setIfInBounds_toArray, List.set_cons_zero, List.set_cons_succ]
        refine wpAnyH_done (by kernel_rfl) ?_ _
        go_wp2_with fail
        go_meet
        case rel => exact ⟨wc.heap.size, a, ca, wa.heap.size, n, rfl, HSCH.out, HBF.out⟩
    · rw [if_pos (by rfl)]
      refine op_make_full _ _ _ 24 rfl V.heap.size 2 i0 (.int .i64 0) 1 Try.underlying24 hi hz0 hz1 .i64 .i64 _ _ n rfl rfl rfl rfl (by rw [hz2]; omega) (by unfold maxLen; omega) HBV.out.size ?_
      intro wm hown hg
      have HSTEP := Go.Lib.hid (show Below _ _ wm from (Below.refl _ _).grown hg (Nat.le_refl _) (by simp))
      have HP := Go.Lib.hid (Lone.made (made_zero hown) HBV.out.size hn0)
      clear hown hg
      have HBV := Go.Lib.hid (HBV.out.trans (HSTEP.out.mono HBV.out.size))
      clear HSTEP
      refine hK.out _ _ ?_ (fun hHeld => ?_)
      · trivial
      clear hK K
      try simp only [List.getElem_toArray, List.getElem_cons_succ, List.getElem_cons_zero, Act.put, List.setIfInBounds_toArray, List.set_cons_zero, List.set_cons_succ]
      refine wpAnyH_ready (rs := [1, 8]) (by kernel_rfl) (by simp) ?_
      refine AllReadyH.cons rfl (fun K hK => ?_) (AllReadyH.cons rfl (fun K hK => ?_) AllReadyH.nil)
      · have hdpa := HP.out.hi
        go_simp
        (go_at_call 58; refine (HCL.out _ (HLV.out.below HBV.out)).mono ?_; rintro _ wc ⟨a, ca, rfl, ht⟩)
        obtain ⟨hl1, hl2⟩ := Lone.tur ht HBV.out.size hn0
        have HSTEP := Go.Lib.hid ht.b
        have HDA := Go.Lib.hid hl2
        have HA := Go.Lib.hid hl1
        have HP := Go.Lib.hid (HP.out.below HSTEP.out)
        have HBV := Go.Lib.hid (HBV.out.trans (HSTEP.out.mono HBV.out.size))
        clear ht hl1 hl2 HSTEP
        refine hK.out _ _ ?_ (fun hHeld => ?_)
        · trivial
        clear hK K
        try simp only [List.getElem_toArray, List.getElem_cons_succ, List.getElem_cons_zero, Act.put, List.setIfInBounds_toArray, List.set_cons_zero, List.set_cons_succ]
        refine wpAnyH_take (i := 7) (v := ?vk8) rfl (by kernel_rfl) (by kernel_rfl) (by kernel_rfl) (fun _ _ _ h => h) (Or.inl ⟨by rfl, ?hyk8⟩) (by assumption) ?restk8
        case hyk8 => (intro w hSw; (try dsimp only at hSw); go_simp; try with_reducible rfl)
        try simp only [List.getElem_toArray, List.getElem_cons_succ, List.getElem_cons_zero, Act.put, List.setIfInBounds_toArray, List.set_cons_zero, List.set_cons_succ]
        refine wpAnyH_ready (rs := [8]) (by kernel_rfl) (by simp) ?_
        refine AllReadyH.cons rfl (fun K hK => ?_) AllReadyH.nil
        have hdag := HA.out.hi
        have hdpg := HP.out.hi
        go_simp
        have HSTEP := Go.Lib.hid (show Below wc.heap.size wc (World.alloc wc (.cells #[.slice none 0 0, .slice none 0 0, .int .i64 0, .slice none 0 0] 80)) from (Below.refl _ _).alloc (Nat.le_refl _) _)
        have HG := Go.Lib.hid (show Box (World.alloc wc (.cells #[.slice none 0 0, .slice none 0 0, .int .i64 0, .slice none 0 0] 80)) wc.heap.size [.slice none 0 0, .slice none 0 0, .int .i64 0, .slice none 0 0] from Box.new rfl rfl)
        have HGL := Go.Lib.hid (show V.heap.size ≤ wc.heap.size from HBV.out.size)
        generalize World.alloc wc (.cells #[.slice none 0 0, .slice none 0 0, .int .i64 0, .slice none 0 0] 80) = wa at *
        have HA := Go.Lib.hid (HA.out.below HSTEP.out)
        have HP := Go.Lib.hid (HP.out.below HSTEP.out)
        have HBV := Go.Lib.hid (HBV.out.trans (HSTEP.out.mono HBV.out.size))
        clear HSTEP
        refine hK.out _ _ ?_ (fun hHeld => ?_)
        · trivial
        clear hK K
        try simp only [List.getElem_toArray, List.getElem_cons_succ, List.getElem_cons_zero, Act.put, List.setIfInBounds_toArray, List.set_cons_zero, List.set_cons_succ]
        refine wpAnyH_ready (rs := [9]) (by kernel_rfl) (by simp) ?_
        refine AllReadyH.cons rfl (fun K hK => ?_) AllReadyH.nil
        have hg0 : wa.cell? ⟨wc.heap.size, 0, none⟩ = some (.slice none 0 0) := HG.out.at_ 0 _ rfl
        have hg1 : wa.cell? ⟨wc.heap.size, 1, none⟩ = some (.slice none 0 0) := HG.out.at_ 1 _ rfl
        have hg2 : wa.cell? ⟨wc.heap.size, 2, none⟩ = some (.int .i64 0) := HG.out.at_ 2 _ rfl
        have hg3 : wa.cell? ⟨wc.heap.size, 3, none⟩ = some (.slice none 0 0) := HG.out.at_ 3 _ rfl
        have hf0 := HG.out.fr 0
        have hf1 := HG.out.fr 1
        have hf2 := HG.out.fr 2
        have hf3 := HG.out.fr 3
        have hda := HDA.out
        have HSCH := Go.Lib.hid (show Sch V.heap.size (wc.heap.size) a ca (V1.heap.size) n n B b s tol zs (List.replicate n 0) ((((wa.setCell ⟨wc.heap.size, 0, none⟩ (.slice (some ⟨a, 0, none⟩) n ca)).setCell ⟨wc.heap.size, 1, none⟩ (.slice B s.length b)).setCell ⟨wc.heap.size, 2, none⟩ (.int .i64 tol)).setCell ⟨wc.heap.size, 3, none⟩ (.slice (some ⟨V1.heap.size, 0, none⟩) n n)) from Sch.fill HG.out HA.out HP.out (HRD.out.below HBV.out (Nat.le_refl _)) (by omega) (by omega) (by omega) HGL.out)
        have HBF := Go.Lib.hid (show Below V.heap.size V ((((wa.setCell ⟨wc.heap.size, 0, none⟩ (.slice (some ⟨a, 0, none⟩) n ca)).setCell ⟨wc.heap.size, 1, none⟩ (.slice B s.length b)).setCell ⟨wc.heap.size, 2, none⟩ (.int .i64 tol)).setCell ⟨wc.heap.size, 3, none⟩ (.slice (some ⟨V1.heap.size, 0, none⟩) n n)) from (((HBV.out.setCell (p := ⟨wc.heap.size, 0, none⟩) HGL.out _).setCell (p := ⟨wc.heap.size, 1, none⟩) HGL.out _).setCell (p := ⟨wc.heap.size, 2, none⟩) HGL.out _).setCell (p := ⟨wc.heap.size, 3, none⟩) HGL.out _)
        go_simp
        refine hK.out _ _ ?_ (fun hHeld => ?_)
        · trivial
        clear hK K
        try simp only [List.getElem_toArray, List.getElem_cons_succ, List.getElem_cons_zero, Act.put, List.setIfInBounds_toArray, List.set_cons_zero, List.set_cons_succ]
        refine wpAnyH_done (by kernel_rfl) ?_ _
        go_wp2_with fail
        go_meet
        case rel => exact ⟨wc.heap.size, a, ca, V1.heap.size, n, rfl, HSCH.out, HBF.out⟩
      · have hdpg := HP.out.hi
        go_simp
        have HSTEP := Go.Lib.hid (show Below wm.heap.size wm (World.alloc wm (.cells #[.slice none 0 0, .slice none 0 0, .int .i64 0, .slice none 0 0] 80)) from (Below.refl _ _).alloc (Nat.le_refl _) _)
        have HG := Go.Lib.hid (show Box (World.alloc wm (.cells #[.slice none 0 0, .slice none 0 0, .int .i64 0, .slice none 0 0] 80)) wm.heap.size [.slice none 0 0, .slice none 0 0, .int .i64 0, .slice none 0 0] from Box.new rfl rfl)
        have HGL := Go.Lib.hid (show V.heap.size ≤ wm.heap.size from HBV.out.size)
        generalize World.alloc wm (.cells #[.slice none 0 0, .slice none 0 0, .int .i64 0, .slice none 0 0] 80) = wa at *
        have HP := Go.Lib.hid (HP.out.below HSTEP.out)
        have HBV := Go.Lib.hid (HBV.out.trans (HSTEP.out.mono HBV.out.size))
        clear HSTEP
        refine hK.out _ _ ?_ (fun hHeld => ?_)
        · trivial
        clear hK K
        try simp only [List.getElem_toArray, List.getElem_cons_succ, List.getElem_cons_zero, Act.put, List.setIfInBounds_toArray, List.set_cons_zero, List.set_cons_succ]
        refine wpAnyH_ready (rs := [1]) (by kernel_rfl) (by simp) ?_
        refine AllReadyH.cons rfl (fun K hK => ?_) AllReadyH.nil
        have hdpa := HP.out.hi
        have hdga := HG.out.lt
        go_simp
        (go_at_call 58; refine (HCL.out _ (HLV.out.below HBV.out)).mono ?_; rintro _ wc ⟨a, ca, rfl, ht⟩)
        obtain ⟨hl1, hl2⟩ := Lone.tur ht HBV.out.size hn0
        have HSTEP := Go.Lib.hid ht.b
        have HDA := Go.Lib.hid hl2
        have HA := Go.Lib.hid hl1
        have HP := Go.Lib.hid (HP.out.below HSTEP.out)
        have HG := Go.Lib.hid (HG.out.below HSTEP.out)
        have HBV := Go.Lib.hid (HBV.out.trans (HSTEP.out.mono HBV.out.size))
        clear ht hl1 hl2 HSTEP
        refine hK.out _ _ ?_ (fun hHeld => ?_)
        · trivial
        clear hK K
        try simp only [List.getElem_toArray, List.getElem_cons_succ, List.getElem_cons_zero, Act.put, List.setIfInBounds_toArray, List.set_cons_zero, List.set_cons_succ]
        refine wpAnyH_take (i := 7) (v := ?vk9) rfl (by kernel_rfl) (by kernel_rfl) (by kernel_rfl) (fun _ _ _ h => h) (Or.inl ⟨by rfl, ?hyk9⟩) (by assumption) ?restk9
        case hyk9 => (intro w hSw; (try dsimp only at hSw); go_simp; try with_reducible rfl)
        try simp only [List.getElem_toArray, List.getElem_cons_succ, List.getElem_cons_zero, Act.put, List.setIfInBounds_toArray, List.set_cons_zero, List.set_cons_succ]
        refine wpAnyH_ready (rs := [9]) (by kernel_rfl) (by simp) ?_
        refine AllReadyH.cons rfl (fun K hK => ?_) AllReadyH.nil
        have hg0 : wc.cell? ⟨wm.heap.size, 0, none⟩ = some (.slice none 0 0) := HG.out.at_ 0 _ rfl
        have hg1 : wc.cell? ⟨wm.heap.size, 1, none⟩ = some (.slice none 0 0) := HG.out.at_ 1 _ rfl
        have hg2 : wc.cell? ⟨wm.heap.size, 2, none⟩ = some (.int .i64 0) := HG.out.at_ 2 _ rfl
        have hg3 : wc.cell? ⟨wm.heap.size, 3, none⟩ = some (.slice none 0 0) := HG.out.at_ 3 _ rfl
        have hf0 := HG.out.fr 0
        have hf1 := HG.out.fr 1
        have hf2 := HG.out.fr 2
        have hf3 := HG.out.fr 3
        have hda := HDA.out
        have HSCH := Go.Lib.hid (show Sch V.heap.size (wm.heap.size) a ca (V1.heap.size) n n B b s tol zs (List.replicate n 0) ((((wc.setCell ⟨wm.heap.size, 0, none⟩ (.slice (some ⟨a, 0, none⟩) n ca)).setCell ⟨wm.heap.size, 1, none⟩ (.slice B s.length b)).setCell ⟨wm.heap.size, 2, none⟩ (.int .i64 tol)).setCell ⟨wm.heap.size, 3, none⟩ (.slice (some ⟨V1.heap.size, 0, none⟩) n n)) from Sch.fill HG.out HA.out HP.out (HRD.out.below HBV.out (Nat.le_refl _)) (by omega) (by omega) (by omega) HGL.out)
        have HBF := Go.Lib.hid (show Below V.heap.size V ((((wc.setCell ⟨wm.heap.size, 0, none⟩ (.slice (some ⟨a, 0, none⟩) n ca)).setCell ⟨wm.heap.size, 1, none⟩ (.slice B s.length b)).setCell ⟨wm.heap.size, 2, none⟩ (.int .i64 tol)).setCell ⟨wm.heap.size, 3, none⟩ (.slice (some ⟨V1.heap.size, 0, none⟩) n n)) from (((HBV.out.setCell (p := ⟨wm.heap.size, 0, none⟩) HGL.out _).setCell (p := ⟨wm.heap.size, 1, none⟩) HGL.out _).setCell (p := ⟨wm.heap.size, 2, none⟩) HGL.out _).setCell (p := ⟨wm.heap.size, 3, none⟩) HGL.out _)
        go_simp
        refine hK.out _ _ ?_ (fun hHeld => ?_)
        · trivial
        clear hK K
        try simp only [List.getElem_toArray, List.getElem_cons_succ, List.getElem_cons_zero, Act.put, List.setIfInBounds_toArray, List.set_cons_zero, List.set_cons_succ]
        refine wpAnyH_done (by kernel_rfl) ?_ _
        go_wp2_with fail
        go_meet
        case rel => exact ⟨wm.heap.size, a, ca, V1.heap.size, n, rfl, HSCH.out, HBF.out⟩
    · go_simp
      have HSTEP := Go.Lib.hid (show Below V1.heap.size V1 (World.alloc V1 (.cells #[.slice none 0 0, .slice none 0 0, .int .i64 0, .slice none 0 0] 80)) from (Below.refl _ _).alloc (Nat.le_refl _) _)
      have HG := Go.Lib.hid (show Box (World.alloc V1 (.cells #[.slice none 0 0, .slice none 0 0, .int .i64 0, .slice none 0 0] 80)) V1.heap.size [.slice none 0 0, .slice none 0 0, .int .i64 0, .slice none 0 0] from Box.new rfl rfl)
      have HGL := Go.Lib.hid (show V.heap.size ≤ V1.heap.size from HBV.out.size)
      generalize World.alloc V1 (.cells #[.slice none 0 0, .slice none 0 0, .int .i64 0, .slice none 0 0] 80) = wa at *
      have HBV := Go.Lib.hid (HBV.out.trans (HSTEP.out.mono HBV.out.size))
      clear HSTEP
      refine hK.out _ _ ?_ (fun hHeld => ?_)
      · trivial
      clear hK K
      try simp only [List.getElem_toArray, List.getElem_cons_succ, List.getElem_cons_zero, Act.put, List.setIfInBounds_toArray, List.set_cons_zero, List.set_cons_succ]
      refine wpAnyH_ready (rs := [1, 6]) (by kernel_rfl) (by simp) ?_
      refine AllReadyH.cons rfl (fun K hK => ?_) (AllReadyH.cons rfl (fun K hK => ?_) AllReadyH.nil)
      · have hdga := HG.out.lt
        go_simp
        (go_at_call 58; refine (HCL.out _ (HLV.out.below HBV.out)).mono ?_; rintro _ wc ⟨a, ca, rfl, ht⟩)
        obtain ⟨hl1, hl2⟩ := Lone.tur ht HBV.out.size hn0
        have HSTEP := Go.Lib.hid ht.b
        have HDA := Go.Lib.hid hl2
        have HA := Go.Lib.hid hl1
        have HG := Go.Lib.hid (HG.out.below HSTEP.out)
        have HBV := Go.Lib.hid (HBV.out.trans (HSTEP.out.mono HBV.out.size))
        clear ht hl1 hl2 HSTEP
        refine hK.out _ _ ?_ (fun hHeld => ?_)
        · trivial
        clear hK K
        try simp only [List.getElem_toArray, List.getElem_cons_succ, List.getElem_cons_zero, Act.put, List.setIfInBounds_toArray, List.set_cons_zero, List.set_cons_succ]
        refine wpAnyH_ready (rs := [6]) (by kernel_rfl) (by simp) ?_
        refine AllReadyH.cons rfl (fun K hK => ?_) AllReadyH.nil
        have hdap := HA.out.hi
        have hdgp := HG.out.lt
        rw [if_pos (by rfl)]
        refine op_make_full _ _ _ 24 rfl V.heap.size 2 i0 (.int .i64 0) 1 Try.underlying24 hi hz0 hz1 .i64 .i64 _ _ n rfl rfl rfl rfl (by rw [hz2]; omega) (by unfold maxLen; omega) HBV.out.size ?_
        intro wm hown hg
        have HSTEP := Go.Lib.hid (show Below _ _ wm from (Below.refl _ _).grown hg (Nat.le_refl _) (by simp))
        have HP := Go.Lib.hid (Lone.made (made_zero hown) HBV.out.size hn0)
        clear hown hg
        have HA := Go.Lib.hid (HA.out.below HSTEP.out)
        have HG := Go.Lib.hid (HG.out.below HSTEP.out)
        have HBV := Go.Lib.hid (HBV.out.trans (HSTEP.out.mono HBV.out.size))
        clear HSTEP
        refine hK.out _ _ ?_ (fun hHeld => ?_)
        · trivial
        clear hK K
        try simp only [List.getElem_toArray, List.getElem_cons_succ, List.getElem_cons_zero, Act.put, List.setIfInBounds_toArray, List.set_cons_zero, List.set_cons_succ]
        refine wpAnyH_take (i := 7) (v := ?vk10) rfl (by kernel_rfl) (by kernel_rfl) (by kernel_rfl) (fun _ _ _ h => h) (Or.inl ⟨by rfl, ?hyk10⟩) (by assumption) ?restk10
        case hyk10 => (intro w hSw; (try dsimp only at hSw); go_simp; try with_reducible rfl)
        try simp only [List.getElem_toArray, List.getElem_cons_succ, List.getElem_cons_zero, Act.put, List.setIfInBounds_toArray, List.set_cons_zero, List.set_cons_succ]
        refine wpAnyH_ready (rs := [9]) (by kernel_rfl) (by simp) ?_
        refine AllReadyH.cons rfl (fun K hK => ?_) AllReadyH.nil
        have hg0 : wm.cell? ⟨V1.heap.size, 0, none⟩ = some (.slice none 0 0) := HG.out.at_ 0 _ rfl
        have hg1 : wm.cell? ⟨V1.heap.size, 1, none⟩ = some (.slice none 0 0) := HG.out.at_ 1 _ rfl
        have hg2 : wm.cell? ⟨V1.heap.size, 2, none⟩ = some (.int .i64 0) := HG.out.at_ 2 _ rfl
        have hg3 : wm.cell? ⟨V1.heap.size, 3, none⟩ = some (.slice none 0 0) := HG.out.at_ 3 _ rfl
        have hf0 := HG.out.fr 0
        have hf1 := HG.out.fr 1
        have hf2 := HG.out.fr 2
        have hf3 := HG.out.fr 3
        have hda := HDA.out
        have HSCH := Go.Lib.hid (show Sch V.heap.size (V1.heap.size) a ca (wc.heap.size) n n B b s tol zs (List.replicate n 0) ((((wm.setCell ⟨V1.heap.size, 0, none⟩ (.slice (some ⟨a, 0, none⟩) n ca)).setCell ⟨V1.heap.size, 1, none⟩ (.slice B s.length b)).setCell ⟨V1.heap.size, 2, none⟩ (.int .i64 tol)).setCell ⟨V1.heap.size, 3, none⟩ (.slice (some ⟨wc.heap.size, 0, none⟩) n n)) from Sch.fill HG.out HA.out HP.out (HRD.out.below HBV.out (Nat.le_refl _)) (by omega) (by omega) (by omega) HGL.out)
        have HBF := Go.Lib.hid (show Below V.heap.size V ((((wm.setCell ⟨V1.heap.size, 0, none⟩ (.slice (some ⟨a, 0, none⟩) n ca)).setCell ⟨V1.heap.size, 1, none⟩ (.slice B s.length b)).setCell ⟨V1.heap.size, 2, none⟩ (.int .i64 tol)).setCell ⟨V1.heap.size, 3, none⟩ (.slice (some ⟨wc.heap.size, 0, none⟩) n n)) from (((HBV.out.setCell (p := ⟨V1.heap.size, 0, none⟩) HGL.out _).setCell (p := ⟨V1.heap.size, 1, none⟩) HGL.out _).setCell (p := ⟨V1.heap.size, 2, none⟩) HGL.out _).setCell (p := ⟨V1.heap.size, 3, none⟩) HGL.out _)
        go_simp
        refine hK.out _ _ ?_ (fun hHeld => ?_)
        · trivial
        clear hK K
        try simp only [List.getElem_toArray, List.getElem_cons_succ, List.getElem_cons_zero, Act.put, List.setIfInBounds_toArray, List.set_cons_zero, List.set_cons_succ]
        refine wpAnyH_done (by kernel_rfl) ?_ _
        go_wp2_with fail
        go_meet
        case rel => exact ⟨V1.heap.size, a, ca, wc.heap.size, n, rfl, HSCH.out, HBF.out⟩
      · have hdgp := HG.out.lt
        rw [if_pos (by rfl)]
        refine op_make_full _ _ _ 24 rfl V.heap.size 2 i0 (.int .i64 0) 1 Try.underlying24 hi hz0 hz1 .i64 .i64 _ _ n rfl rfl rfl rfl (by rw [hz2]; omega) (by unfold maxLen; omega) HBV.out.size ?_
        intro wm hown hg
        have HSTEP := Go.Lib.hid (show Below _ _ wm from (Below.refl _ _).grown hg (Nat.le_refl _) (by simp))
        have HP := Go.Lib.hid (Lone.made (made_zero hown) HBV.out.size hn0)
        clear hown hg
        have HG := Go.Lib.hid (HG.out.below HSTEP.out)
        have HBV := Go.Lib.hid (HBV.out.trans (HSTEP.out.mono HBV.out.size))
        clear HSTEP
        refine hK.out _ _ ?_ (fun hHeld => ?_)
        · trivial
        clear hK K
        try simp only [List.getElem_toArray, List.getElem_cons_succ, List.getElem_cons_zero, Act.put, List.setIfInBounds_toArray, List.set_cons_zero, List.set_cons_succ]
        refine wpAnyH_ready (rs := [1]) (by kernel_rfl) (by simp) ?_
        refine AllReadyH.cons rfl (fun K hK => ?_) AllReadyH.nil
        have hdpa := HP.out.hi
        have hdga := HG.out.lt
        go_simp
        (go_at_call 58; refine (HCL.out _ (HLV.out.below HBV.out)).mono ?_; rintro _ wc ⟨a, ca, rfl, ht⟩)
        obtain ⟨hl1, hl2⟩ := Lone.tur ht HBV.out.size hn0
        have HSTEP := Go.Lib.hid ht.b
        have HDA := Go.Lib.hid hl2
        have HA := Go.Lib.hid hl1
        have HP := Go.Lib.hid (HP.out.below HSTEP.out)
        have HG := Go.Lib.hid (HG.out.below HSTEP.out)
        have HBV := Go.Lib.hid (HBV.out.trans (HSTEP.out.mono HBV.out.size))
        clear ht hl1 hl2 HSTEP
        refine hK.out _ _ ?_ (fun hHeld => ?_)
        · trivial
        clear hK K
        try simp only [List.getElem_toArray, List.getElem_cons_succ, List.getElem_cons_zero, Act.put, List.setIfInBounds_toArray, List.set_cons_zero, List.set_cons_succ]
        refine wpAnyH_take (i := 7) (v := ?vk11) rfl (by kernel_rfl) (by kernel_rfl) (by kernel_rfl) (fun _ _ _ h => h) (Or.inl ⟨by rfl, ?hyk11⟩) (by assumption) ?restk11
        case hyk11 => (intro w hSw; (try dsimp only at hSw); go_simp; try with_reducible rfl)
        try simp only [List.getElem_toArray, List.getElem_cons_succ, List.getElem_cons_zero, Act.put, List.setIfInBounds_toArray, List.set_cons_zero, List.set_cons_succ]
        refine wpAnyH_ready (rs := [9]) (by kernel_rfl) (by simp) ?_
        refine AllReadyH.cons rfl (fun K hK => ?_) AllReadyH.nil
        have hg0 : wc.cell? ⟨V1.heap.size, 0, none⟩ = some (.slice none 0 0) := HG.out.at_ 0 _ rfl
        have hg1 : wc.cell? ⟨V1.heap.size, 1, none⟩ = some (.slice none 0 0) := HG.out.at_ 1 _ rfl
        have hg2 : wc.cell? ⟨V1.heap.size, 2, none⟩ = some (.int .i64 0) := HG.out.at_ 2 _ rfl
        have hg3 : wc.cell? ⟨V1.heap.size, 3, none⟩ = some (.slice none 0 0) := HG.out.at_ 3 _ rfl
        have hf0 := HG.out.fr 0
        have hf1 := HG.out.fr 1
        have hf2 := HG.out.fr 2
        have hf3 := HG.out.fr 3
        have hda := HDA.out
        have HSCH := Go.Lib.hid (show Sch V.heap.size (V1.heap.size) a ca (wa.heap.size) n n B b s tol zs (List.replicate n 0) ((((wc.setCell ⟨V1.heap.size, 0, none⟩ (.slice (some ⟨a, 0, none⟩) n ca)).setCell ⟨V1.heap.size, 1, none⟩ (.slice B s.length b)).setCell ⟨V1.heap.size, 2, none⟩ (.int .i64 tol)).setCell ⟨V1.heap.size, 3, none⟩ (.slice (some ⟨wa.heap.size, 0, none⟩) n n)) from Sch.fill HG.out HA.out HP.out (HRD.out.below HBV.out (Nat.le_refl _)) (by omega) (by omega) (by omega) HGL.out)
        have HBF := Go.Lib.hid (show Below V.heap.size V ((((wc.setCell ⟨V1.heap.size, 0, none⟩ (.slice (some ⟨a, 0, none⟩) n ca)).setCell ⟨V1.heap.size, 1, none⟩ (.slice B s.length b)).setCell ⟨V1.heap.size, 2, none⟩ (.int .i64 tol)).setCell ⟨V1.heap.size, 3, none⟩ (.slice (some ⟨wa.heap.size, 0, none⟩) n n)) from (((HBV.out.setCell (p := ⟨V1.heap.size, 0, none⟩) HGL.out _).setCell (p := ⟨V1.heap.size, 1, none⟩) HGL.out _).setCell (p := ⟨V1.heap.size, 2, none⟩) HGL.out _).setCell (p := ⟨V1.heap.size, 3, none⟩) HGL.out _)
        go_simp
        refine hK.out _ _ ?_ (fun hHeld => ?_)
        · trivial
        clear hK K
        try simp only [List.getElem_toArray, List.getElem_cons_succ, List.getElem_cons_zero, Act.put, List.setIfInBounds_toArray, List.set_cons_zero, List.set_cons_succ]
        refine wpAnyH_done (by kernel_rfl) ?_ _
        go_wp2_with fail
        go_meet
        case rel => exact ⟨V1.heap.size, a, ca, wa.heap.size, n, rfl, HSCH.out, HBF.out⟩
  case rest =>
    obtain ⟨g, a, ca, p, cp, rfl, hs, hb⟩ := hcut
    have HS0 := Go.Lib.hid hs
    have HBW := Go.Lib.hid hb
    have HVS := Go.Lib.hid (show w.heap.size + 1 < V.heap.size from HX1.out.lt)
    clear hs hb HCL hi hz0 hz1 hz2 hmf
    go_wp2_with fail
    go_loopw [19] (fun u wr => ∃ k : Nat, k ≤ 5 ∧ u = .int .i64 k ∧ leastI zs s tol = leastUp (fun eff => firstR zs s tol n eff []) (k : Int) (5 - k) ∧ Sch V.heap.size g a ca p cp n B b s tol zs (List.replicate n 0) wr ∧ Below V.heap.size V wr) (fun u _ => (5 - intOf u).toNat)
    case atStart => exact ⟨0, by omega, rfl, HLI.out, HS0.out, HBW.out⟩
    case round =>
      obtain ⟨k, hk, rfl, hli, hs, hb⟩ := hrel
      have HLK := Go.Lib.hid hli
      have HSK := Go.Lib.hid hs
      have HBK := Go.Lib.hid hb
      clear hli hs hb HLI HS0 HBW
      have HY0 := Go.Lib.hid (HX0.out.belowAt HBK.out (by have := HVS.out; omega))
      have HY1 := Go.Lib.hid (HX1.out.belowAt HBK.out HVS.out)
      have HBT := Go.Lib.hid (HB0.out.trans (HBK.out.mono HB0.out.size))
      by_cases hk4 : k ≤ 4
      case neg =>
        obtain rfl : k = 5 := by omega
        have HV2 := Go.Lib.hid (show leastI zs s tol = [] by rw [HLK.out]; rfl)
        have hc : ¬ ((5 : Nat) : Int) < 5 := by omega
        have hc0 : wr.cell? ⟨w.heap.size, 0, none⟩ = some (.slice none 0 0) := HY0.out.at_ 0 _ rfl
        have hf0 := HY0.out.fr 0
        have hc1 : wr.cell? ⟨w.heap.size + 1, 0, none⟩ = some (.bool false) := HY1.out.at_ 0 _ rfl
        have hf1 := HY1.out.fr 0
        have HZ0 := Go.Lib.hid ((HY0.out.set (k := 0) (.slice none 0 0) (by simp)).other (p := ⟨w.heap.size + 1, 0, none⟩) (by simp) (.bool false))
        have HZ1 := Go.Lib.hid ((HY1.out.other (p := ⟨w.heap.size, 0, none⟩) (by simp) (.slice none 0 0)).set (k := 0) (.bool false) (by simp))
        have HBZ := Go.Lib.hid ((HBT.out.setCell (p := ⟨w.heap.size, 0, none⟩) (Nat.le_refl _) (.slice none 0 0)).setCell (p := ⟨w.heap.size + 1, 0, none⟩) (by simp) (.bool false))
        clear HY0 HY1 HBT
        go_wp2_with fail
        refine leaves_cons (f := 72) (args := #[.pointer (some ⟨w.heap.size, 0, none⟩), .pointer (some ⟨w.heap.size + 1, 0, none⟩)]) (by simp) (by simp [go_sem]) ?_
        refine (catchI2 w.heap.size _ HZ0.out HZ1.out).mono ?_
        rintro e u' w3 ⟨rfl, rfl, h0, h1, hk3⟩
        have c0 : w3.cell? ⟨w.heap.size, 0, none⟩ = some (.slice none 0 0) := h0.at_ 0 _ rfl
        have c1 : w3.cell? ⟨w.heap.size + 1, 0, none⟩ = some (.bool false) := h1.at_ 0 _ rfl
        refine ⟨.tuple #[.slice none 0 0, .bool false], by simp [results, Try.results53, go_sem, c0, c1], HBZ.out.trans (hk3.below (Nat.le_refl _) HBZ.out.size), .inl ⟨by rw [HV2.out]; try rfl, rfl⟩⟩
      case pos =>
        have HST := Go.Lib.hid (show leastI zs s tol = if 0 < (firstR zs s tol n (k : Int) []).length then firstR zs s tol n (k : Int) [] else leastUp (fun eff => firstR zs s tol n eff []) ((k : Int) + 1) (5 - (k + 1)) by
          rw [HLK.out, show 5 - k = (5 - (k + 1)) + 1 by omega]; rfl)
        have hk5 : (k : Int) < 5 := by omega
        have HS2 := Go.Lib.hid (HSP.out _ _ _ _ _ _ k wr HSK.out hk4)
        generalize firstR zs s tol n (k : Int) [] = fr at *
        clear HLK HSP
        go_wp2_with fail
        refine HS2.out.mono ?_
        rintro _ w3 ⟨b3, ⟨hf0, ⟨v3, rfl⟩, hs3⟩ | ⟨hfn, rfl, ho3⟩⟩
        · have HS3 := Go.Lib.hid hs3
          have HB3 := Go.Lib.hid (HBK.out.trans b3)
          have HV := Go.Lib.hid (show leastI zs s tol = leastUp (fun eff => firstR zs s tol n eff []) (((k + 1 : Nat)) : Int) (5 - (k + 1)) by rw [HST.out, if_neg (by omega)]; rfl)
          clear hs3 b3 hf0 HS2
          go_wp2_with fail
          go_roundw
          case rel => exact ⟨k + 1, by omega, by go_num, HV.out, HS3.out, HB3.out⟩
          case measure => simp [intOf]; omega
        · have HB3 := Go.Lib.hid (HBK.out.trans b3)
          have HZ0 := Go.Lib.hid (HX0.out.belowAt HB3.out (by have := HVS.out; omega))
          have HZ1 := Go.Lib.hid (HX1.out.belowAt HB3.out HVS.out)
          have HBZ := Go.Lib.hid (HB0.out.trans (HB3.out.mono HB0.out.size))
          have HV := Go.Lib.hid (show leastI zs s tol = fr by rw [HST.out, if_pos (by omega)])
          have HO3 := Go.Lib.hid ho3
          have HP0 := Go.Lib.hid HSK.out.p0
          have HFN := Go.Lib.hid hfn
          clear b3 ho3 hfn HS2
          go_wp2_with fail
          refine leaves_cons (f := 72) (args := #[.pointer (some ⟨w.heap.size, 0, none⟩), .pointer (some ⟨w.heap.size + 1, 0, none⟩)]) (by simp) (by simp [go_sem]) ?_
          refine (catchP2 w.heap.size _ (some ⟨p, 0, none⟩) n cp [] HZ0.out HZ1.out).mono ?_
          rintro e u' w4 ⟨rfl, rfl, h0, h1, hk4⟩
          have c0 : w4.cell? ⟨w.heap.size, 0, none⟩ = some (.slice (some ⟨p, 0, none⟩) n cp) := h0.at_ 0 _ rfl
          have c1 : w4.cell? ⟨w.heap.size + 1, 0, none⟩ = some (.bool true) := h1.at_ 0 _ rfl
          obtain ⟨g', eg, -, -, hpl⟩ := HO3.out.form hn0
          cases eg
          have hvs := HVS.out
          have hp0 := HP0.out
          have hb0 := HB0.out.size
          have ho4 := HO3.out.keep hk4 (Nat.succ_le_of_lt hpl) (.inr (by omega))
          refine ⟨.tuple #[.slice (some ⟨p, 0, none⟩) n cp, .bool true], by simp [results, Try.results53, go_sem, c0, c1], HBZ.out.trans (hk4.below (Nat.le_refl _) HBZ.out.size), .inr ⟨by rw [HV.out]; exact HFN.out, p, cp, rfl, ?_⟩⟩
          rw [HV.out]
          exact (ho4.lower (by omega)).raise (Nat.le_trans (Nat.succ_le_of_lt hpl) hk4.size)
set_option maxRecDepth 100000 in
set_option maxHeartbeats 8000000 in
theorem implLeast (A : Option Addr) (c : Nat) (zs : List Int) (B : Option Addr) (b : Nat) (s : List Int) (tol : Int) (w : World) (L : Ls zs A c w) (L2 : Ls s B b w) (n : Nat) (hnn : zs.length = n) :
    Calls Try.prog 17 #[.slice A n c, .slice B s.length b, .int .i64 tol] w (GivesLN (leastR zs s tol) w) := by
  have HD1 := Go.Lib.hid (implDev A c zs w L)
  have HE1 := Go.Lib.hid (implEff B b s w L2)
  have HI := Go.Lib.hid (implInR tol 0 500 w)
  rw [hnn] at HD1
  by_cases hd : devB zs = true
  case neg =>
    have HV := Go.Lib.hid (show leastR zs s tol = ([], 1) by unfold leastR; rw [if_neg (by simp [hd])])
    rw [Bool.not_eq_true] at hd
    rw [hd] at HD1
    clear hd hnn L L2
    go_enter Try.func17, Try.ntmps17
    go_wp2_with fail
    refine (HD1.out).mono ?_
    rintro _ _ ⟨rfl, rfl⟩
    go_wp2_with fail
    go_ret2
    exact GivesLN.nil HV.out (Below.refl _ _)
  case pos =>
  rw [hd] at HD1
  by_cases hs : effB s = true
  case neg =>
    have HV := Go.Lib.hid (show leastR zs s tol = ([], 1) by unfold leastR; rw [if_neg (by simp [hs])])
    rw [Bool.not_eq_true] at hs
    rw [hs] at HE1
    clear hd hs hnn L L2
    go_enter Try.func17, Try.ntmps17
    go_wp2_with fail
    refine (HD1.out).mono ?_
    rintro _ _ ⟨rfl, rfl⟩
    go_wp2_with fail
    refine (HE1.out).mono ?_
    rintro _ _ ⟨rfl, rfl⟩
    go_wp2_with fail
    go_ret2
    exact GivesLN.nil HV.out (Below.refl _ _)
  case pos =>
  rw [hs] at HE1
  have h1 : (devB zs && effB s) = true := by rw [hd, hs]; rfl
  by_cases h2 : (decide (0 ≤ tol) && decide (tol ≤ 500)) = true
  case neg =>
    have HV := Go.Lib.hid (show leastR zs s tol = ([], 2) by unfold leastR; rw [if_pos h1, if_neg h2])
    rw [Bool.not_eq_true] at h2
    rw [show inB tol 0 500 = false from h2] at HI
    clear h1 hnn h2 hd hs L L2
    go_enter Try.func17, Try.ntmps17
    go_wp2_with fail
    refine (HD1.out).mono ?_
    rintro _ _ ⟨rfl, rfl⟩
    go_wp2_with fail
    refine (HE1.out).mono ?_
    rintro _ _ ⟨rfl, rfl⟩
    go_wp2_with fail
    refine (HI.out).mono ?_
    rintro _ _ ⟨rfl, rfl⟩
    go_wp2_with fail
    go_ret2
    exact GivesLN.nil HV.out (Below.refl _ _)
  case pos =>
  have HV := Go.Lib.hid (show leastR zs s tol = if 0 < (leastI zs s tol).length then (leastI zs s tol, 0) else ([], 4) by unfold leastR; rw [if_pos h1, if_pos h2])
  rw [show inB tol 0 500 = true from h2] at HI
  have ht : 0 ≤ tol ∧ tol ≤ 500 := by simpa using h2
  have hD := devB_iff.1 hd
  have h4 : 4 ≤ n := hnn ▸ hD.lo
  have h10 : n ≤ 10 := hnn ▸ hD.hi
  have HLP := Go.Lib.hid (implLeast0 A c zs B b s tol w L L2 n hnn h4 h10 (effB_iff.1 hs) hD.bd ht.1 ht.2)
  clear h1 h2 hD hnn hd hs L L2 ht
  generalize leastI zs s tol = us at *
  go_enter Try.func17, Try.ntmps17
  go_wp2_with fail
  refine (HD1.out).mono ?_
  rintro _ _ ⟨rfl, rfl⟩
  go_wp2_with fail
  refine (HE1.out).mono ?_
  rintro _ _ ⟨rfl, rfl⟩
  go_wp2_with fail
  refine (HI.out).mono ?_
  rintro _ _ ⟨rfl, rfl⟩
  go_wp2_with fail
  refine HLP.out.mono ?_
  rintro _ w1 ⟨b1, ⟨hl, rfl⟩ | ⟨hl, p, cp, rfl, ho⟩⟩
  · have HB := Go.Lib.hid b1
    have HV2 := Go.Lib.hid (show leastR zs s tol = ([], 4) by rw [HV.out, if_neg (by omega)])
    clear b1 hl
    go_wp2_with fail
    go_ret2
    exact GivesLN.nil HV2.out HB.out
  · have HB := Go.Lib.hid b1
    have HO := Go.Lib.hid ho
    have HLN := Go.Lib.hid hl
    have HV2 := Go.Lib.hid (show leastR zs s tol = (us, 0) by rw [HV.out, if_pos (by omega)])
    clear b1 hl ho
    go_wp2_with fail
    go_ret2
    exact GivesLN.own HV2.out HLN.out HO.out HB.out
end Go.Proofs.Ytpcaakmcjdginaa
