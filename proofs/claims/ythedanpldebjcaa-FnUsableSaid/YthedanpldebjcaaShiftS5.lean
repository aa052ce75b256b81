/- The model: usable gears. -/
import Derived.Test.YthedanpldebjcaaShiftS1
import Derived.Test.YthedanpldebjcaaShiftS2
import Derived.Test.YthedanpldebjcaaGearS5
namespace Go.Proofs.Ythedanpldebjcaa
open Go.RowKit
set_option linter.unusedSimpArgs false
set_option linter.unusedVariables false

theorem Ls.keepB {zs : List Int} {D : Option Addr} {d g0 : Nat} {w3 W : World} (h : Ls zs D d w3) (hne : ∀ b off, D = some ⟨b, off, none⟩ → 0 < zs.length → b ≠ g0) (k : Keep g0 (g0 + 1) w3 W) : Ls zs D d W := by
  refine ⟨⟨h.rd.1, fun hn => ?_⟩, h.le, h.few⟩
  obtain ⟨b, off, e, h1, h2, h3⟩ := h.rd.2 hn
  have hb := k.block b h2 (by have := hne b off e hn; omega)
  exact ⟨b, off, e, h1, Nat.lt_of_lt_of_le h2 k.size, fun j u hu => (World.cell?_of_block hb).trans (h3 j u hu)⟩
theorem empty_not {w3 : World} {g0 b off : Nat} {t : TypeId} {u : Value} (h0 : w3.heap[g0]? = some (.cells #[] t (0, 0))) (h : w3.cell? ⟨b, off, none⟩ = some u) : b ≠ g0 := by
  rintro rfl
  simp [World.cell?, h0] at h
/-- Rows that lie somewhere, but not in block g0. -/
def RowsK (w3 : World) (g0 : Nat) (us : List Value) (zs : List (List Int)) : Prop := ∀ W, Keep g0 (g0 + 1) w3 W → RowsZ W us zs
/-- Rows of a list of ours, appended to a list whose first block is the empty block g0. -/
structure GatO (w3 : World) (base g0 : Nat) (zs : List (List Int)) (v : Value) (wr : World) : Prop where
  us : ∃ us, wr.ownsRow base 24 1 v zs.length us ∧ RowsK w3 g0 us zs
  own : ∀ g, v.ownBlock = some g → g = g0 ∨ w3.heap.size ≤ g
  k : Keep g0 (g0 + 1) w3 wr
theorem GatO.below {w3 wr w1 : World} {base g0 : Nat} {zs : List (List Int)} {v : Value} (h : GatO w3 base g0 zs v wr) (b : Below wr.heap.size wr w1) : GatO w3 base g0 zs v w1 := by
  obtain ⟨us, r, z⟩ := h.us
  exact ⟨⟨us, own_below r b, z⟩, h.own, h.k.trans (Keep.of_below b (Nat.le_refl _) g0 (g0 + 1))⟩
theorem GatO.step {w3 wr w5 : World} {base g0 n : Nat} {zs : List (List Int)} {v v' : Value} {z : List Int} {o : Obj} {us : List Value} {B : Option Addr} {d : Nat} (h : GatO w3 base g0 zs v wr) (hz : RowsK w3 g0 us zs) (hl : ∀ W, Keep g0 (g0 + 1) w3 W → Ls z B d W) (hn : z.length = n)
    (hown : w5.ownsRow base 24 1 v' (zs.length + 1) (us ++ [.slice B n d])) (hgrow : (wr.alloc o).grownBy w5 v.ownBlock) (hat : v'.ownBlock = v.ownBlock ∨ v'.ownBlock = some (wr.alloc o).heap.size) : GatO w3 base g0 (zs ++ [z]) v' w5 := by
  subst hn
  have hs : (wr.alloc o).heap.size = wr.heap.size + 1 := by simp
  have hk := h.k.size
  refine ⟨⟨us ++ [.slice B z.length d], by rw [List.length_append]; exact hown, fun W k => (hz W k).app (RowsZ.one (hl W k))⟩, fun g e => ?_, ?_⟩
  · rcases hat with q | q
    · exact h.own g (q ▸ e)
    · rw [q] at e
      injection e with e
      omega
  · have h1 : Keep g0 (g0 + 1) w3 (wr.alloc o) := h.k.trans (Keep.of_below ((Below.refl wr.heap.size wr).alloc (Nat.le_refl _) o) (Nat.le_refl _) g0 (g0 + 1))
    exact ⟨hgrow.os.trans h1.os, hgrow.tape.trans h1.tape, hgrow.output.trans h1.output, Nat.le_trans h1.size hgrow.size, fun i hi ho => (hgrow.block i (Nat.lt_of_lt_of_le hi h1.size) (fun e => by have := h.own i e.symm; omega)).trans (h1.block i hi ho)⟩
theorem usable_take {x : Trn} {lm : Int} {L : List Gr} {k : Nat} (hk : k < L.length) : rowsG ((L.take (k + 1)).filter fun g => !crossB x lm (plG g)) = rowsG ((L.take k).filter fun g => !crossB x lm (plG g)) ++ (if crossB x lm (plG (L.getD k (0, 0))) then [] else [rowG (L.getD k (0, 0))]) := by
  rw [List.take_add_one, List.getElem?_eq_getElem hk, List.filter_append]
  unfold rowsG
  rw [List.map_append]
  congr 1
  have e : L.getD k (0, 0) = L[k] := by simp [List.getD, hk]
  rw [e]
  cases h : crossB x lm (plG L[k]) <;> simp [h]
/-- A call's answer: rows. -/
def GivesO (zs : List (List Int)) (w : World) (e : Ending) (w' : World) : Prop := Below w.heap.size w w' ∧ ((zs = [] ∧ e = .returned (.slice none 0 0)) ∨ ∃ g cap, e = .returned (.slice (some ⟨g, 0, none⟩) zs.length cap) ∧ OwZ w.heap.size zs g cap w')
theorem GatO.done {w0 w3 wr : World} {base g0 : Nat} {zs : List (List Int)} {v : Value} (h : GatO w3 base g0 zs v wr) (hb : Below w0.heap.size w0 wr) (hl : w0.heap.size ≤ base) : GivesO zs w0 (.returned v) wr := by
  obtain ⟨us, r, z⟩ := h.us
  have hz := z wr h.k
  have hlen := hz.len
  rcases r with ⟨r1, ⟨rfl, h0⟩ | ⟨g, cap, cur, rfl, hb2, r2⟩⟩
  · exact ⟨hb, .inl ⟨List.eq_nil_of_length_eq_zero h0, rfl⟩⟩
  · exact ⟨hb, .inr ⟨g, cap, rfl, ⟨⟨us, ⟨r1, .inr ⟨g, cap, cur, rfl, Nat.le_trans hl hb2, r2⟩⟩, hz⟩⟩⟩⟩
set_option maxRecDepth 100000 in
set_option maxHeartbeats 16000000 in
theorem specUsableI (x : Trn) (A : Option Addr) (c : Nat) (B : Option Addr) (d : Nat) (lm : Int) (w : World) (T : TrL x A c B d w) (hT : Train x) (hl : 0 ≤ lm ∧ lm ≤ 4) :
    Calls Try.prog 68 #[trainV x A c B d, .int .i64 lm] w (GivesO (rowsG (usableI x lm)) w) := by
  obtain ⟨j0, ji, jz0, jz1, jz2⟩ := info_parts infoRow
  have HT := Go.Lib.hid T
  have HX := Go.Lib.hid (boxT_box x A c B d w)
  have HXB := Go.Lib.hid (boxT_below x A c B d w)
  clear T
  have HD := Go.Lib.hid (fun w0 T0 => specOrder x A c B d w0 T0 hT)
  have HCG := Go.Lib.hid (fun f r w0 T0 => specCrossed x A c B d lm f r w0 T0 hl)
  have HRA := Go.Lib.hid (fun i (hi : i < (ordI x).length) => rowsG_at (gs := ordI x) (i := i) hi)
  have HLE := Go.Lib.hid (rowsG_len (ordI x))
  have hn36 : (ordI x).length ≤ 36 := ordI_few hT
  have HUS := Go.Lib.hid (show usableI x lm = (ordI x).filter fun g => !crossB x lm (plG g) from rfl)
  clear hT hl
  generalize usableI x lm = U at *
  generalize ordI x = L at *
  rw [HLE.out] at HD
  unfold trainV at *
  go_enter Try.func68, Try.ntmps68
  go_upto_region 1 with fail
  refine wp_gen (R := fun W => Box W w.heap.size (trainC x A c B d) ∧ Below w.heap.size w W) ⟨HX.out, HXB.out⟩ ?_
  rintro W ⟨hx, hb⟩
  have HX1 := Go.Lib.hid hx
  have HB1 := Go.Lib.hid hb
  have HT1 := Go.Lib.hid (HT.out.below hb)
  clear hx hb HX HXB
  have hb1 : Below W.heap.size W (W.alloc (.cells #[] 24)) := (Below.refl _ _).alloc (Nat.le_refl _) _
  have HO0 := Go.Lib.hid (own_none (w := W) (base := W.heap.size) (t := 24) (Nat.le_refl _))
  have HE0 := Go.Lib.hid (heap_alloc_new W (.cells #[] 24))
  have HX2 := Go.Lib.hid (HX1.out.below hb1)
  have HB2 := Go.Lib.hid (upB HB1.out hb1)
  have HT2 := Go.Lib.hid (HT1.out.below hb1)
  have HB1B := Go.Lib.hid hb1
  have HS2 := Go.Lib.hid (show (W.alloc (.cells #[] 24)).heap.size = W.heap.size + 1 by simp)
  clear hb1
  go_upto_region 2 with fail
  refine wp_gen (R := fun V => Box V w.heap.size (trainC x A c B d) ∧ Below w.heap.size w V ∧ TrL x A c B d V ∧ V.ownsRow W.heap.size 24 1 (.slice (some ⟨W.heap.size, 0, none⟩) 0 0) 0 [] ∧ V.heap[W.heap.size]? = some (.cells #[] 24 (0, 0)) ∧ V.heap.size = W.heap.size + 1 ∧ Below W.heap.size W V) ⟨HX2.out, HB2.out, HT2.out, HO0.out, HE0.out, HS2.out, HB1B.out⟩ ?_
  rintro V ⟨hx, hb, ht, ho, he, hs, hbv⟩
  have HX2 := Go.Lib.hid hx
  have HB2 := Go.Lib.hid hb
  have HT2 := Go.Lib.hid ht
  have HO0 := Go.Lib.hid ho
  have HE0 := Go.Lib.hid he
  have HSV := Go.Lib.hid hs
  have HBV := Go.Lib.hid hbv
  clear hx hb ht ho he hs HS2 hbv
  have hc0 : V.cell? ⟨w.heap.size, 0, none⟩ = some (.slice A x.f.length c) := HX2.out.at_ 0 _ rfl
  have hc1 : V.cell? ⟨w.heap.size, 1, none⟩ = some (.slice B x.r.length d) := HX2.out.at_ 1 _ rfl
  have hc2 : V.cell? ⟨w.heap.size, 2, none⟩ = some (.int .i64 x.n) := HX2.out.at_ 2 _ rfl
  go_wp2_with fail
  refine (HD.out _ HT2.out).mono ?_
  rintro _ w3 ⟨gl, capl, rfl, oz, b3⟩
  have HLZ := Go.Lib.hid (oz.ls (by rw [HLE.out]; omega))
  have HB3 := Go.Lib.hid (upB HB2.out b3)
  have HBW := Go.Lib.hid (HBV.out.trans (b3.mono HBV.out.size))
  have HX3 := Go.Lib.hid (HX2.out.below b3)
  have HT3 := Go.Lib.hid (HT2.out.below b3)
  have HE3 := Go.Lib.hid ((b3.block W.heap.size (by have := HSV.out; omega)).trans HE0.out)
  have HWB := Go.Lib.hid (show W.heap.size ≤ w3.heap.size by have := HSV.out; have := b3.size; omega)
  have HKW := Go.Lib.hid (fun (wr : World) (kp : Keep W.heap.size (W.heap.size + 1) w3 wr) => show Below W.heap.size W wr from HBW.out.trans (kp.below (Nat.le_refl _) HWB.out))
  have HG0 := Go.Lib.hid (show GatO w3 W.heap.size W.heap.size (rowsG ((L.take 0).filter fun g => !crossB x lm (plG g))) (.slice (some ⟨W.heap.size, 0, none⟩) 0 0) w3 from ⟨⟨[], own_below HO0.out b3, fun W2 _ => trivial⟩, fun g e => by injection e with e; exact .inl e.symm, Keep.refl _ _ _⟩)
  clear oz b3 hc0 hc1 hc2
  go_wp2_with fail
  go_loopw [5, 7] (fun v u wr => ∃ k : Nat, k ≤ L.length ∧ u = .int .i64 k ∧ GatO w3 W.heap.size W.heap.size (rowsG ((L.take k).filter fun g => !crossB x lm (plG g))) v wr) (fun _ u _ => L.length - (intOf u).toNat)
  case atStart => exact ⟨0, Nat.zero_le _, rfl, HG0.out⟩
  case round =>
    obtain ⟨k, hk, rfl, hgat⟩ := hrel
    have HGT := Go.Lib.hid hgat
    clear hgat HG0
    by_cases hlt : k < L.length
    case neg =>
      obtain rfl : k = L.length := by omega
      rw [List.take_length, ← HUS.out] at HGT
      have HF := Go.Lib.hid (HGT.out.done (HB1.out.trans ((HKW.out _ HGT.out.k).mono HB1.out.size)) HB1.out.size)
      go_wp2_with fail
      go_ret
      exact HF.out
    case pos =>
      have hkp := HGT.out.k
      obtain ⟨gb, go, D, dd, e, -, hrow, hlr⟩ := HLZ.out.at_ (k := k) (by rw [HLE.out]; exact hlt)
      cases e
      rw [HRA.out k hlt] at hrow hlr
      rw [Nat.zero_add] at hrow
      obtain ⟨eb, eo, e, hlb, hcs⟩ := hlr.at_ (k := 0) (by simp [rowG])
      subst e
      have hn1 := empty_not HE3.out hrow
      have hn2 := empty_not HE3.out (hcs 0 (by simp [rowG]))
      have hcg : ∀ b o u, b ≠ W.heap.size → w3.cell? ⟨b, o, none⟩ = some u → wr.cell? ⟨b, o, none⟩ = some u := fun b o u hb hc => (World.cell?_of_block (hkp.block b (World.block_lt_of_cell? _ _ hc) (by omega))).trans hc
      have HLK := Go.Lib.hid (fun W2 (kk : Keep W.heap.size (W.heap.size + 1) w3 W2) => Ls.keepB hlr (fun b off e _ => by injection e with e; injection e with e _ _; omega) kk)
      have hh0 : wr.cell? ⟨gl, k, none⟩ = some (.slice (some ⟨eb, eo, none⟩) 2 dd) := hcg _ _ _ hn1 hrow
      have hkl : (k : Int) < L.length := by omega
      have HSU := Go.Lib.hid (usable_take (x := x) (lm := lm) hlt)
      have HLE2 := Go.Lib.hid (rowsG_len ((L.take k).filter fun g => !crossB x lm (plG g)))
      have hul : ((L.take k).filter fun g => !crossB x lm (plG g)).length ≤ 36 := Nat.le_trans (List.length_filter_le _ _) (by rw [List.length_take]; omega)
      generalize L.getD k (0, 0) = gg at *
      have he0 : wr.cell? ⟨eb, eo, none⟩ = some (.int .i64 (gg.1 : Nat)) := hcg _ _ _ hn2 (hcs 0 (by simp [rowG]))
      have he1 : wr.cell? ⟨eb, eo + 1, none⟩ = some (.int .i64 (gg.2 : Nat)) := hcg _ _ _ hn2 (hcs 1 (by simp [rowG]))
      have HCR := Go.Lib.hid (fun w0 T0 => HCG.out (gg.1 : Int) (gg.2 : Int) w0 T0)
      rw [show (((gg.1 : Nat) : Int), ((gg.2 : Nat) : Int)) = plG gg from rfl] at HCR
      have hwq : w.heap.size < W.heap.size := HX1.out.lt
      have HXR := Go.Lib.hid (HX3.out.keep hkp (by omega))
      have hc0 : wr.cell? ⟨w.heap.size, 0, none⟩ = some (.slice A x.f.length c) := HXR.out.at_ 0 _ rfl
      have hc1 : wr.cell? ⟨w.heap.size, 1, none⟩ = some (.slice B x.r.length d) := HXR.out.at_ 1 _ rfl
      have hc2 : wr.cell? ⟨w.heap.size, 2, none⟩ = some (.int .i64 x.n) := HXR.out.at_ 2 _ rfl
      have HTD := Go.Lib.hid (show TrL x A c B d wr.drew from ⟨(Ls.below HT1.out.f (HKW.out _ hkp)).drewN 1, (Ls.below HT1.out.r (HKW.out _ hkp)).drewN 1⟩)
      have l0 : w.heap.size < wr.drew.heap.size := HXR.out.drew.lt
      have l1 : gl < wr.drew.heap.size := World.block_lt_of_cell? _ _ hh0
      have l2 : eb < wr.drew.heap.size := World.block_lt_of_cell? _ _ he0
      clear hkp hrow hlr hcs hcg hn1 hn2 hlb HUS
      generalize crossB x lm (plG gg) = cb at *
      go_upto_region 6 with fail
      refine wp_region_held_drew (S := fun w' => w'.cell? ⟨w.heap.size, 0, none⟩ = some (.slice A x.f.length c) ∧ w'.cell? ⟨w.heap.size, 1, none⟩ = some (.slice B x.r.length d) ∧ w'.cell? ⟨w.heap.size, 2, none⟩ = some (.int .i64 x.n) ∧ w'.cell? ⟨gl, k, none⟩ = some (.slice (some ⟨eb, eo, none⟩) 2 dd) ∧ w'.cell? ⟨eb, eo, none⟩ = some (.int .i64 (gg.1 : Nat)) ∧ w'.cell? ⟨eb, eo + 1, none⟩ = some (.int .i64 (gg.2 : Nat))) (by kernel_rfl) (by exact ⟨hc0, hc1, hc2, hh0, he0, he1⟩) (fun hHeld => ?_)
      refine wpAnyH_take (i := 0) (v := ?vu1) rfl (by kernel_rfl) (by kernel_rfl) (by kernel_rfl) (fun _ _ _ h => h) (Or.inl ⟨by rfl, ?hyu1⟩) (by assumption) ?restu1
      case hyu1 => (intro w hSw; (try dsimp only at hSw); go_simp; try with_reducible rfl)
      try simp only [List.getElem_toArray, List.getElem_cons_succ, List.getElem_cons_zero, Act.put, List.setIfInBounds_toArray, List.set_cons_zero, List.set_cons_succ]
      refine wpAnyH_take (i := 1) (v := ?vu2) rfl (by kernel_rfl) (by kernel_rfl) (by kernel_rfl) (fun _ _ _ h => h) (Or.inl ⟨by rfl, ?hyu2⟩) (by assumption) ?restu2
      case hyu2 => (intro w hSw; (try dsimp only at hSw); go_simp; try with_reducible rfl)
      try simp only [List.getElem_toArray, List.getElem_cons_succ, List.getElem_cons_zero, Act.put, List.setIfInBounds_toArray, List.set_cons_zero, List.set_cons_succ]
      refine wpAnyH_take (i := 2) (v := ?vu3) rfl (by kernel_rfl) (by kernel_rfl) (by kernel_rfl) (fun _ _ _ h => h) (Or.inl ⟨by rfl, ?hyu3⟩) (by assumption) ?restu3
      case hyu3 => (intro w hSw; (try dsimp only at hSw); go_simp; try with_reducible rfl)
      try simp only [List.getElem_toArray, List.getElem_cons_succ, List.getElem_cons_zero, Act.put, List.setIfInBounds_toArray, List.set_cons_zero, List.set_cons_succ]
      refine wpAnyH_take (i := 3) (v := ?vu4) rfl (by kernel_rfl) (by kernel_rfl) (by kernel_rfl) (fun _ _ _ h => h) (Or.inl ⟨by rfl, ?hyu4⟩) (by assumption) ?restu4
      case hyu4 => (intro w hSw; (try dsimp only at hSw); go_simp; try with_reducible rfl)
      try simp only [List.getElem_toArray, List.getElem_cons_succ, List.getElem_cons_zero, Act.put, List.setIfInBounds_toArray, List.set_cons_zero, List.set_cons_succ]
      refine wpAnyH_take (i := 4) (v := ?vu5) rfl (by kernel_rfl) (by kernel_rfl) (by kernel_rfl) (fun _ _ _ h => h) (Or.inl ⟨by rfl, ?hyu5⟩) (by assumption) ?restu5
      case hyu5 => (intro w hSw; (try dsimp only at hSw); go_simp; try with_reducible rfl)
      try simp only [List.getElem_toArray, List.getElem_cons_succ, List.getElem_cons_zero, Act.put, List.setIfInBounds_toArray, List.set_cons_zero, List.set_cons_succ]
      refine wpAnyH_take (i := 5) (v := ?vu6) rfl (by kernel_rfl) (by kernel_rfl) (by kernel_rfl) (fun _ _ _ h => h) (Or.inl ⟨by rfl, ?hyu6⟩) (by assumption) ?restu6
      case hyu6 => (intro w hSw; (try dsimp only at hSw); go_simp; try with_reducible rfl)
      try simp only [List.getElem_toArray, List.getElem_cons_succ, List.getElem_cons_zero, Act.put, List.setIfInBounds_toArray, List.set_cons_zero, List.set_cons_succ]
      refine wpAnyH_take (i := 6) (v := ?vu7) rfl (by kernel_rfl) (by kernel_rfl) (by kernel_rfl) (fun _ _ _ h => h) (Or.inl ⟨by rfl, ?hyu7⟩) (by assumption) ?restu7
      case hyu7 => (intro w hSw; (try dsimp only at hSw); go_simp; try with_reducible rfl)
      try simp only [List.getElem_toArray, List.getElem_cons_succ, List.getElem_cons_zero, Act.put, List.setIfInBounds_toArray, List.set_cons_zero, List.set_cons_succ]
      refine wpAnyH_take (i := 7) (v := ?vu8) rfl (by kernel_rfl) (by kernel_rfl) (by kernel_rfl) (fun _ _ _ h => h) (Or.inl ⟨by rfl, ?hyu8⟩) (by assumption) ?restu8
      case hyu8 => (intro w hSw; (try dsimp only at hSw); go_simp; try with_reducible rfl)
      try simp only [List.getElem_toArray, List.getElem_cons_succ, List.getElem_cons_zero, Act.put, List.setIfInBounds_toArray, List.set_cons_zero, List.set_cons_succ]
      refine wpAnyH_take (i := 8) (v := ?vu9) rfl (by kernel_rfl) (by kernel_rfl) (by kernel_rfl) (fun _ _ _ h => h) (Or.inl ⟨by rfl, ?hyu9⟩) (by assumption) ?restu9
      case hyu9 => (intro w hSw; (try dsimp only at hSw); go_simp; try with_reducible rfl)
      try simp only [List.getElem_toArray, List.getElem_cons_succ, List.getElem_cons_zero, Act.put, List.setIfInBounds_toArray, List.set_cons_zero, List.set_cons_succ]
      refine wpAnyH_take (i := 9) (v := ?vu10) rfl (by kernel_rfl) (by kernel_rfl) (by kernel_rfl) (fun _ _ _ h => h) (Or.inl ⟨by rfl, ?hyu10⟩) (by assumption) ?restu10
      case hyu10 => (intro w hSw; (try dsimp only at hSw); go_simp; try with_reducible rfl)
      try simp only [List.getElem_toArray, List.getElem_cons_succ, List.getElem_cons_zero, Act.put, List.setIfInBounds_toArray, List.set_cons_zero, List.set_cons_succ]
      refine wpAnyH_take (i := 10) (v := ?vu11) rfl (by kernel_rfl) (by kernel_rfl) (by kernel_rfl) (fun _ _ _ h => h) (Or.inl ⟨by rfl, ?hyu11⟩) (by assumption) ?restu11
      case hyu11 => (intro w hSw; (try dsimp only at hSw); go_simp; try with_reducible rfl)
      try simp only [List.getElem_toArray, List.getElem_cons_succ, List.getElem_cons_zero, Act.put, List.setIfInBounds_toArray, List.set_cons_zero, List.set_cons_succ]
      refine wpAnyH_take (i := 11) (v := ?vu12) rfl (by kernel_rfl) (by kernel_rfl) (by kernel_rfl) (fun _ _ _ h => h) (Or.inl ⟨by rfl, ?hyu12⟩) (by assumption) ?restu12
      case hyu12 => (intro w hSw; (try dsimp only at hSw); go_simp; try with_reducible rfl)
      try simp only [List.getElem_toArray, List.getElem_cons_succ, List.getElem_cons_zero, Act.put, List.setIfInBounds_toArray, List.set_cons_zero, List.set_cons_succ]
      refine wpAnyH_take (i := 12) (v := ?vu13) rfl (by kernel_rfl) (by kernel_rfl) (by kernel_rfl) (fun _ _ _ h => h) (Or.inl ⟨by rfl, ?hyu13⟩) (by assumption) ?restu13
      case hyu13 => (intro w hSw; (try dsimp only at hSw); go_simp; try with_reducible rfl)
      try simp only [List.getElem_toArray, List.getElem_cons_succ, List.getElem_cons_zero, Act.put, List.setIfInBounds_toArray, List.set_cons_zero, List.set_cons_succ]
      refine wpAnyH_take (i := 13) (v := ?vu14) rfl (by kernel_rfl) (by kernel_rfl) (by kernel_rfl) (fun _ _ _ h => h) (Or.inl ⟨by rfl, ?hyu14⟩) (by assumption) ?restu14
      case hyu14 => (intro w hSw; (try dsimp only at hSw); go_simp; try with_reducible rfl)
      try simp only [List.getElem_toArray, List.getElem_cons_succ, List.getElem_cons_zero, Act.put, List.setIfInBounds_toArray, List.set_cons_zero, List.set_cons_succ]
      refine wpAnyH_ready (rs := [14]) (by kernel_rfl) (by simp) ?_
      refine AllReadyH.cons rfl (fun K hK => ?_) AllReadyH.nil
      go_simp
      (go_at_call 71; refine (HCR.out _ HTD.out).mono ?_; rintro _ wc ⟨rfl, bc⟩)
      refine hK.out _ _ ?_ (fun hHeld => ?_)
      · exact ⟨(bc.cell (p := ⟨w.heap.size, 0, none⟩) l0).trans hHeld.1, (bc.cell (p := ⟨w.heap.size, 1, none⟩) l0).trans hHeld.2.1, (bc.cell (p := ⟨w.heap.size, 2, none⟩) l0).trans hHeld.2.2.1, (bc.cell (p := ⟨gl, k, none⟩) l1).trans hHeld.2.2.2.1, (bc.cell (p := ⟨eb, eo, none⟩) l2).trans hHeld.2.2.2.2.1, (bc.cell (p := ⟨eb, eo + 1, none⟩) l2).trans hHeld.2.2.2.2.2⟩
      clear hK K
      try simp only [List.getElem_toArray, List.getElem_cons_succ, List.getElem_cons_zero, Act.put, List.setIfInBounds_toArray, List.set_cons_zero, List.set_cons_succ]
      refine wpAnyH_take (i := 15) (v := ?vu15) rfl (by kernel_rfl) (by kernel_rfl) (by kernel_rfl) (fun _ _ _ h => h) (Or.inl ⟨by rfl, ?hyu15⟩) (by assumption) ?restu15
      case hyu15 => (intro w hSw; (try dsimp only at hSw); go_simp; try with_reducible rfl)
      try simp only [List.getElem_toArray, List.getElem_cons_succ, List.getElem_cons_zero, Act.put, List.setIfInBounds_toArray, List.set_cons_zero, List.set_cons_succ]
      refine wpAnyH_done (by kernel_rfl) ?_ _
      have hhd : wc.cell? ⟨gl, k, none⟩ = some (.slice (some ⟨eb, eo, none⟩) 2 dd) := hHeld.2.2.2.1
      have HGC := Go.Lib.hid ((HGT.out.below (below_drewN (Below.refl _ _) 1)).below bc)
      clear bc hc0 hc1 hc2 hh0 he0 he1 hHeld
      cases cb
      case true =>
        rw [if_pos rfl, List.append_nil] at HSU
        clear hhd
        go_wp2_with fail
        go_roundw
        case rel => exact ⟨k + 1, by omega, by go_num, by rw [HSU.out]; exact HGC.out⟩
        case measure => simp [intOf]; omega
      case false =>
        rw [if_neg (by decide)] at HSU
        obtain ⟨us, hrow, hzz⟩ := HGC.out.us
        have HZ := Go.Lib.hid hzz
        have hsz := HGC.out.k.size
        rw [HLE2.out] at hrow
        have hbase : W.heap.size ≤ wc.heap.size := Nat.le_trans HWB.out hsz
        clear hzz
        go_wp2_with (at_builtin; refine wpList_append_own_at _ rfl _ _ 42 rfl W.heap.size 24 j0 (.slice none 0 0) 1 24 Try.underlying42 ji jz0 jz1 jz2 rfl (by decide) _ _ _ rfl (hrow.alloc _) ⟨wc.heap.size, 0, none⟩ 1 1 [.slice (some ⟨eb, eo, none⟩) 2 dd] rfl rfl (cell_one_new _ _ _) (by simp [Value.oneCell']) (by unfold maxLen; omega) (by omega) (by simp; omega) ?_; intro v5 w5 hown' hgrow hnil hat; clear hnil)
        have HG5 := Go.Lib.hid (HGC.out.step (n := 2) (z := rowG gg) HZ.out HLK.out (by simp [rowG]) (by rw [HLE2.out]; exact hown') hgrow hat)
        clear hown' hgrow hat hrow
        go_wp2_with fail
        go_roundw
        case rel => exact ⟨k + 1, by omega, by go_num, by rw [HSU.out]; exact HG5.out⟩
        case measure => simp [intOf]; omega
end Go.Proofs.Ythedanpldebjcaa
