/- The program: a chain behind a pointer, and the needs that it knows. -/
import Derived.Test.YtilepehlmjohbaaChI1
import Derived.Test.YtilepehlmjohbaaChMemo
import Derived.Deep.RegionHeld3
import Derived.Deep.RegionHeld
namespace Go.Proofs.Ytilepehlmjohbaa
open Go.RowKit
set_option linter.unusedSimpArgs false
set_option linter.unusedVariables false

set_option maxRecDepth 100000 in
set_option maxHeartbeats 4000000 in
theorem implNeed (q B n : Nat) (l s f r : Int) (w : World) (C : Chn w q B n l s) (hn : n < maxLen) (h : Legs s f r) :
    Calls Try.prog 84 #[.pointer (some ⟨q, 0, none⟩), .int .i64 f, .int .i64 r] w (fun e w' => e = .returned (.int .i64 (needI s f r)) ∧ Chn w' q B (n + 1) l s ∧ Keep B (B + 1) w w') := by
  have h1 := h.f0
  have h2 := h.f1
  have h3 := h.r0
  have h4 := h.r1
  obtain ⟨kl, hkl⟩ := pair_key (a := min f r) (b := max f r) (WalkArith.wf_i64 (by omega)) (WalkArith.wf_i64 (by omega))
  have HC := Go.Lib.hid C
  have HL := Go.Lib.hid h
  obtain ⟨D, hown, hD⟩ := C.memo
  have HD := Go.Lib.hid hD
  have HK := Go.Lib.hid hkl
  have hb0 : Below w.heap.size w (w.alloc (.cells #[.int .i64 (min f r), .int .i64 (max f r)] 95)) := (Below.refl _ _).alloc (Nat.le_refl _) _
  have HX := Go.Lib.hid (show Box (w.alloc (.cells #[.int .i64 (min f r), .int .i64 (max f r)] 95)) w.heap.size [.int .i64 (min f r), .int .i64 (max f r)] from Box.new rfl rfl)
  have HB := Go.Lib.hid hb0
  have HN := Go.Lib.hid (fun w0 => implNeedN s f r w0 h)
  have hnb := needI_bd h
  have HWF := Go.Lib.hid (show (Lit.int .i64 (needI s f r)).wf = true from WalkArith.wf_i64 (by omega))
  clear hb0 C h hD hkl h1 h2 h3 h4 hnb
  cases hh : Maps.has D kl
  case true =>
    go_enter Try.func84, Try.ntmps84
    go_upto_region 2 with fail
    refine wp_gen (R := fun W => Box W w.heap.size [.int .i64 (min f r), .int .i64 (max f r)] ∧ Below w.heap.size w W ∧ W.ownsMap Try.prog 95 (plainElem Try.prog 2) B n D) ⟨HX.out, HB.out, hown.alloc _⟩ ?_
    rintro W ⟨hx, hb, ho⟩
    have HC1 := Go.Lib.hid (HC.out.box.below hb)
    have HX1 := Go.Lib.hid hx
    have HB1 := Go.Lib.hid hb
    have HO1 := Go.Lib.hid ho
    obtain ⟨v, ps, hrun, hv⟩ := ho.drew.look_ok keyed Try.underlying85 (zero64 W.drew) (plainElem_int Try.underlying2 (by decide)) HK.out
    obtain ⟨c, rfl, hc, -⟩ := plainElem_int_inv Try.underlying2 hv
    have HV := Go.Lib.hid (show D.atKey kl (.lit (.int .i64 0)) = .lit (.int .i64 c) from congrArg Prod.fst hc)
    rw [hh] at hrun
    unfold pairV at hrun
    have hc1 : W.cell? ⟨q, 1, none⟩ = some (.int .i64 s) := HC1.out.at_ 1 _ rfl
    have hc2 : W.cell? ⟨q, 2, none⟩ = some (.map (some B)) := HC1.out.at_ 2 _ rfl
    have hp0 : W.cell? ⟨w.heap.size, 0, none⟩ = some (.int .i64 (min f r)) := HX1.out.at_ 0 _ rfl
    have hp1 : W.cell? ⟨w.heap.size, 1, none⟩ = some (.int .i64 (max f r)) := HX1.out.at_ 1 _ rfl
    clear hx hb hv hc hown HX HB ho ps
    refine wp_region_held_drew (S := fun w' => w'.cell? ⟨q, 2, none⟩ = some (.map (some B)) ∧ w'.cell? ⟨w.heap.size, 0, none⟩ = some (.int .i64 (min f r)) ∧ w'.cell? ⟨w.heap.size, 1, none⟩ = some (.int .i64 (max f r)) ∧ (Instr.lookup 85 (.map (some B)) (.agg #[.int .i64 (min f r), .int .i64 (max f r)]) true).run Try.prog w' = .ok (.tuple #[.int .i64 c, .bool true]) w') (by kernel_rfl) (by exact ⟨hc2, hp0, hp1, hrun⟩) (fun hHeld => ?_)
    refine wpAnyH_take (i := 0) (v := ?vnt1) rfl (by kernel_rfl) (by kernel_rfl) (by kernel_rfl) (fun _ _ _ h => h) (Or.inl ⟨by rfl, ?hynt1⟩) (by assumption) ?restnt1
    case hynt1 => (intro w hSw; (try dsimp only at hSw); go_simp; try with_reducible rfl)
    try simp only [List.getElem_toArray, List.getElem_cons_succ, List.getElem_cons_zero, Act.put, List.setIfInBounds_toArray, List.set_cons_zero, List.set_cons_succ]
    refine wpAnyH_take (i := 1) (v := ?vnt2) rfl (by kernel_rfl) (by kernel_rfl) (by kernel_rfl) (fun _ _ _ h => h) (Or.inl ⟨by rfl, ?hynt2⟩) (by assumption) ?restnt2
    case hynt2 => (intro w hSw; (try dsimp only at hSw); go_simp; try with_reducible rfl)
    try simp only [List.getElem_toArray, List.getElem_cons_succ, List.getElem_cons_zero, Act.put, List.setIfInBounds_toArray, List.set_cons_zero, List.set_cons_succ]
    refine wpAnyH_take (i := 2) (v := ?vnt3) rfl (by kernel_rfl) (by kernel_rfl) (by kernel_rfl) (fun _ _ _ h => h) (Or.inl ⟨by rfl, ?hynt3⟩) (by assumption) ?restnt3
    case hynt3 => (intro w hSw; (try dsimp only at hSw); go_simp; try with_reducible rfl)
    try simp only [List.getElem_toArray, List.getElem_cons_succ, List.getElem_cons_zero, Act.put, List.setIfInBounds_toArray, List.set_cons_zero, List.set_cons_succ]
    refine wpAnyH_take (i := 3) (v := ?vnt4) rfl (by kernel_rfl) (by kernel_rfl) (by kernel_rfl) (fun _ _ _ h => h) (Or.inl ⟨by rfl, ?hynt4⟩) (by assumption) ?restnt4
    case hynt4 => (intro w hSw; (try dsimp only at hSw); go_simp; try with_reducible rfl)
    try simp only [List.getElem_toArray, List.getElem_cons_succ, List.getElem_cons_zero, Act.put, List.setIfInBounds_toArray, List.set_cons_zero, List.set_cons_succ]
    refine wpAnyH_take (i := 4) (v := ?vnt5) rfl (by kernel_rfl) (by kernel_rfl) (by kernel_rfl) (fun _ _ _ h => h) (Or.inl ⟨by rfl, ?hynt5⟩) (by assumption) ?restnt5
    case hynt5 => (intro w hSw; (try dsimp only at hSw); go_simp; try with_reducible rfl)
    try simp only [List.getElem_toArray, List.getElem_cons_succ, List.getElem_cons_zero, Act.put, List.setIfInBounds_toArray, List.set_cons_zero, List.set_cons_succ]
    refine wpAnyH_take (i := 5) (v := ?vnt6) rfl (by kernel_rfl) (by kernel_rfl) (by kernel_rfl) (fun _ _ _ h => h) (Or.inl ⟨by rfl, ?hynt6⟩) (by assumption) ?restnt6
    case hynt6 => (intro w hSw; (try dsimp only at hSw); go_simp; try with_reducible rfl)
    try simp only [List.getElem_toArray, List.getElem_cons_succ, List.getElem_cons_zero, Act.put, List.setIfInBounds_toArray, List.set_cons_zero, List.set_cons_succ]
    refine wpAnyH_take (i := 6) (v := ?vnt7) rfl (by kernel_rfl) (by kernel_rfl) (by kernel_rfl) (fun _ _ _ h => h) (Or.inl ⟨by rfl, ?hynt7⟩) (by assumption) ?restnt7
    case hynt7 => (intro w hSw; (try dsimp only at hSw); go_simp; try with_reducible rfl)
    try simp only [List.getElem_toArray, List.getElem_cons_succ, List.getElem_cons_zero, Act.put, List.setIfInBounds_toArray, List.set_cons_zero, List.set_cons_succ]
    refine wpAnyH_take (i := 7) (v := ?vnt8) rfl (by kernel_rfl) (by kernel_rfl) (by kernel_rfl) (fun _ _ _ h => h) (Or.inl ⟨by rfl, ?hynt8⟩) (by assumption) ?restnt8
    case hynt8 => (intro w hSw; (try dsimp only at hSw); go_simp; try with_reducible rfl)
    try simp only [List.getElem_toArray, List.getElem_cons_succ, List.getElem_cons_zero, Act.put, List.setIfInBounds_toArray, List.set_cons_zero, List.set_cons_succ]
    refine wpAnyH_take (i := 8) (v := ?vnt9) rfl (by kernel_rfl) (by kernel_rfl) (by kernel_rfl) (fun _ _ _ h => h) (Or.inl ⟨by rfl, ?hynt9⟩) (by assumption) ?restnt9
    case hynt9 => (intro w hSw; (try dsimp only at hSw); go_simp; try with_reducible rfl)
    try simp only [List.getElem_toArray, List.getElem_cons_succ, List.getElem_cons_zero, Act.put, List.setIfInBounds_toArray, List.set_cons_zero, List.set_cons_succ]
    refine wpAnyH_take (i := 9) (v := ?vnt10) rfl (by kernel_rfl) (by kernel_rfl) (by kernel_rfl) (fun _ _ _ h => h) (Or.inl ⟨by rfl, ?hynt10⟩) (by assumption) ?restnt10
    case hynt10 => (intro w hSw; (try dsimp only at hSw); go_simp; try with_reducible rfl)
    try simp only [List.getElem_toArray, List.getElem_cons_succ, List.getElem_cons_zero, Act.put, List.setIfInBounds_toArray, List.set_cons_zero, List.set_cons_succ]
    refine wpAnyH_take (i := 10) (v := ?vnt11) rfl (by kernel_rfl) (by kernel_rfl) (by kernel_rfl) (fun _ _ _ h => h) (Or.inl ⟨by rfl, ?hynt11⟩) (by assumption) ?restnt11
    case hynt11 => (intro w hSw; (try dsimp only at hSw); go_simp; try with_reducible rfl)
    try simp only [List.getElem_toArray, List.getElem_cons_succ, List.getElem_cons_zero, Act.put, List.setIfInBounds_toArray, List.set_cons_zero, List.set_cons_succ]
    refine wpAnyH_done (by kernel_rfl) ?_ _
    clear hrun hc1 hc2 hp0 hp1 hHeld
    have HCV := Go.Lib.hid (show c = needI s f r by
      have e := (HD.out _ _ _ HK.out hh).symm.trans HV.out
      rw [needI_pair] at e
      injection e with e
      injection e with _ e
      exact e.symm)
    have HF := Go.Lib.hid (show Chn W.drew q B (n + 1) l s from ⟨HC1.out.drew, ⟨D, (HO1.out.drew).mono (Nat.le_succ n), HD.out⟩, HC.out.apart⟩)
    have HKP := Go.Lib.hid (show Keep B (B + 1) w W.drew from (Keep.of_below HB1.out (Nat.le_refl _) B (B + 1)).drewN 1)
    go_wp2_with fail
    go_ret
    exact ⟨by rw [HCV.out]; rfl, HF.out, HKP.out⟩
  case false =>
    go_enter Try.func84, Try.ntmps84
    go_upto_region 2 with fail
    refine wp_gen (R := fun W => Box W w.heap.size [.int .i64 (min f r), .int .i64 (max f r)] ∧ Below w.heap.size w W ∧ W.ownsMap Try.prog 95 (plainElem Try.prog 2) B n D) ⟨HX.out, HB.out, hown.alloc _⟩ ?_
    rintro W ⟨hx, hb, ho⟩
    have HC1 := Go.Lib.hid (HC.out.box.below hb)
    have HX1 := Go.Lib.hid hx
    have HB1 := Go.Lib.hid hb
    have HO1 := Go.Lib.hid ho
    obtain ⟨v, ps, hrun, hv⟩ := ho.drew.look_ok keyed Try.underlying85 (zero64 W.drew) (plainElem_int Try.underlying2 (by decide)) HK.out
    obtain ⟨c, rfl, hc, -⟩ := plainElem_int_inv Try.underlying2 hv
    have HV := Go.Lib.hid (show D.atKey kl (.lit (.int .i64 0)) = .lit (.int .i64 c) from congrArg Prod.fst hc)
    rw [hh] at hrun
    unfold pairV at hrun
    have hc1 : W.cell? ⟨q, 1, none⟩ = some (.int .i64 s) := HC1.out.at_ 1 _ rfl
    have hc2 : W.cell? ⟨q, 2, none⟩ = some (.map (some B)) := HC1.out.at_ 2 _ rfl
    have hp0 : W.cell? ⟨w.heap.size, 0, none⟩ = some (.int .i64 (min f r)) := HX1.out.at_ 0 _ rfl
    have hp1 : W.cell? ⟨w.heap.size, 1, none⟩ = some (.int .i64 (max f r)) := HX1.out.at_ 1 _ rfl
    clear hx hb hv hc hown HX HB ho ps
    refine wp_region_held_drew (S := fun w' => w'.cell? ⟨q, 2, none⟩ = some (.map (some B)) ∧ w'.cell? ⟨w.heap.size, 0, none⟩ = some (.int .i64 (min f r)) ∧ w'.cell? ⟨w.heap.size, 1, none⟩ = some (.int .i64 (max f r)) ∧ (Instr.lookup 85 (.map (some B)) (.agg #[.int .i64 (min f r), .int .i64 (max f r)]) true).run Try.prog w' = .ok (.tuple #[.int .i64 c, .bool false]) w') (by kernel_rfl) (by exact ⟨hc2, hp0, hp1, hrun⟩) (fun hHeld => ?_)
    refine wpAnyH_take (i := 0) (v := ?vnf1) rfl (by kernel_rfl) (by kernel_rfl) (by kernel_rfl) (fun _ _ _ h => h) (Or.inl ⟨by rfl, ?hynf1⟩) (by assumption) ?restnf1
    case hynf1 => (intro w hSw; (try dsimp only at hSw); go_simp; try with_reducible rfl)
    try simp only [List.getElem_toArray, List.getElem_cons_succ, List.getElem_cons_zero, Act.put, List.setIfInBounds_toArray, List.set_cons_zero, List.set_cons_succ]
    refine wpAnyH_take (i := 1) (v := ?vnf2) rfl (by kernel_rfl) (by kernel_rfl) (by kernel_rfl) (fun _ _ _ h => h) (Or.inl ⟨by rfl, ?hynf2⟩) (by assumption) ?restnf2
    case hynf2 => (intro w hSw; (try dsimp only at hSw); go_simp; try with_reducible rfl)
    try simp only [List.getElem_toArray, List.getElem_cons_succ, List.getElem_cons_zero, Act.put, List.setIfInBounds_toArray, List.set_cons_zero, List.set_cons_succ]
    refine wpAnyH_take (i := 2) (v := ?vnf3) rfl (by kernel_rfl) (by kernel_rfl) (by kernel_rfl) (fun _ _ _ h => h) (Or.inl ⟨by rfl, ?hynf3⟩) (by assumption) ?restnf3
    case hynf3 => (intro w hSw; (try dsimp only at hSw); go_simp; try with_reducible rfl)
    try simp only [List.getElem_toArray, List.getElem_cons_succ, List.getElem_cons_zero, Act.put, List.setIfInBounds_toArray, List.set_cons_zero, List.set_cons_succ]
    refine wpAnyH_take (i := 3) (v := ?vnf4) rfl (by kernel_rfl) (by kernel_rfl) (by kernel_rfl) (fun _ _ _ h => h) (Or.inl ⟨by rfl, ?hynf4⟩) (by assumption) ?restnf4
    case hynf4 => (intro w hSw; (try dsimp only at hSw); go_simp; try with_reducible rfl)
    try simp only [List.getElem_toArray, List.getElem_cons_succ, List.getElem_cons_zero, Act.put, List.setIfInBounds_toArray, List.set_cons_zero, List.set_cons_succ]
    refine wpAnyH_take (i := 4) (v := ?vnf5) rfl (by kernel_rfl) (by kernel_rfl) (by kernel_rfl) (fun _ _ _ h => h) (Or.inl ⟨by rfl, ?hynf5⟩) (by assumption) ?restnf5
    case hynf5 => (intro w hSw; (try dsimp only at hSw); go_simp; try with_reducible rfl)
    try simp only [List.getElem_toArray, List.getElem_cons_succ, List.getElem_cons_zero, Act.put, List.setIfInBounds_toArray, List.set_cons_zero, List.set_cons_succ]
    refine wpAnyH_take (i := 5) (v := ?vnf6) rfl (by kernel_rfl) (by kernel_rfl) (by kernel_rfl) (fun _ _ _ h => h) (Or.inl ⟨by rfl, ?hynf6⟩) (by assumption) ?restnf6
    case hynf6 => (intro w hSw; (try dsimp only at hSw); go_simp; try with_reducible rfl)
    try simp only [List.getElem_toArray, List.getElem_cons_succ, List.getElem_cons_zero, Act.put, List.setIfInBounds_toArray, List.set_cons_zero, List.set_cons_succ]
    refine wpAnyH_take (i := 6) (v := ?vnf7) rfl (by kernel_rfl) (by kernel_rfl) (by kernel_rfl) (fun _ _ _ h => h) (Or.inl ⟨by rfl, ?hynf7⟩) (by assumption) ?restnf7
    case hynf7 => (intro w hSw; (try dsimp only at hSw); go_simp; try with_reducible rfl)
    try simp only [List.getElem_toArray, List.getElem_cons_succ, List.getElem_cons_zero, Act.put, List.setIfInBounds_toArray, List.set_cons_zero, List.set_cons_succ]
    refine wpAnyH_take (i := 7) (v := ?vnf8) rfl (by kernel_rfl) (by kernel_rfl) (by kernel_rfl) (fun _ _ _ h => h) (Or.inl ⟨by rfl, ?hynf8⟩) (by assumption) ?restnf8
    case hynf8 => (intro w hSw; (try dsimp only at hSw); go_simp; try with_reducible rfl)
    try simp only [List.getElem_toArray, List.getElem_cons_succ, List.getElem_cons_zero, Act.put, List.setIfInBounds_toArray, List.set_cons_zero, List.set_cons_succ]
    refine wpAnyH_take (i := 8) (v := ?vnf9) rfl (by kernel_rfl) (by kernel_rfl) (by kernel_rfl) (fun _ _ _ h => h) (Or.inl ⟨by rfl, ?hynf9⟩) (by assumption) ?restnf9
    case hynf9 => (intro w hSw; (try dsimp only at hSw); go_simp; try with_reducible rfl)
    try simp only [List.getElem_toArray, List.getElem_cons_succ, List.getElem_cons_zero, Act.put, List.setIfInBounds_toArray, List.set_cons_zero, List.set_cons_succ]
    refine wpAnyH_take (i := 9) (v := ?vnf10) rfl (by kernel_rfl) (by kernel_rfl) (by kernel_rfl) (fun _ _ _ h => h) (Or.inl ⟨by rfl, ?hynf10⟩) (by assumption) ?restnf10
    case hynf10 => (intro w hSw; (try dsimp only at hSw); go_simp; try with_reducible rfl)
    try simp only [List.getElem_toArray, List.getElem_cons_succ, List.getElem_cons_zero, Act.put, List.setIfInBounds_toArray, List.set_cons_zero, List.set_cons_succ]
    refine wpAnyH_take (i := 10) (v := ?vnf11) rfl (by kernel_rfl) (by kernel_rfl) (by kernel_rfl) (fun _ _ _ h => h) (Or.inl ⟨by rfl, ?hynf11⟩) (by assumption) ?restnf11
    case hynf11 => (intro w hSw; (try dsimp only at hSw); go_simp; try with_reducible rfl)
    try simp only [List.getElem_toArray, List.getElem_cons_succ, List.getElem_cons_zero, Act.put, List.setIfInBounds_toArray, List.set_cons_zero, List.set_cons_succ]
    refine wpAnyH_done (by kernel_rfl) ?_ _
    clear hrun hc2 hp0 hp1 hHeld
    have hc1 : W.drew.cell? ⟨q, 1, none⟩ = some (.int .i64 s) := HC1.out.drew.at_ 1 _ rfl
    go_wp2_with fail
    refine (HN.out _).mono ?_
    rintro _ _ ⟨rfl, rfl⟩
    go_upto_region 5 with fail
    obtain ⟨w3, hupd, hown3, hgrow3⟩ := (HO1.out.drew.drew).update keyed Try.underlying85 hn HK.out (plainElem_int Try.underlying2 HWF.out)
    unfold pairV at hupd
    have HK3 := Go.Lib.hid (keep_grown hgrow3)
    have HM3 := Go.Lib.hid (Memo.put hown3 HO1.out.isMap HK.out (needI_pair s f r).symm HD.out)
    have HC3 := Go.Lib.hid ((HC1.out.drew.drew).keep HK3.out (by have := HC.out.apart; omega))
    have HX3 := Go.Lib.hid ((HX1.out.drew.drew).keep HK3.out (by have := HC.out.memo.lt; omega))
    have HF := Go.Lib.hid (show Chn w3 q B (n + 1) l s from ⟨HC3.out, HM3.out, HC.out.apart⟩)
    have HKP := Go.Lib.hid (show Keep B (B + 1) w w3 from ((Keep.of_below HB1.out (Nat.le_refl _) B (B + 1)).drewN 2).trans HK3.out)
    clear hown3 hgrow3
    have hc2 : W.drew.drew.cell? ⟨q, 2, none⟩ = some (.map (some B)) := HC1.out.drew.drew.at_ 2 _ rfl
    have hp0 : W.drew.drew.cell? ⟨w.heap.size, 0, none⟩ = some (.int .i64 (min f r)) := HX1.out.drew.drew.at_ 0 _ rfl
    have hp1 : W.drew.drew.cell? ⟨w.heap.size, 1, none⟩ = some (.int .i64 (max f r)) := HX1.out.drew.drew.at_ 1 _ rfl
    refine wp_region_held_drew (S := fun w' => w'.cell? ⟨q, 2, none⟩ = some (.map (some B)) ∧ w'.cell? ⟨w.heap.size, 0, none⟩ = some (.int .i64 (min f r)) ∧ w'.cell? ⟨w.heap.size, 1, none⟩ = some (.int .i64 (max f r))) (by kernel_rfl) (by exact ⟨hc2, hp0, hp1⟩) (fun hHeld => ?_)
    refine wpAnyH_take (i := 0) (v := ?vu1) rfl (by kernel_rfl) (by kernel_rfl) (by kernel_rfl) (fun _ _ _ h => h) (Or.inl ⟨by rfl, ?hyu1⟩) (by assumption) ?restu1
    case hyu1 => (intro w hSw; (try dsimp only at hSw); go_simp; try with_reducible rfl)
    try simp only [List.getElem_toArray, List.getElem_cons_succ, List.getElem_cons_zero, Act.put, List.setIfInBounds_toArray, List.set_cons_zero, List.set_cons_succ]
    refine wpAnyH_take (i := 1) (v := ?vu2) rfl (by kernel_rfl) (by kernel_rfl) (by kernel_rfl) (fun _ _ _ h => h) (Or.inl ⟨by rfl, ?hyu2⟩) (by assumption) ?restu2
    case hyu2 => (intro w hSw; (try dsimp only at hSw); go_simp; try with_reducible rfl)
    try simp only [List.getElem_toArray, List.getElem_cons_succ, List.getElem_cons_zero, Act.put, List.setIfInBounds_toArray, List.set_cons_zero, List.set_cons_succ]
    refine wpAnyH_take (i := 2) (v := ?vu3) rfl (by kernel_rfl) (by kernel_rfl) (by kernel_rfl) (fun _ _ _ h => h) (Or.inl ⟨by rfl, ?hyu3⟩) (by assumption) ?restu3
    case hyu3 => (intro w hSw; (try dsimp only at hSw); go_simp; try with_reducible rfl)
    try simp only [List.getElem_toArray, List.getElem_cons_succ, List.getElem_cons_zero, Act.put, List.setIfInBounds_toArray, List.set_cons_zero, List.set_cons_succ]
    refine wpAnyH_take (i := 3) (v := ?vu4) rfl (by kernel_rfl) (by kernel_rfl) (by kernel_rfl) (fun _ _ _ h => h) (Or.inl ⟨by rfl, ?hyu4⟩) (by assumption) ?restu4
    case hyu4 => (intro w hSw; (try dsimp only at hSw); go_simp; try with_reducible rfl)
    try simp only [List.getElem_toArray, List.getElem_cons_succ, List.getElem_cons_zero, Act.put, List.setIfInBounds_toArray, List.set_cons_zero, List.set_cons_succ]
    refine wpAnyH_take (i := 4) (v := ?vu5) rfl (by kernel_rfl) (by kernel_rfl) (by kernel_rfl) (fun _ _ _ h => h) (Or.inl ⟨by rfl, ?hyu5⟩) (by assumption) ?restu5
    case hyu5 => (intro w hSw; (try dsimp only at hSw); go_simp; try with_reducible rfl)
    try simp only [List.getElem_toArray, List.getElem_cons_succ, List.getElem_cons_zero, Act.put, List.setIfInBounds_toArray, List.set_cons_zero, List.set_cons_succ]
    refine wpAnyH_take (i := 5) (v := ?vu6) rfl (by kernel_rfl) (by kernel_rfl) (by kernel_rfl) (fun _ _ _ h => h) (Or.inl ⟨by rfl, ?hyu6⟩) (by assumption) ?restu6
    case hyu6 => (intro w hSw; (try dsimp only at hSw); go_simp; try with_reducible rfl)
    try simp only [List.getElem_toArray, List.getElem_cons_succ, List.getElem_cons_zero, Act.put, List.setIfInBounds_toArray, List.set_cons_zero, List.set_cons_succ]
    refine wpAnyH_ready (rs := [6]) (by kernel_rfl) (by simp) ?_
    refine AllReadyH.cons rfl (fun K hK => ?_) AllReadyH.nil
    go_simp
    refine hK.out _ _ ?_ (fun hHeld => ?_)
    · exact ⟨(HC3.out.at_ 2 _ rfl), (HX3.out.at_ 0 _ rfl), (HX3.out.at_ 1 _ rfl)⟩
    clear hK K
    try simp only [List.getElem_toArray, List.getElem_cons_succ, List.getElem_cons_zero, Act.put, List.setIfInBounds_toArray, List.set_cons_zero, List.set_cons_succ]
    refine wpAnyH_done (by kernel_rfl) ?_ _
    clear hupd hc1 hc2 hp0 hp1 hHeld
    go_wp2_with fail
    go_ret
    exact ⟨rfl, HF.out, HKP.out⟩
theorem Keep.wide {lo hi lo' hi' : Nat} {w w' : World} (h : Keep lo hi w w') (h1 : lo' ≤ lo) (h2 : hi ≤ hi') : Keep lo' hi' w w' := ⟨h.os, h.tape, h.output, h.size, fun k hk ho => h.block k hk (by omega)⟩
theorem Chn.drew {w : World} {q B n : Nat} {l s : Int} (h : Chn w q B n l s) : Chn w.drew q B n l s := ⟨h.box.drew, h.memo.drew, h.apart⟩
theorem Chn.keep {w w1 : World} {q B n lo hi : Nat} {l s : Int} (h : Chn w q B n l s) (hk : Keep lo hi w w1) (hq : q < lo ∨ hi ≤ q) (hB : B < lo ∨ hi ≤ B) : Chn w1 q B n l s := ⟨h.box.keep hk hq, h.memo.keep hk hB, h.apart⟩
theorem Chn.below {w w1 : World} {q B n : Nat} {l s : Int} (h : Chn w q B n l s) (hb : Below w.heap.size w w1) : Chn w1 q B n l s := ⟨h.box.below hb, h.memo.below hb, h.apart⟩
set_option maxRecDepth 100000 in
set_option maxHeartbeats 4000000 in
theorem implSlack (q B n : Nat) (l s f r : Int) (w : World) (C : Chn w q B n l s) (hn : n < maxLen) (h : Legs s f r) (hl : 40 ≤ l ∧ l ≤ 200) :
    Calls Try.prog 60 #[.pointer (some ⟨q, 0, none⟩), .int .i64 f, .int .i64 r] w (fun e w' => e = .returned (.int .i64 (1000 * l - needI s f r)) ∧ Chn w' q B (n + 1) l s ∧ Keep B (B + 1) w w') := by
  have hnb := needI_bd h
  have e1 : IntKind.i64.wrap (1000 * l) = 1000 * l := IntWalk.i64_in _ (by omega)
  have e2 : IntKind.i64.wrap (1000 * l - needI s f r) = 1000 * l - needI s f r := IntWalk.i64_in _ (by omega)
  have HC := Go.Lib.hid C
  have HND := Go.Lib.hid (fun w0 C0 => implNeed q B n l s f r w0 C0 hn h)
  have hc0 : w.cell? ⟨q, 0, none⟩ = some (.int .i64 l) := C.box.at_ 0 _ rfl
  clear C hn h hl hnb
  generalize needI s f r = nd at *
  go_enter Try.func60, Try.ntmps60
  go_upto_region 1 with fail
  refine wp_region_held_drew (S := fun w' => w'.cell? ⟨q, 0, none⟩ = some (.int .i64 l)) (by kernel_rfl) (by exact hc0) (fun hHeld => ?_)
  refine wpAnyH_take (i := 0) (v := ?vs1) rfl (by kernel_rfl) (by kernel_rfl) (by kernel_rfl) (fun _ _ _ h => h) (Or.inl ⟨by rfl, ?hys1⟩) (by assumption) ?rests1
  case hys1 => (intro w hSw; (try dsimp only at hSw); go_simp; try with_reducible rfl)
  try simp only [List.getElem_toArray, List.getElem_cons_succ, List.getElem_cons_zero, Act.put, List.setIfInBounds_toArray, List.set_cons_zero, List.set_cons_succ]
  refine wpAnyH_take (i := 1) (v := ?vs2) rfl (by kernel_rfl) (by kernel_rfl) (by kernel_rfl) (fun _ _ _ h => h) (Or.inl ⟨by rfl, ?hys2⟩) (by assumption) ?rests2
  case hys2 => (intro w hSw; (try dsimp only at hSw); go_simp; try with_reducible rfl)
  try simp only [List.getElem_toArray, List.getElem_cons_succ, List.getElem_cons_zero, Act.put, List.setIfInBounds_toArray, List.set_cons_zero, List.set_cons_succ]
  refine wpAnyH_take (i := 2) (v := ?vs3) rfl (by kernel_rfl) (by kernel_rfl) (by kernel_rfl) (fun _ _ _ h => h) (Or.inl ⟨by rfl, ?hys3⟩) (by assumption) ?rests3
  case hys3 => (intro w hSw; (try dsimp only at hSw); go_simp; try with_reducible rfl)
  try simp only [List.getElem_toArray, List.getElem_cons_succ, List.getElem_cons_zero, Act.put, List.setIfInBounds_toArray, List.set_cons_zero, List.set_cons_succ]
  refine wpAnyH_take (i := 3) (v := ?vs4) rfl (by kernel_rfl) (by kernel_rfl) (by kernel_rfl) (fun _ _ _ h => h) (Or.inl ⟨by rfl, ?hys4⟩) (by assumption) ?rests4
  case hys4 => (intro w hSw; (try dsimp only at hSw); go_simp; try with_reducible rfl)
  try simp only [List.getElem_toArray, List.getElem_cons_succ, List.getElem_cons_zero, Act.put, List.setIfInBounds_toArray, List.set_cons_zero, List.set_cons_succ]
  refine wpAnyH_take (i := 4) (v := ?vs5) rfl (by kernel_rfl) (by kernel_rfl) (by kernel_rfl) (fun _ _ _ h => h) (Or.inl ⟨by rfl, ?hys5⟩) (by assumption) ?rests5
  case hys5 => (intro w hSw; (try dsimp only at hSw); go_simp; try with_reducible rfl)
  try simp only [List.getElem_toArray, List.getElem_cons_succ, List.getElem_cons_zero, Act.put, List.setIfInBounds_toArray, List.set_cons_zero, List.set_cons_succ]
  refine wpAnyH_take (i := 5) (v := ?vs6) rfl (by kernel_rfl) (by kernel_rfl) (by kernel_rfl) (fun _ _ _ h => h) (Or.inl ⟨by rfl, ?hys6⟩) (by assumption) ?rests6
  case hys6 => (intro w hSw; (try dsimp only at hSw); go_simp; try with_reducible rfl)
  try simp only [List.getElem_toArray, List.getElem_cons_succ, List.getElem_cons_zero, Act.put, List.setIfInBounds_toArray, List.set_cons_zero, List.set_cons_succ]
  refine wpAnyH_take (i := 6) (v := ?vs7) rfl (by kernel_rfl) (by kernel_rfl) (by kernel_rfl) (fun _ _ _ h => h) (Or.inl ⟨by rfl, ?hys7⟩) (by assumption) ?rests7
  case hys7 => (intro w hSw; (try dsimp only at hSw); go_simp; try with_reducible rfl)
  try simp only [List.getElem_toArray, List.getElem_cons_succ, List.getElem_cons_zero, Act.put, List.setIfInBounds_toArray, List.set_cons_zero, List.set_cons_succ]
  refine wpAnyH_take (i := 7) (v := ?vs8) rfl (by kernel_rfl) (by kernel_rfl) (by kernel_rfl) (fun _ _ _ h => h) (Or.inl ⟨by rfl, ?hys8⟩) (by assumption) ?rests8
  case hys8 => (intro w hSw; (try dsimp only at hSw); go_simp; try with_reducible rfl)
  try simp only [List.getElem_toArray, List.getElem_cons_succ, List.getElem_cons_zero, Act.put, List.setIfInBounds_toArray, List.set_cons_zero, List.set_cons_succ]
  refine wpAnyH_ready (rs := [8]) (by kernel_rfl) (by simp) ?_
  refine AllReadyH.cons rfl (fun K hK => ?_) AllReadyH.nil
  go_simp
  (go_at_call 84; refine (HND.out _ HC.out.drew).mono ?_; rintro _ wc ⟨rfl, hC, hK0⟩)
  refine hK.out _ _ ?_ (fun hHeld => ?_)
  · exact hC.box.at_ 0 _ rfl
  clear hK K
  try simp only [List.getElem_toArray, List.getElem_cons_succ, List.getElem_cons_zero, Act.put, List.setIfInBounds_toArray, List.set_cons_zero, List.set_cons_succ]
  refine wpAnyH_take (i := 9) (v := ?vs9) rfl (by kernel_rfl) (by kernel_rfl) (by kernel_rfl) (fun _ _ _ h => h) (Or.inl ⟨by rfl, ?hys9⟩) (by assumption) ?rests9
  case hys9 => (intro w hSw; (try dsimp only at hSw); go_simp; try with_reducible rfl)
  try simp only [List.getElem_toArray, List.getElem_cons_succ, List.getElem_cons_zero, Act.put, List.setIfInBounds_toArray, List.set_cons_zero, List.set_cons_succ]
  refine wpAnyH_take (i := 10) (v := ?vs10) rfl (by kernel_rfl) (by kernel_rfl) (by kernel_rfl) (fun _ _ _ h => h) (Or.inl ⟨by rfl, ?hys10⟩) (by assumption) ?rests10
  case hys10 => (intro w hSw; (try dsimp only at hSw); go_simp; try with_reducible rfl)
  try simp only [List.getElem_toArray, List.getElem_cons_succ, List.getElem_cons_zero, Act.put, List.setIfInBounds_toArray, List.set_cons_zero, List.set_cons_succ]
  refine wpAnyH_done (by kernel_rfl) ?_ _
  have HC2 := Go.Lib.hid hC
  have HK2 := Go.Lib.hid (((Keep.refl B (B + 1) w).drewN 1).trans hK0)
  clear hC hK0 hc0
  go_wp2_with fail
  go_ret
  exact ⟨rfl, HC2.out, HK2.out⟩
set_option maxRecDepth 100000 in
set_option maxHeartbeats 4000000 in
theorem implMoveTo (q B n lo hi : Nat) (l s t : Int) (w : World) (C : Chn w q B n l s) (h1 : lo ≤ q ∧ q < hi) (h2 : lo ≤ B ∧ B < hi) :
    Calls Try.prog 59 #[.pointer (some ⟨q, 0, none⟩), .int .i64 t] w (fun e w' => e = .returned (.tuple #[]) ∧ Chn w' q B 0 l t ∧ Keep lo hi w w') := by
  have hc2 : w.cell? ⟨q, 2, none⟩ = some (.map (some B)) := C.box.at_ 2 _ rfl
  obtain ⟨w1, hcl, hm, ht⟩ := C.memo.clear (needI t)
  have hk := keep_turned ht
  have hx := C.box.keep hk (by have := C.apart; omega)
  have hc1 : w1.cell? ⟨q, 1, none⟩ = some (.int .i64 s) := hx.at_ 1 _ rfl
  have hf1 : w1.frozen? ⟨q, 1, none⟩ = false := hx.fr 1
  have HF := Go.Lib.hid (show Chn (w1.setCell ⟨q, 1, none⟩ (.int .i64 t)) q B 0 l t from ⟨hx.set (.int .i64 t) (by simp), hm.setCell C.apart _, C.apart⟩)
  have HK := Go.Lib.hid (show Keep lo hi w (w1.setCell ⟨q, 1, none⟩ (.int .i64 t)) from (hk.wide h2.1 (by omega)).setCell h1.1 h1.2 _)
  clear hm ht hk hx C h1 h2
  go_enter Try.func59, Try.ntmps59
  go_wp2_with (simp only [hcl])
  go_end0
  exact ⟨rfl, HF.out, HK.out⟩
set_option maxRecDepth 100000 in
set_option maxHeartbeats 4000000 in
theorem implChainAt (l s : Int) (w : World) :
    Calls Try.prog 56 #[.int .i64 s, .int .i64 l] w (fun e w' => e = .returned (.pointer (some ⟨w.heap.size + 1, 0, none⟩)) ∧ Chn w' (w.heap.size + 1) w.heap.size 0 l s ∧ Below w.heap.size w w') := by
  have hmm := @run_makeMap Try.prog
  go_enter Try.func56, Try.ntmps56
  go_wp2_with fail
  go_ret
  exact ⟨rfl, ⟨Box.new (by simp) rfl, (Memo.made w _).alloc _, by omega⟩, ((Below.refl _ _).alloc (Nat.le_refl _) _).alloc (by simp) _⟩
end Go.Proofs.Ytilepehlmjohbaa
