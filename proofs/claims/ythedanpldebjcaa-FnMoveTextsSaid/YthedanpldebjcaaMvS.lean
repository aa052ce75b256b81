/- The model of chapter 11: moves and their letters. -/
import Derived.Test.YthedanpldebjcaaMvB
namespace Go.Proofs.Ythedanpldebjcaa
open Go.RowKit
set_option linter.unusedSimpArgs false
set_option linter.unusedVariables false

theorem add_mv (x y : List UInt8) (h : x.length + y.length ≤ 9223372036854775807) (w : World) :
    (Op.stringOp .add ⟨x.toArray⟩ ⟨y.toArray⟩).run Try.prog w = .ok (.string ⟨(x ++ y).toArray⟩) w := by
  rw [run_string_add_sum w _ _ (by simpa [ByteArray.size] using h)]
  congr 3
theorem okM_yes {b : UInt8} (h : okM b = true) : b = 100 ∨ b = 117 ∨ b = 108 ∨ b = 114 := by
  unfold okM at h
  simp only [Bool.or_eq_true, beq_iff_eq] at h
  rcases h with ((h | h) | h) | h
  · exact .inl h
  · exact .inr (.inl h)
  · exact .inr (.inr (.inl h))
  · exact .inr (.inr (.inr h))
theorem byte_ne {b c : UInt8} (h : b ≠ c) : ((b.toNat : Int) == (c.toNat : Int)) = false := by
  rw [beq_eq_false_iff_ne]
  intro e
  apply h
  exact UInt8.toNat_inj.1 (by omega)
theorem okM_no {b : UInt8} (h : okM b = false) : ((b.toNat : Int) == 100) = false ∧ ((b.toNat : Int) == 117) = false ∧ ((b.toNat : Int) == 108) = false ∧ ((b.toNat : Int) == 114) = false := by
  have hn : ∀ c : UInt8, okM c = true → b ≠ c := fun c hc e => by rw [e, hc] at h; exact absurd h (by decide)
  exact ⟨byte_ne (hn 100 (by decide)), byte_ne (hn 117 (by decide)), byte_ne (hn 108 (by decide)), byte_ne (hn 114 (by decide))⟩
theorem str_empty {l : List UInt8} (w : World) (h : 0 < l.length) : (Op.stringOp .eql ⟨l.toArray⟩ ⟨#[]⟩).run Try.prog w = .ok (.bool false) w := by
  have e : (ByteArray.mk #[]).toList = [] := ByteArray.toList_mk []
  have e2 : (l == []) = false := by
    rw [beq_eq_false_iff_ne]
    intro h2
    rw [h2] at h
    exact absurd h (by decide)
  simp [Op.stringOp, e, e2]
set_option maxRecDepth 100000 in
set_option maxHeartbeats 4000000 in
theorem specTextM (A : Option Addr) (c : Nat) (zs : List Int) (w : World) (L : Ls zs A c w) (hr : rngB 0 3 zs = true) (h60 : zs.length ≤ 60) :
    Calls Try.prog 73 #[.slice A zs.length c] w (fun e w' => e = .returned (.string ⟨(mText zs).toArray⟩) ∧ Eqw w w') := by
  have HL := Go.Lib.hid L
  have HR := Go.Lib.hid (fun k (hk : k < zs.length) => show 0 ≤ zs.getD k 0 ∧ zs.getD k 0 ≤ 3 from rngB_iff.1 hr _ (by rw [List.getD_eq_getElem?_getD, List.getElem?_eq_getElem hk]; exact List.getElem_mem hk))
  clear L hr
  go_enter Try.func73, Try.ntmps73
  go_wp2_with fail
  go_loopw [3, 4] (fun v u wr => ∃ k : Nat, k ≤ zs.length ∧ u = .int .i64 k ∧ v = .string ⟨((zs.take k).map chM).toArray⟩ ∧ Eqw w wr) (fun _ u _ => zs.length - (intOf u).toNat)
  case atStart => exact ⟨0, Nat.zero_le _, rfl, rfl, Eqw.refl _⟩
  case round =>
    obtain ⟨k, hk, rfl, rfl, hw⟩ := hrel
    have HW := Go.Lib.hid hw
    clear hw
    by_cases hlt : k < zs.length
    case neg =>
      obtain rfl : k = zs.length := by omega
      rw [List.take_length]
      have hnl : ¬ ((zs.length : Nat) : Int) < zs.length := by omega
      by_cases h0 : zs.length = 0
      case pos =>
        have HV := Go.Lib.hid (show mText zs = [45] by unfold mText; rw [if_pos h0])
        have e : zs = [] := List.length_eq_zero_iff.1 h0
        rw [show zs.map chM = [] by rw [e]; rfl]
        clear e
        go_wp2_with fail
        go_ret
        exact ⟨by rw [HV.out]; rfl, HW.out⟩
      case neg =>
        have HV := Go.Lib.hid (show mText zs = zs.map chM by unfold mText; rw [if_neg h0])
        have heq : ∀ w0 : World, (Op.stringOp .eql ⟨(zs.map chM).toArray⟩ ⟨#[]⟩).run Try.prog w0 = .ok (.bool false) w0 := fun w0 => str_empty w0 (by rw [List.length_map]; omega)
        have hie : (zs.map chM).isEmpty = false := by
          rw [← Bool.not_eq_true, List.isEmpty_iff]
          intro e
          exact h0 (by simpa using congrArg List.length e)
        generalize zs.map chM = tx at *
        clear h0
        go_wp2_with fail
        go_ret
        exact ⟨by rw [HV.out]; rfl, HW.out⟩
    case pos =>
      have hkl : (k : Int) < zs.length := by omega
      obtain ⟨b, ob, rfl, hblt, hc⟩ := (HL.out.eqw HW.out).at_ hlt
      have hcell := hc k hlt
      have h3 := HR.out k hlt
      have HSU := Go.Lib.hid (show (zs.take (k + 1)).map chM = (zs.take k).map chM ++ [chM (zs.getD k 0)] by
        rw [List.take_add_one, List.map_append]
        simp [List.getD, hlt])
      clear hc
      generalize zs.getD k 0 = z at *
      have h4 : z = 0 ∨ z = 1 ∨ z = 2 ∨ z = 3 := by omega
      clear h3
      rcases h4 with rfl | rfl | rfl | rfl
      · have ew : IntKind.i64.wrap 1 = 1 := by decide
        have hext : (ByteArray.mk #[100, 117, 108, 114]).extract 0 1 = ⟨#[100]⟩ := by rfl
        have hadd : ∀ w0 : World, (Op.stringOp .add ⟨((zs.take k).map chM).toArray⟩ ⟨#[100]⟩).run Try.prog w0 = .ok (.string ⟨((zs.take k).map chM ++ [100]).toArray⟩) w0 := fun w0 => add_mv ((zs.take k).map chM) [100] (by rw [List.length_map, List.length_take]; simp; omega) w0
        generalize (zs.take k).map chM = tx at *
        go_upto_region 5 with fail
        refine wp_region_held_drew (S := fun w' => w'.cell? ⟨b, ob + k, none⟩ = some (.int .i64 0)) (by kernel_rfl) (by exact hcell) (fun hHeld => ?_)
        refine wpAnyH_take (i := 0) (v := ?vt01) rfl (by kernel_rfl) (by kernel_rfl) (by kernel_rfl) (fun _ _ _ h => h) (Or.inl ⟨by rfl, ?hyt01⟩) (by assumption) ?restt01
        case hyt01 => (intro w hSw; (try dsimp only at hSw); go_simp; try with_reducible rfl)
        try simp only [List.getElem_toArray, List.getElem_cons_succ, List.getElem_cons_zero, Act.put, List.setIfInBounds_toArray, List.set_cons_zero, List.set_cons_succ]
        refine wpAnyH_take (i := 1) (v := ?vt02) rfl (by kernel_rfl) (by kernel_rfl) (by kernel_rfl) (fun _ _ _ h => h) (Or.inl ⟨by rfl, ?hyt02⟩) (by assumption) ?restt02
        case hyt02 => (intro w hSw; (try dsimp only at hSw); go_simp; try with_reducible rfl)
        try simp only [List.getElem_toArray, List.getElem_cons_succ, List.getElem_cons_zero, Act.put, List.setIfInBounds_toArray, List.set_cons_zero, List.set_cons_succ]
        refine wpAnyH_take (i := 2) (v := ?vt03) rfl (by kernel_rfl) (by kernel_rfl) (by kernel_rfl) (fun _ _ _ h => h) (Or.inl ⟨by rfl, ?hyt03⟩) (by assumption) ?restt03
        case hyt03 => (intro w hSw; (try dsimp only at hSw); go_simp; try with_reducible rfl)
        try simp only [List.getElem_toArray, List.getElem_cons_succ, List.getElem_cons_zero, Act.put, List.setIfInBounds_toArray, List.set_cons_zero, List.set_cons_succ]
        refine wpAnyH_take (i := 3) (v := ?vt04) rfl (by kernel_rfl) (by kernel_rfl) (by kernel_rfl) (fun _ _ _ h => h) (Or.inl ⟨by rfl, ?hyt04⟩) (by assumption) ?restt04
        case hyt04 => (intro w hSw; (try dsimp only at hSw); go_simp; try with_reducible rfl)
        try simp only [List.getElem_toArray, List.getElem_cons_succ, List.getElem_cons_zero, Act.put, List.setIfInBounds_toArray, List.set_cons_zero, List.set_cons_succ]
        refine wpAnyH_take (i := 4) (v := ?vt05) rfl (by kernel_rfl) (by kernel_rfl) (by kernel_rfl) (fun _ _ _ h => h) (Or.inl ⟨by rfl, ?hyt05⟩) (by assumption) ?restt05
        case hyt05 => (intro w hSw; (try dsimp only at hSw); go_simp; try with_reducible rfl)
        try simp only [List.getElem_toArray, List.getElem_cons_succ, List.getElem_cons_zero, Act.put, List.setIfInBounds_toArray, List.set_cons_zero, List.set_cons_succ]
        refine wpAnyH_take (i := 5) (v := ?vt06) rfl (by kernel_rfl) (by kernel_rfl) (by kernel_rfl) (fun _ _ _ h => h) (Or.inl ⟨by rfl, ?hyt06⟩) (by assumption) ?restt06
        case hyt06 => (intro w hSw; (try dsimp only at hSw); go_simp; try with_reducible rfl)
        try simp only [List.getElem_toArray, List.getElem_cons_succ, List.getElem_cons_zero, Act.put, List.setIfInBounds_toArray, List.set_cons_zero, List.set_cons_succ]
        refine wpAnyH_take (i := 6) (v := ?vt07) rfl (by kernel_rfl) (by kernel_rfl) (by kernel_rfl) (fun _ _ _ h => h) (Or.inl ⟨by rfl, ?hyt07⟩) (by assumption) ?restt07
        case hyt07 => (intro w hSw; (try dsimp only at hSw); go_simp; try with_reducible rfl)
        try simp only [List.getElem_toArray, List.getElem_cons_succ, List.getElem_cons_zero, Act.put, List.setIfInBounds_toArray, List.set_cons_zero, List.set_cons_succ]
        refine wpAnyH_take (i := 7) (v := ?vt08) rfl (by kernel_rfl) (by kernel_rfl) (by kernel_rfl) (fun _ _ _ h => h) (Or.inl ⟨by rfl, ?hyt08⟩) (by assumption) ?restt08
        case hyt08 => (intro w hSw; (try dsimp only at hSw); go_simp; try with_reducible rfl)
        try simp only [List.getElem_toArray, List.getElem_cons_succ, List.getElem_cons_zero, Act.put, List.setIfInBounds_toArray, List.set_cons_zero, List.set_cons_succ]
        refine wpAnyH_take (i := 8) (v := ?vt09) rfl (by kernel_rfl) (by kernel_rfl) (by kernel_rfl) (fun _ _ _ h => h) (Or.inl ⟨by rfl, ?hyt09⟩) (by assumption) ?restt09
        case hyt09 => (intro w hSw; (try dsimp only at hSw); go_simp; try with_reducible rfl)
        try simp only [List.getElem_toArray, List.getElem_cons_succ, List.getElem_cons_zero, Act.put, List.setIfInBounds_toArray, List.set_cons_zero, List.set_cons_succ]
        refine wpAnyH_take (i := 9) (v := ?vt010) rfl (by kernel_rfl) (by kernel_rfl) (by kernel_rfl) (fun _ _ _ h => h) (Or.inl ⟨by rfl, ?hyt010⟩) (by assumption) ?restt010
        case hyt010 => (intro w hSw; (try dsimp only at hSw); go_simp; try with_reducible rfl)
        try simp only [List.getElem_toArray, List.getElem_cons_succ, List.getElem_cons_zero, Act.put, List.setIfInBounds_toArray, List.set_cons_zero, List.set_cons_succ]
        refine wpAnyH_take (i := 10) (v := ?vt011) rfl (by kernel_rfl) (by kernel_rfl) (by kernel_rfl) (fun _ _ _ h => h) (Or.inl ⟨by rfl, ?hyt011⟩) (by assumption) ?restt011
        case hyt011 => (intro w hSw; (try dsimp only at hSw); go_simp; try with_reducible rfl)
        try simp only [List.getElem_toArray, List.getElem_cons_succ, List.getElem_cons_zero, Act.put, List.setIfInBounds_toArray, List.set_cons_zero, List.set_cons_succ]
        refine wpAnyH_take (i := 11) (v := ?vt012) rfl (by kernel_rfl) (by kernel_rfl) (by kernel_rfl) (fun _ _ _ h => h) (Or.inl ⟨by rfl, ?hyt012⟩) (by assumption) ?restt012
        case hyt012 => (intro w hSw; (try dsimp only at hSw); go_simp; try with_reducible rfl)
        try simp only [List.getElem_toArray, List.getElem_cons_succ, List.getElem_cons_zero, Act.put, List.setIfInBounds_toArray, List.set_cons_zero, List.set_cons_succ]
        refine wpAnyH_take (i := 12) (v := ?vt013) rfl (by kernel_rfl) (by kernel_rfl) (by kernel_rfl) (fun _ _ _ h => h) (Or.inl ⟨by rfl, ?hyt013⟩) (by assumption) ?restt013
        case hyt013 => (intro w hSw; (try dsimp only at hSw); go_simp; try with_reducible rfl)
        try simp only [List.getElem_toArray, List.getElem_cons_succ, List.getElem_cons_zero, Act.put, List.setIfInBounds_toArray, List.set_cons_zero, List.set_cons_succ]
        refine wpAnyH_done (by kernel_rfl) ?_ _
        have HWN := Go.Lib.hid (show Eqw w wr.drew from HW.out.drewN 1)
        clear hcell hHeld
        go_wp2_with fail
        go_roundw
        case rel => exact ⟨k + 1, by omega, by go_num, by rw [HSU.out]; rfl, HWN.out⟩
        case measure => simp [intOf]; omega
      · have ew : IntKind.i64.wrap 2 = 2 := by decide
        have hext : (ByteArray.mk #[100, 117, 108, 114]).extract 1 2 = ⟨#[117]⟩ := by rfl
        have hadd : ∀ w0 : World, (Op.stringOp .add ⟨((zs.take k).map chM).toArray⟩ ⟨#[117]⟩).run Try.prog w0 = .ok (.string ⟨((zs.take k).map chM ++ [117]).toArray⟩) w0 := fun w0 => add_mv ((zs.take k).map chM) [117] (by rw [List.length_map, List.length_take]; simp; omega) w0
        generalize (zs.take k).map chM = tx at *
        go_upto_region 5 with fail
        refine wp_region_held_drew (S := fun w' => w'.cell? ⟨b, ob + k, none⟩ = some (.int .i64 1)) (by kernel_rfl) (by exact hcell) (fun hHeld => ?_)
        refine wpAnyH_take (i := 0) (v := ?vt11) rfl (by kernel_rfl) (by kernel_rfl) (by kernel_rfl) (fun _ _ _ h => h) (Or.inl ⟨by rfl, ?hyt11⟩) (by assumption) ?restt11
        case hyt11 => (intro w hSw; (try dsimp only at hSw); go_simp; try with_reducible rfl)
        try simp only [List.getElem_toArray, List.getElem_cons_succ, List.getElem_cons_zero, Act.put, List.setIfInBounds_toArray, List.set_cons_zero, List.set_cons_succ]
        refine wpAnyH_take (i := 1) (v := ?vt12) rfl (by kernel_rfl) (by kernel_rfl) (by kernel_rfl) (fun _ _ _ h => h) (Or.inl ⟨by rfl, ?hyt12⟩) (by assumption) ?restt12
        case hyt12 => (intro w hSw; (try dsimp only at hSw); go_simp; try with_reducible rfl)
        try simp only [List.getElem_toArray, List.getElem_cons_succ, List.getElem_cons_zero, Act.put, List.setIfInBounds_toArray, List.set_cons_zero, List.set_cons_succ]
        refine wpAnyH_take (i := 2) (v := ?vt13) rfl (by kernel_rfl) (by kernel_rfl) (by kernel_rfl) (fun _ _ _ h => h) (Or.inl ⟨by rfl, ?hyt13⟩) (by assumption) ?restt13
        case hyt13 => (intro w hSw; (try dsimp only at hSw); go_simp; try with_reducible rfl)
        try simp only [List.getElem_toArray, List.getElem_cons_succ, List.getElem_cons_zero, Act.put, List.setIfInBounds_toArray, List.set_cons_zero, List.set_cons_succ]
        refine wpAnyH_take (i := 3) (v := ?vt14) rfl (by kernel_rfl) (by kernel_rfl) (by kernel_rfl) (fun _ _ _ h => h) (Or.inl ⟨by rfl, ?hyt14⟩) (by assumption) ?restt14
        case hyt14 => (intro w hSw; (try dsimp only at hSw); go_simp; try with_reducible rfl)
        try simp only [List.getElem_toArray, List.getElem_cons_succ, List.getElem_cons_zero, Act.put, List.setIfInBounds_toArray, List.set_cons_zero, List.set_cons_succ]
        refine wpAnyH_take (i := 4) (v := ?vt15) rfl (by kernel_rfl) (by kernel_rfl) (by kernel_rfl) (fun _ _ _ h => h) (Or.inl ⟨by rfl, ?hyt15⟩) (by assumption) ?restt15
        case hyt15 => (intro w hSw; (try dsimp only at hSw); go_simp; try with_reducible rfl)
        try simp only [List.getElem_toArray, List.getElem_cons_succ, List.getElem_cons_zero, Act.put, List.setIfInBounds_toArray, List.set_cons_zero, List.set_cons_succ]
        refine wpAnyH_take (i := 5) (v := ?vt16) rfl (by kernel_rfl) (by kernel_rfl) (by kernel_rfl) (fun _ _ _ h => h) (Or.inl ⟨by rfl, ?hyt16⟩) (by assumption) ?restt16
        case hyt16 => (intro w hSw; (try dsimp only at hSw); go_simp; try with_reducible rfl)
        try simp only [List.getElem_toArray, List.getElem_cons_succ, List.getElem_cons_zero, Act.put, List.setIfInBounds_toArray, List.set_cons_zero, List.set_cons_succ]
        refine wpAnyH_take (i := 6) (v := ?vt17) rfl (by kernel_rfl) (by kernel_rfl) (by kernel_rfl) (fun _ _ _ h => h) (Or.inl ⟨by rfl, ?hyt17⟩) (by assumption) ?restt17
        case hyt17 => (intro w hSw; (try dsimp only at hSw); go_simp; try with_reducible rfl)
        try simp only [List.getElem_toArray, List.getElem_cons_succ, List.getElem_cons_zero, Act.put, List.setIfInBounds_toArray, List.set_cons_zero, List.set_cons_succ]
        refine wpAnyH_take (i := 7) (v := ?vt18) rfl (by kernel_rfl) (by kernel_rfl) (by kernel_rfl) (fun _ _ _ h => h) (Or.inl ⟨by rfl, ?hyt18⟩) (by assumption) ?restt18
        case hyt18 => (intro w hSw; (try dsimp only at hSw); go_simp; try with_reducible rfl)
        try simp only [List.getElem_toArray, List.getElem_cons_succ, List.getElem_cons_zero, Act.put, List.setIfInBounds_toArray, List.set_cons_zero, List.set_cons_succ]
        refine wpAnyH_take (i := 8) (v := ?vt19) rfl (by kernel_rfl) (by kernel_rfl) (by kernel_rfl) (fun _ _ _ h => h) (Or.inl ⟨by rfl, ?hyt19⟩) (by assumption) ?restt19
        case hyt19 => (intro w hSw; (try dsimp only at hSw); go_simp; try with_reducible rfl)
        try simp only [List.getElem_toArray, List.getElem_cons_succ, List.getElem_cons_zero, Act.put, List.setIfInBounds_toArray, List.set_cons_zero, List.set_cons_succ]
        refine wpAnyH_take (i := 9) (v := ?vt110) rfl (by kernel_rfl) (by kernel_rfl) (by kernel_rfl) (fun _ _ _ h => h) (Or.inl ⟨by rfl, ?hyt110⟩) (by assumption) ?restt110
        case hyt110 => (intro w hSw; (try dsimp only at hSw); go_simp; try with_reducible rfl)
        try simp only [List.getElem_toArray, List.getElem_cons_succ, List.getElem_cons_zero, Act.put, List.setIfInBounds_toArray, List.set_cons_zero, List.set_cons_succ]
        refine wpAnyH_take (i := 10) (v := ?vt111) rfl (by kernel_rfl) (by kernel_rfl) (by kernel_rfl) (fun _ _ _ h => h) (Or.inl ⟨by rfl, ?hyt111⟩) (by assumption) ?restt111
        case hyt111 => (intro w hSw; (try dsimp only at hSw); go_simp; try with_reducible rfl)
        try simp only [List.getElem_toArray, List.getElem_cons_succ, List.getElem_cons_zero, Act.put, List.setIfInBounds_toArray, List.set_cons_zero, List.set_cons_succ]
        refine wpAnyH_take (i := 11) (v := ?vt112) rfl (by kernel_rfl) (by kernel_rfl) (by kernel_rfl) (fun _ _ _ h => h) (Or.inl ⟨by rfl, ?hyt112⟩) (by assumption) ?restt112
        case hyt112 => (intro w hSw; (try dsimp only at hSw); go_simp; try with_reducible rfl)
        try simp only [List.getElem_toArray, List.getElem_cons_succ, List.getElem_cons_zero, Act.put, List.setIfInBounds_toArray, List.set_cons_zero, List.set_cons_succ]
        refine wpAnyH_take (i := 12) (v := ?vt113) rfl (by kernel_rfl) (by kernel_rfl) (by kernel_rfl) (fun _ _ _ h => h) (Or.inl ⟨by rfl, ?hyt113⟩) (by assumption) ?restt113
        case hyt113 => (intro w hSw; (try dsimp only at hSw); go_simp; try with_reducible rfl)
        try simp only [List.getElem_toArray, List.getElem_cons_succ, List.getElem_cons_zero, Act.put, List.setIfInBounds_toArray, List.set_cons_zero, List.set_cons_succ]
        refine wpAnyH_done (by kernel_rfl) ?_ _
        have HWN := Go.Lib.hid (show Eqw w wr.drew from HW.out.drewN 1)
        clear hcell hHeld
        go_wp2_with fail
        go_roundw
        case rel => exact ⟨k + 1, by omega, by go_num, by rw [HSU.out]; rfl, HWN.out⟩
        case measure => simp [intOf]; omega
      · have ew : IntKind.i64.wrap 3 = 3 := by decide
        have hext : (ByteArray.mk #[100, 117, 108, 114]).extract 2 3 = ⟨#[108]⟩ := by rfl
        have hadd : ∀ w0 : World, (Op.stringOp .add ⟨((zs.take k).map chM).toArray⟩ ⟨#[108]⟩).run Try.prog w0 = .ok (.string ⟨((zs.take k).map chM ++ [108]).toArray⟩) w0 := fun w0 => add_mv ((zs.take k).map chM) [108] (by rw [List.length_map, List.length_take]; simp; omega) w0
        generalize (zs.take k).map chM = tx at *
        go_upto_region 5 with fail
        refine wp_region_held_drew (S := fun w' => w'.cell? ⟨b, ob + k, none⟩ = some (.int .i64 2)) (by kernel_rfl) (by exact hcell) (fun hHeld => ?_)
        refine wpAnyH_take (i := 0) (v := ?vt21) rfl (by kernel_rfl) (by kernel_rfl) (by kernel_rfl) (fun _ _ _ h => h) (Or.inl ⟨by rfl, ?hyt21⟩) (by assumption) ?restt21
        case hyt21 => (intro w hSw; (try dsimp only at hSw); go_simp; try with_reducible rfl)
        try simp only [List.getElem_toArray, List.getElem_cons_succ, List.getElem_cons_zero, Act.put, List.setIfInBounds_toArray, List.set_cons_zero, List.set_cons_succ]
        refine wpAnyH_take (i := 1) (v := ?vt22) rfl (by kernel_rfl) (by kernel_rfl) (by kernel_rfl) (fun _ _ _ h => h) (Or.inl ⟨by rfl, ?hyt22⟩) (by assumption) ?restt22
        case hyt22 => (intro w hSw; (try dsimp only at hSw); go_simp; try with_reducible rfl)
        try simp only [List.getElem_toArray, List.getElem_cons_succ, List.getElem_cons_zero, Act.put, List.setIfInBounds_toArray, List.set_cons_zero, List.set_cons_succ]
        refine wpAnyH_take (i := 2) (v := ?vt23) rfl (by kernel_rfl) (by kernel_rfl) (by kernel_rfl) (fun _ _ _ h => h) (Or.inl ⟨by rfl, ?hyt23⟩) (by assumption) ?restt23
        case hyt23 => (intro w hSw; (try dsimp only at hSw); go_simp; try with_reducible rfl)
        try simp only [List.getElem_toArray, List.getElem_cons_succ, List.getElem_cons_zero, Act.put, List.setIfInBounds_toArray, List.set_cons_zero, List.set_cons_succ]
        refine wpAnyH_take (i := 3) (v := ?vt24) rfl (by kernel_rfl) (by kernel_rfl) (by kernel_rfl) (fun _ _ _ h => h) (Or.inl ⟨by rfl, ?hyt24⟩) (by assumption) ?restt24
        case hyt24 => (intro w hSw; (try dsimp only at hSw); go_simp; try with_reducible rfl)
        try simp only [List.getElem_toArray, List.getElem_cons_succ, List.getElem_cons_zero, Act.put, List.setIfInBounds_toArray, List.set_cons_zero, List.set_cons_succ]
        refine wpAnyH_take (i := 4) (v := ?vt25) rfl (by kernel_rfl) (by kernel_rfl) (by kernel_rfl) (fun _ _ _ h => h) (Or.inl ⟨by rfl, ?hyt25⟩) (by assumption) ?restt25
        case hyt25 => (intro w hSw; (try dsimp only at hSw); go_simp; try with_reducible rfl)
        try simp only [List.getElem_toArray, List.getElem_cons_succ, List.getElem_cons_zero, Act.put, List.setIfInBounds_toArray, List.set_cons_zero, List.set_cons_succ]
        refine wpAnyH_take (i := 5) (v := ?vt26) rfl (by kernel_rfl) (by kernel_rfl) (by kernel_rfl) (fun _ _ _ h => h) (Or.inl ⟨by rfl, ?hyt26⟩) (by assumption) ?restt26
        case hyt26 => (intro w hSw; (try dsimp only at hSw); go_simp; try with_reducible rfl)
        try simp only [List.getElem_toArray, List.getElem_cons_succ, List.getElem_cons_zero, Act.put, List.setIfInBounds_toArray, List.set_cons_zero, List.set_cons_succ]
        refine wpAnyH_take (i := 6) (v := ?vt27) rfl (by kernel_rfl) (by kernel_rfl) (by kernel_rfl) (fun _ _ _ h => h) (Or.inl ⟨by rfl, ?hyt27⟩) (by assumption) ?restt27
        case hyt27 => (intro w hSw; (try dsimp only at hSw); go_simp; try with_reducible rfl)
        try simp only [List.getElem_toArray, List.getElem_cons_succ, List.getElem_cons_zero, Act.put, List.setIfInBounds_toArray, List.set_cons_zero, List.set_cons_succ]
        refine wpAnyH_take (i := 7) (v := ?vt28) rfl (by kernel_rfl) (by kernel_rfl) (by kernel_rfl) (fun _ _ _ h => h) (Or.inl ⟨by rfl, ?hyt28⟩) (by assumption) ?restt28
        case hyt28 => (intro w hSw; (try dsimp only at hSw); go_simp; try with_reducible rfl)
        try simp only [List.getElem_toArray, List.getElem_cons_succ, List.getElem_cons_zero, Act.put, List.setIfInBounds_toArray, List.set_cons_zero, List.set_cons_succ]
        refine wpAnyH_take (i := 8) (v := ?vt29) rfl (by kernel_rfl) (by kernel_rfl) (by kernel_rfl) (fun _ _ _ h => h) (Or.inl ⟨by rfl, ?hyt29⟩) (by assumption) ?restt29
        case hyt29 => (intro w hSw; (try dsimp only at hSw); go_simp; try with_reducible rfl)
        try simp only [List.getElem_toArray, List.getElem_cons_succ, List.getElem_cons_zero, Act.put, List.setIfInBounds_toArray, List.set_cons_zero, List.set_cons_succ]
        refine wpAnyH_take (i := 9) (v := ?vt210) rfl (by kernel_rfl) (by kernel_rfl) (by kernel_rfl) (fun _ _ _ h => h) (Or.inl ⟨by rfl, ?hyt210⟩) (by assumption) ?restt210
        case hyt210 => (intro w hSw; (try dsimp only at hSw); go_simp; try with_reducible rfl)
        try simp only [List.getElem_toArray, List.getElem_cons_succ, List.getElem_cons_zero, Act.put, List.setIfInBounds_toArray, List.set_cons_zero, List.set_cons_succ]
        refine wpAnyH_take (i := 10) (v := ?vt211) rfl (by kernel_rfl) (by kernel_rfl) (by kernel_rfl) (fun _ _ _ h => h) (Or.inl ⟨by rfl, ?hyt211⟩) (by assumption) ?restt211
        case hyt211 => (intro w hSw; (try dsimp only at hSw); go_simp; try with_reducible rfl)
        try simp only [List.getElem_toArray, List.getElem_cons_succ, List.getElem_cons_zero, Act.put, List.setIfInBounds_toArray, List.set_cons_zero, List.set_cons_succ]
        refine wpAnyH_take (i := 11) (v := ?vt212) rfl (by kernel_rfl) (by kernel_rfl) (by kernel_rfl) (fun _ _ _ h => h) (Or.inl ⟨by rfl, ?hyt212⟩) (by assumption) ?restt212
        case hyt212 => (intro w hSw; (try dsimp only at hSw); go_simp; try with_reducible rfl)
        try simp only [List.getElem_toArray, List.getElem_cons_succ, List.getElem_cons_zero, Act.put, List.setIfInBounds_toArray, List.set_cons_zero, List.set_cons_succ]
        refine wpAnyH_take (i := 12) (v := ?vt213) rfl (by kernel_rfl) (by kernel_rfl) (by kernel_rfl) (fun _ _ _ h => h) (Or.inl ⟨by rfl, ?hyt213⟩) (by assumption) ?restt213
        case hyt213 => (intro w hSw; (try dsimp only at hSw); go_simp; try with_reducible rfl)
        try simp only [List.getElem_toArray, List.getElem_cons_succ, List.getElem_cons_zero, Act.put, List.setIfInBounds_toArray, List.set_cons_zero, List.set_cons_succ]
        refine wpAnyH_done (by kernel_rfl) ?_ _
        have HWN := Go.Lib.hid (show Eqw w wr.drew from HW.out.drewN 1)
        clear hcell hHeld
        go_wp2_with fail
        go_roundw
        case rel => exact ⟨k + 1, by omega, by go_num, by rw [HSU.out]; rfl, HWN.out⟩
        case measure => simp [intOf]; omega
      · have ew : IntKind.i64.wrap 4 = 4 := by decide
        have hext : (ByteArray.mk #[100, 117, 108, 114]).extract 3 4 = ⟨#[114]⟩ := by rfl
        have hadd : ∀ w0 : World, (Op.stringOp .add ⟨((zs.take k).map chM).toArray⟩ ⟨#[114]⟩).run Try.prog w0 = .ok (.string ⟨((zs.take k).map chM ++ [114]).toArray⟩) w0 := fun w0 => add_mv ((zs.take k).map chM) [114] (by rw [List.length_map, List.length_take]; simp; omega) w0
        generalize (zs.take k).map chM = tx at *
        go_upto_region 5 with fail
        refine wp_region_held_drew (S := fun w' => w'.cell? ⟨b, ob + k, none⟩ = some (.int .i64 3)) (by kernel_rfl) (by exact hcell) (fun hHeld => ?_)
        refine wpAnyH_take (i := 0) (v := ?vt31) rfl (by kernel_rfl) (by kernel_rfl) (by kernel_rfl) (fun _ _ _ h => h) (Or.inl ⟨by rfl, ?hyt31⟩) (by assumption) ?restt31
        case hyt31 => (intro w hSw; (try dsimp only at hSw); go_simp; try with_reducible rfl)
        try simp only [List.getElem_toArray, List.getElem_cons_succ, List.getElem_cons_zero, Act.put, List.setIfInBounds_toArray, List.set_cons_zero, List.set_cons_succ]
        refine wpAnyH_take (i := 1) (v := ?vt32) rfl (by kernel_rfl) (by kernel_rfl) (by kernel_rfl) (fun _ _ _ h => h) (Or.inl ⟨by rfl, ?hyt32⟩) (by assumption) ?restt32
        case hyt32 => (intro w hSw; (try dsimp only at hSw); go_simp; try with_reducible rfl)
        try simp only [List.getElem_toArray, List.getElem_cons_succ, List.getElem_cons_zero, Act.put, List.setIfInBounds_toArray, List.set_cons_zero, List.set_cons_succ]
        refine wpAnyH_take (i := 2) (v := ?vt33) rfl (by kernel_rfl) (by kernel_rfl) (by kernel_rfl) (fun _ _ _ h => h) (Or.inl ⟨by rfl, ?hyt33⟩) (by assumption) ?restt33
        case hyt33 => (intro w hSw; (try dsimp only at hSw); go_simp; try with_reducible rfl)
        try simp only [List.getElem_toArray, List.getElem_cons_succ, List.getElem_cons_zero, Act.put, List.setIfInBounds_toArray, List.set_cons_zero, List.set_cons_succ]
        refine wpAnyH_take (i := 3) (v := ?vt34) rfl (by kernel_rfl) (by kernel_rfl) (by kernel_rfl) (fun _ _ _ h => h) (Or.inl ⟨by rfl, ?hyt34⟩) (by assumption) ?restt34
        case hyt34 => (intro w hSw; (try dsimp only at hSw); go_simp; try with_reducible rfl)
        try simp only [List.getElem_toArray, List.getElem_cons_succ, List.getElem_cons_zero, Act.put, List.setIfInBounds_toArray, List.set_cons_zero, List.set_cons_succ]
        refine wpAnyH_take (i := 4) (v := ?vt35) rfl (by kernel_rfl) (by kernel_rfl) (by kernel_rfl) (fun _ _ _ h => h) (Or.inl ⟨by rfl, ?hyt35⟩) (by assumption) ?restt35
        case hyt35 => (intro w hSw; (try dsimp only at hSw); go_simp; try with_reducible rfl)
        try simp only [List.getElem_toArray, List.getElem_cons_succ, List.getElem_cons_zero, Act.put, List.setIfInBounds_toArray, List.set_cons_zero, List.set_cons_succ]
        refine wpAnyH_take (i := 5) (v := ?vt36) rfl (by kernel_rfl) (by kernel_rfl) (by kernel_rfl) (fun _ _ _ h => h) (Or.inl ⟨by rfl, ?hyt36⟩) (by assumption) ?restt36
        case hyt36 => (intro w hSw; (try dsimp only at hSw); go_simp; try with_reducible rfl)
        try simp only [List.getElem_toArray, List.getElem_cons_succ, List.getElem_cons_zero, Act.put, List.setIfInBounds_toArray, List.set_cons_zero, List.set_cons_succ]
        refine wpAnyH_take (i := 6) (v := ?vt37) rfl (by kernel_rfl) (by kernel_rfl) (by kernel_rfl) (fun _ _ _ h => h) (Or.inl ⟨by rfl, ?hyt37⟩) (by assumption) ?restt37
        case hyt37 => (intro w hSw; (try dsimp only at hSw); go_simp; try with_reducible rfl)
        try simp only [List.getElem_toArray, List.getElem_cons_succ, List.getElem_cons_zero, Act.put, List.setIfInBounds_toArray, List.set_cons_zero, List.set_cons_succ]
        refine wpAnyH_take (i := 7) (v := ?vt38) rfl (by kernel_rfl) (by kernel_rfl) (by kernel_rfl) (fun _ _ _ h => h) (Or.inl ⟨by rfl, ?hyt38⟩) (by assumption) ?restt38
        case hyt38 => (intro w hSw; (try dsimp only at hSw); go_simp; try with_reducible rfl)
        try simp only [List.getElem_toArray, List.getElem_cons_succ, List.getElem_cons_zero, Act.put, List.setIfInBounds_toArray, List.set_cons_zero, List.set_cons_succ]
        refine wpAnyH_take (i := 8) (v := ?vt39) rfl (by kernel_rfl) (by kernel_rfl) (by kernel_rfl) (fun _ _ _ h => h) (Or.inl ⟨by rfl, ?hyt39⟩) (by assumption) ?restt39
        case hyt39 => (intro w hSw; (try dsimp only at hSw); go_simp; try with_reducible rfl)
        try simp only [List.getElem_toArray, List.getElem_cons_succ, List.getElem_cons_zero, Act.put, List.setIfInBounds_toArray, List.set_cons_zero, List.set_cons_succ]
        refine wpAnyH_take (i := 9) (v := ?vt310) rfl (by kernel_rfl) (by kernel_rfl) (by kernel_rfl) (fun _ _ _ h => h) (Or.inl ⟨by rfl, ?hyt310⟩) (by assumption) ?restt310
        case hyt310 => (intro w hSw; (try dsimp only at hSw); go_simp; try with_reducible rfl)
        try simp only [List.getElem_toArray, List.getElem_cons_succ, List.getElem_cons_zero, Act.put, List.setIfInBounds_toArray, List.set_cons_zero, List.set_cons_succ]
        refine wpAnyH_take (i := 10) (v := ?vt311) rfl (by kernel_rfl) (by kernel_rfl) (by kernel_rfl) (fun _ _ _ h => h) (Or.inl ⟨by rfl, ?hyt311⟩) (by assumption) ?restt311
        case hyt311 => (intro w hSw; (try dsimp only at hSw); go_simp; try with_reducible rfl)
        try simp only [List.getElem_toArray, List.getElem_cons_succ, List.getElem_cons_zero, Act.put, List.setIfInBounds_toArray, List.set_cons_zero, List.set_cons_succ]
        refine wpAnyH_take (i := 11) (v := ?vt312) rfl (by kernel_rfl) (by kernel_rfl) (by kernel_rfl) (fun _ _ _ h => h) (Or.inl ⟨by rfl, ?hyt312⟩) (by assumption) ?restt312
        case hyt312 => (intro w hSw; (try dsimp only at hSw); go_simp; try with_reducible rfl)
        try simp only [List.getElem_toArray, List.getElem_cons_succ, List.getElem_cons_zero, Act.put, List.setIfInBounds_toArray, List.set_cons_zero, List.set_cons_succ]
        refine wpAnyH_take (i := 12) (v := ?vt313) rfl (by kernel_rfl) (by kernel_rfl) (by kernel_rfl) (fun _ _ _ h => h) (Or.inl ⟨by rfl, ?hyt313⟩) (by assumption) ?restt313
        case hyt313 => (intro w hSw; (try dsimp only at hSw); go_simp; try with_reducible rfl)
        try simp only [List.getElem_toArray, List.getElem_cons_succ, List.getElem_cons_zero, Act.put, List.setIfInBounds_toArray, List.set_cons_zero, List.set_cons_succ]
        refine wpAnyH_done (by kernel_rfl) ?_ _
        have HWN := Go.Lib.hid (show Eqw w wr.drew from HW.out.drewN 1)
        clear hcell hHeld
        go_wp2_with fail
        go_roundw
        case rel => exact ⟨k + 1, by omega, by go_num, by rw [HSU.out]; rfl, HWN.out⟩
        case measure => simp [intOf]; omega
set_option maxRecDepth 100000 in
set_option maxHeartbeats 4000000 in
theorem specMovesText (A : Option Addr) (c : Nat) (zs : List Int) (w : World) (L : Ls zs A c w) :
    Calls Try.prog 35 #[.slice A zs.length c] w (GivesSN (mTextR zs) w) := by
  have HL := Go.Lib.hid L
  have hn := L.few
  have HIN := Go.Lib.hid (fun z w0 => inN2 z 0 3 w0)
  have HTX := Go.Lib.hid (fun w0 L0 hr h60 => specTextM A c zs w0 L0 hr h60)
  clear L
  go_enter Try.func35, Try.ntmps35
  go_wp2_with fail
  go_loopw [4] (fun u wr => ∃ k : Nat, k ≤ zs.length ∧ u = .int .i64 k ∧ wr = w ∧ ∀ t, t < k → 0 ≤ zs.getD t 0 ∧ zs.getD t 0 ≤ 3) (fun u _ => zs.length - (intOf u).toNat)
  case atStart => exact ⟨0, Nat.zero_le _, rfl, rfl, fun t ht => absurd ht (Nat.not_lt_zero _)⟩
  case round =>
    obtain ⟨k, hk, rfl, rfl, hall⟩ := hrel
    have HA := Go.Lib.hid hall
    clear hall
    by_cases hlt : k < zs.length
    case neg =>
      obtain rfl : k = zs.length := by omega
      have hr := rngB_all HA.out
      have hnl : ¬ ((zs.length : Nat) : Int) < zs.length := by omega
      by_cases h60 : zs.length ≤ 60
      case neg =>
        have HV := Go.Lib.hid (show mTextR zs = ([], 2) by unfold mTextR; rw [decide_eq_false h60, Bool.and_false]; rfl)
        have h60b : (60 : Int) < zs.length := by omega
        clear hr h60
        go_wp2_with fail
        go_ret2
        exact GivesSN.of HV.out (Below.refl _ _)
      case pos =>
        have HV := Go.Lib.hid (show mTextR zs = (mText zs, 0) by unfold mTextR; rw [hr, decide_eq_true h60]; rfl)
        have h60b : ¬ (60 : Int) < zs.length := by omega
        have HT := Go.Lib.hid (HTX.out _ HL.out hr h60)
        clear hr h60
        go_wp2_with fail
        refine HT.out.mono ?_
        rintro _ w2 ⟨rfl, hw⟩
        have HB := Go.Lib.hid hw.below
        clear hw
        go_wp2_with fail
        go_ret2
        exact GivesSN.of HV.out HB.out
    case pos =>
      have hkl : (k : Int) < zs.length := by omega
      obtain ⟨b, ob, rfl, hblt, hc⟩ := HL.out.at_ hlt
      have hcell := hc k hlt
      have HI := Go.Lib.hid (fun w0 => HIN.out (zs.getD k 0) w0)
      have HNO := Go.Lib.hid (fun (h : ¬ (0 ≤ zs.getD k 0 ∧ zs.getD k 0 ≤ 3)) => show mTextR zs = ([], 2) by
        unfold mTextR
        rw [rngB_no hlt h]
        rfl)
      have HAN0 := Go.Lib.hid (fun (h : 0 ≤ zs.getD k 0 ∧ zs.getD k 0 ≤ 3) => show ∀ t, t < k + 1 → 0 ≤ zs.getD t 0 ∧ zs.getD t 0 ≤ 3 from fun t ht => by
        rcases Nat.lt_or_ge t k with h1 | h1
        · exact HA.out t h1
        · obtain rfl : t = k := by omega
          exact h)
      clear hc HA
      generalize zs.getD k 0 = z at *
      by_cases hz : 0 ≤ z ∧ z ≤ 3
      case neg =>
        have HV := Go.Lib.hid (HNO.out hz)
        rw [show inB z 0 3 = false by rw [← Bool.not_eq_true, inB_iff]; exact hz] at HI
        clear hz HNO HAN0
        go_wp2_with fail
        refine (HI.out _).mono ?_
        rintro _ _ ⟨rfl, rfl⟩
        go_wp2_with fail
        go_ret2
        exact GivesSN.of HV.out (Below.refl _ _)
      case pos =>
        rw [inB_iff.2 hz] at HI
        have HAN := Go.Lib.hid (HAN0.out hz)
        clear hz HNO HAN0
        go_wp2_with fail
        refine (HI.out _).mono ?_
        rintro _ _ ⟨rfl, rfl⟩
        go_wp2_with fail
        go_roundw
        case rel => exact ⟨k + 1, by omega, by go_num, by first | rfl | trivial, HAN.out⟩
        case measure => simp [intOf]; omega
set_option maxRecDepth 100000 in
set_option maxHeartbeats 4000000 in
theorem specReadMoves (l : List UInt8) (w : World) (hsz : l.length ≤ 1048576) :
    Calls Try.prog 38 #[.string ⟨l.toArray⟩] w (GivesLN (mReadR l) w) := by
  obtain ⟨i0, hi, hz0, hz1, hz2⟩ := info_parts infoI64
  have HG0 := Go.Lib.hid (Gat.start (Below.refl w.heap.size w))
  by_cases hd : l = [45]
  case pos =>
    subst hd
    have HV := Go.Lib.hid (show mReadR [45] = ([], 0) from rfl)
    have HF := Go.Lib.hid (HG0.out.done HV.out)
    go_enter Try.func38, Try.ntmps38
    go_wp2_with fail
    go_ret2
    exact HF.out
  case neg =>
    have heq : ∀ w0 : World, (Op.stringOp .eql ⟨l.toArray⟩ ⟨#[45]⟩).run Try.prog w0 = .ok (.bool false) w0 := fun w0 => str_ne w0 hd
    have heq2 := beq45 hd
    have hsize : (ByteArray.mk l.toArray).size = l.length := by simp [ByteArray.size]
    have HVA := Go.Lib.hid (show mReadR l = if l.all okM && (decide (0 < l.length) && decide (l.length ≤ 60)) then (l.map unD, 0) else ([], 6) by unfold mReadR; rw [if_neg hd])
    clear hd
    go_enter Try.func38, Try.ntmps38
    go_wp2_with fail
    go_loopw [4, 5] (fun v u wr => ∃ k : Nat, k ≤ l.length ∧ u = .int .i64 k ∧ (l.take k).all okM = true ∧ Gat w ((l.take k).map unD) v wr) (fun _ u _ => l.length - (intOf u).toNat)
    case atStart => exact ⟨0, Nat.zero_le _, rfl, rfl, HG0.out⟩
    case round =>
      obtain ⟨k, hk, rfl, hall, hgat⟩ := hrel
      have HGT := Go.Lib.hid hgat
      have HA := Go.Lib.hid hall
      have HBR := Go.Lib.hid hgat.b
      clear hgat hall HG0
      by_cases hlt : k < l.length
      case neg =>
        obtain rfl : k = l.length := by omega
        rw [List.take_length] at HGT HA
        obtain ⟨D, cap, rfl, ho⟩ := HGT.out.form
        rw [List.length_map] at ho
        rw [List.length_map]
        have hnl : ¬ ((l.length : Nat) : Int) < l.length := by omega
        by_cases h1 : 0 < l.length ∧ l.length ≤ 60
        case neg =>
          have HV := Go.Lib.hid (show mReadR l = ([], 6) by
            rw [HVA.out, show (decide (0 < l.length) && decide (l.length ≤ 60)) = false by rw [← Bool.not_eq_true]; simpa using h1, Bool.and_false]
            rfl)
          by_cases h2 : l.length = 0
          case pos =>
            have h3 : ((l.length : Int) == 0) = true := by rw [h2]; rfl
            clear h1 h2 ho
            go_wp2_with fail
            go_ret2
            exact GivesLN.nil HV.out HBR.out
          case neg =>
            have h3 : ((l.length : Int) == 0) = false := beq_eq_false_iff_ne.2 (by omega)
            have h4 : (60 : Int) < l.length := by omega
            clear h1 h2 ho
            go_wp2_with fail
            go_ret2
            exact GivesLN.nil HV.out HBR.out
        case pos =>
          have HV := Go.Lib.hid (show mReadR l = (l.map unD, 0) by
            rw [HVA.out, HA.out, decide_eq_true h1.1, decide_eq_true h1.2]
            rfl)
          have HF := Go.Lib.hid (GivesLN.own HV.out (by rw [List.length_map]) ho HBR.out)
          have h3 : ((l.length : Int) == 0) = false := beq_eq_false_iff_ne.2 (by omega)
          have h4 : ¬ (60 : Int) < l.length := by omega
          clear h1 ho
          go_wp2_with fail
          go_ret2
          exact HF.out
      case pos =>
        have hkl : (k : Int) < l.length := by omega
        have hidx : ∀ w0 : World, (Instr.index 9 (.string ⟨l.toArray⟩) (.int .i64 k)).run Try.prog w0 = .ok (.int .u8 (l.getD k 0).toNat) w0 := fun w0 => str_at w0 hlt
        have HLE := Go.Lib.hid (show ((l.take k).map unD).length = k by rw [List.length_map, List.length_take]; omega)
        have HSU := Go.Lib.hid (show (l.take (k + 1)).map unD = (l.take k).map unD ++ [unD (l.getD k 0)] by
          rw [List.take_add_one, List.map_append]
          simp [List.getD, hlt])
        have HAL0 := Go.Lib.hid (fun (h : okM (l.getD k 0) = true) => show (l.take (k + 1)).all okM = true by
          rw [List.take_add_one, List.all_append, HA.out]
          simpa [List.getD, hlt] using h)
        have HNO := Go.Lib.hid (fun (h : okM (l.getD k 0) = false) => show mReadR l = ([], 6) by
          rw [HVA.out, all_no hlt h]
          rfl)
        have hrow := HGT.out.row
        rw [HLE.out] at hrow
        clear HA
        generalize l.getD k 0 = b at *
        cases hb : okM b
        case false =>
          have HV := Go.Lib.hid (HNO.out hb)
          obtain ⟨b1, b2, b3, b4⟩ := okM_no hb
          clear hb hrow HNO HAL0
          go_wp2_with fail
          go_ret2
          exact GivesLN.nil HV.out HBR.out
        case true =>
          have h4 : b = 100 ∨ b = 117 ∨ b = 108 ∨ b = 114 := okM_yes hb
          clear hb
          rcases h4 with rfl | rfl | rfl | rfl
          · have HAL := Go.Lib.hid (HAL0.out (by decide))
            clear HNO HAL0
            go_wp2_with (at_builtin; refine wpList_append_own_at _ rfl _ _ 24 rfl w.heap.size 2 i0 (.int .i64 0) 1 8 Try.underlying24 hi hz0 hz1 hz2 rfl (by decide) _ _ _ rfl (hrow.alloc _) ⟨wr.heap.size, 0, none⟩ 1 1 [.int .i64 0] rfl rfl (cell_one_new _ _ _) (ints_oneCell .i64 [0]) (by unfold maxLen; omega) (by omega) (by have := HBR.out.size; simp; omega) ?_; intro v' w3 hown' hgrow hnil hat; clear hnil hat)
            have HGN := Go.Lib.hid (HGT.out.step (z := 0) (by rw [HLE.out]; exact hown') hgrow)
            clear hown' hgrow hrow
            go_wp2_with fail
            go_roundw
            case rel => exact ⟨k + 1, by omega, by go_num, HAL.out, by rw [HSU.out]; exact HGN.out⟩
            case measure => simp [intOf]; omega
          · have HAL := Go.Lib.hid (HAL0.out (by decide))
            clear HNO HAL0
            go_wp2_with (at_builtin; refine wpList_append_own_at _ rfl _ _ 24 rfl w.heap.size 2 i0 (.int .i64 0) 1 8 Try.underlying24 hi hz0 hz1 hz2 rfl (by decide) _ _ _ rfl (hrow.alloc _) ⟨wr.heap.size, 0, none⟩ 1 1 [.int .i64 1] rfl rfl (cell_one_new _ _ _) (ints_oneCell .i64 [1]) (by unfold maxLen; omega) (by omega) (by have := HBR.out.size; simp; omega) ?_; intro v' w3 hown' hgrow hnil hat; clear hnil hat)
            have HGN := Go.Lib.hid (HGT.out.step (z := 1) (by rw [HLE.out]; exact hown') hgrow)
            clear hown' hgrow hrow
            go_wp2_with fail
            go_roundw
            case rel => exact ⟨k + 1, by omega, by go_num, HAL.out, by rw [HSU.out]; exact HGN.out⟩
            case measure => simp [intOf]; omega
          · have HAL := Go.Lib.hid (HAL0.out (by decide))
            clear HNO HAL0
            go_wp2_with (at_builtin; refine wpList_append_own_at _ rfl _ _ 24 rfl w.heap.size 2 i0 (.int .i64 0) 1 8 Try.underlying24 hi hz0 hz1 hz2 rfl (by decide) _ _ _ rfl (hrow.alloc _) ⟨wr.heap.size, 0, none⟩ 1 1 [.int .i64 2] rfl rfl (cell_one_new _ _ _) (ints_oneCell .i64 [2]) (by unfold maxLen; omega) (by omega) (by have := HBR.out.size; simp; omega) ?_; intro v' w3 hown' hgrow hnil hat; clear hnil hat)
            have HGN := Go.Lib.hid (HGT.out.step (z := 2) (by rw [HLE.out]; exact hown') hgrow)
            clear hown' hgrow hrow
            go_wp2_with fail
            go_roundw
            case rel => exact ⟨k + 1, by omega, by go_num, HAL.out, by rw [HSU.out]; exact HGN.out⟩
            case measure => simp [intOf]; omega
          · have HAL := Go.Lib.hid (HAL0.out (by decide))
            clear HNO HAL0
            go_wp2_with (at_builtin; refine wpList_append_own_at _ rfl _ _ 24 rfl w.heap.size 2 i0 (.int .i64 0) 1 8 Try.underlying24 hi hz0 hz1 hz2 rfl (by decide) _ _ _ rfl (hrow.alloc _) ⟨wr.heap.size, 0, none⟩ 1 1 [.int .i64 3] rfl rfl (cell_one_new _ _ _) (ints_oneCell .i64 [3]) (by unfold maxLen; omega) (by omega) (by have := HBR.out.size; simp; omega) ?_; intro v' w3 hown' hgrow hnil hat; clear hnil hat)
            have HGN := Go.Lib.hid (HGT.out.step (z := 3) (by rw [HLE.out]; exact hown') hgrow)
            clear hown' hgrow hrow
            go_wp2_with fail
            go_roundw
            case rel => exact ⟨k + 1, by omega, by go_num, HAL.out, by rw [HSU.out]; exact HGN.out⟩
            case measure => simp [intOf]; omega
end Go.Proofs.Ythedanpldebjcaa
