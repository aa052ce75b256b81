/- FnSorted holds: for every code, the drawn list is sorted as the model sorts it, every number of it is kept, a sorted list is sorted to itself, and the drawn word is judged as the model judges it. -/
import Derived.Test.YtgdibahflhlakaaRows
import Derived.Test.YtgdibahflhlakaaOpenB
import Derived.Test.YtgdibahflhlakaaSort5
import Derived.Test.YtgdibahflhlakaaBig
import Derived.Test.YtgdibahflhlakaaWord
import Derived.WalkKit
import Derived.ProofKit
import Derived.OpenShut
import Derived.ShutString
import Derived.SizedLaws
namespace Go.Proofs.Ytgdibahflhlakaa.fnSorted
open Go.ChangeShapes Go.WideShapes Go.ChangeAt Go.RowKit
open Go.ChangeMaps (open_string shut_string)
set_option linter.unusedVariables false

theorem walk (A : Option Addr) (n cap : Nat) (bs : List Int) (w : World) (h : Rd w 0 w.heap.size A n (byts bs)) (hn : n * 1 ≤ 140737488351232) (hs : ∀ z ∈ bs, 0 ≤ z ∧ z ≤ 255) :
    Calls Try.prog 3 #[.slice A n cap] w fun e w' => e = .returned (.bool true) ∧ Below w.heap.size w w' := by
  have HB := Go.Lib.hid (big_ A n cap w)
  have HD := Go.Lib.hid (drawSort A n cap bs w h hs (by omega))
  by_cases hbig : (4096 : Int) < n
  · go_enter Try.func3, Try.ntmps3
    go_wp2_with fail
    refine HB.out.mono ?_
    rintro e w' ⟨rfl, rfl⟩
    go_wp2_with fail
    go_ret
    exact ⟨rfl, Below.refl _ _⟩
  · have hb2 := big_ A n cap w
    rw [decide_eq_false hbig] at hb2
    have HB2 := Go.Lib.hid hb2
    clear hb2
    go_enter Try.func3, Try.ntmps3
    go_wp2_with fail
    refine HB2.out.mono ?_
    rintro e w' ⟨rfl, rfl⟩
    go_wp2_with fail
    refine HD.out.mono ?_
    rintro e w1 ⟨zs, q, c1, rfl, o1, hl1, hf1, b1⟩
    have s1 := b1.size
    have hll := sortR_len zs
    have HS := Go.Lib.hid (fun w0 lo h0 => specSort q zs.length c1 zs w0 lo h0 (by omega))
    have HI := Go.Lib.hid (fun w0 lo h0 => implSort q zs.length c1 zs w0 lo h0 (by omega))
    unfold SortEnd at HS HI
    have HF := Go.Lib.hid (fun (h0 : codeB zs = 0) => And.intro (sortR_perm h0) (And.intro (sortR_pair h0) (sortR_idem h0)))
    obtain ⟨L, hL⟩ : ∃ L, L = sortR zs := ⟨_, rfl⟩
    rw [← hL] at hll
    simp only [← hL] at HS HI HF
    obtain ⟨C, hC⟩ : ∃ C, C = codeB zs := ⟨_, rfl⟩
    simp only [← hC] at HS HI HF
    clear hL HB HB2 HD hC
    go_wp2_with fail
    refine (HI.out w1 w.heap.size o1.rd).mono ?_
    rintro e w2 ⟨B, d, rfl, o2, b2⟩
    have s2 := b2.size
    have o12 := o1.below b2 (Nat.le_refl _)
    go_wp2_with fail
    refine (HS.out w2 w.heap.size (o12.rd.mono (Nat.le_refl _) s2)).mono ?_
    rintro e w3 ⟨B', d', rfl, o3, b3⟩
    have s3 := b3.size
    have b03 := b1.trans ((b2.trans (b3.mono s2)).mono s1)
    have o13 := o12.below b3 s2
    have o23 := o2.below b3 (Nat.le_refl _)
    have h3 : Rd w3 0 w3.heap.size A n (byts bs) := (h.below b03 (Nat.le_refl _)).mono (Nat.le_refl _) b03.size
    have HW := Go.Lib.hid (drawIsWord A n cap bs w3 h3 hs (by omega))
    go_wp2_with fail
    refine HW.out.mono ?_
    rintro e w4 ⟨x, rfl, hx, b4⟩
    have s4 := b4.size
    have b04 := b03.trans (b4.mono b03.size)
    have o14 := o13.below b4 (by omega)
    have o24 := o23.below b4 (by omega)
    have o34 := o3.below b4 (Nat.le_refl _)
    have HE := Go.Lib.hid (likeInts_same B B' L.length d d' L _ _ _ _ w4 o24.rd o34.rd (by omega))
    have hxm : x.size ≤ maxLen := by unfold maxLen; omega
    clear o1 o12 o13 o2 o23 o3 b1 b2 b3 b4 b03 h3 HW HS
    go_wp2_with fail
    refine HE.out.mono ?_
    rintro e w5 ⟨rfl, m1, rfl⟩
    have b05 : Below w.heap.size w (w4.drewN m1) := below_drewN b04 m1
    have q1 := o14.drewN m1
    have q2 := o24.drewN m1
    have hs5 : w4.heap.size ≤ (w4.drewN m1).heap.size := Nat.le_refl _
    clear o14 o24 o34 HE b04
    generalize w4.drewN m1 = W at b05 q1 q2 hs5 ⊢
    go_wp2_with fail
    refine (implIsWord x _ hxm).mono ?_
    rintro e w' ⟨rfl, rfl⟩
    go_wp2_with fail
    refine (specIsWord x _ hxm).mono ?_
    rintro e w' ⟨rfl, rfl⟩
    by_cases hc : C = 0
    · subst hc
      obtain ⟨hperm, hpair, hcL, hiL⟩ := HF.out rfl
      go_wp2_with fail
      have HLL := Go.Lib.hid (show L.length = zs.length from hperm.length_eq)
      have HP := Go.Lib.hid hperm
      have HLE := Go.Lib.hid (fun (j : Nat) (hj : j + 1 < L.length) => show L.getD j 0 ≤ L.getD (j + 1) 0 by
        have := List.pairwise_iff_getElem.1 hpair j (j + 1) (by omega) hj (by omega)
        simpa [List.getD, hj, show j < L.length by omega] using this)
      have HL := Go.Lib.hid (And.intro hcL hiL)
      clear hperm hpair hcL hiL HF HI
      go_loopw [9] (fun i wr => ∃ j m : Nat, j ≤ L.length ∧ i = .int .i64 ((j : Int) + 1) ∧ wr = W.drewN m) (fun i _ => L.length + 1 - (intOf i).toNat)
      case atStart => exact ⟨0, 0, Nat.zero_le _, rfl, rfl⟩
      case round =>
        obtain ⟨j, m, hj, rfl, rfl⟩ := hrel
        by_cases hlt : j + 1 < L.length
        · obtain ⟨b1, o1, rfl, p1, r1, cs⟩ := q2.rd.at_ (show j < L.length by omega)
          have hcell0 : W.cell? ⟨b1, o1 + j, none⟩ = some (.int .i64 (L.getD j 0)) := cs j _ (ints_at L j (by omega))
          have hcell1 : W.cell? ⟨b1, o1 + (j + 1), none⟩ = some (.int .i64 (L.getD (j + 1) 0)) := cs (j + 1) _ (ints_at L (j + 1) hlt)
          have hle := HLE.out j hlt
          generalize L.getD j 0 = y0 at hcell0 hle
          generalize L.getD (j + 1) 0 = y1 at hcell1 hle
          have hlb : ¬ y1 < y0 := by omega
          have hjl : ((j : Int) + 1) < (L.length : Int) := by omega
          clear cs
          go_wp2_with fail
          go_quiet (fail)
          go_wp2_with fail
          go_roundw
          case rel => exact ⟨j + 1, _, by omega, by go_num, rfl⟩
          case measure => simp [intOf]; omega
        · have hjl : ¬ ((j : Int) + 1) < (L.length : Int) := by omega
          have b06 : Below w.heap.size w (W.drewN m) := below_drewN b05 m
          have q1' := q1.drewN m
          have q2' := q2.drewN m
          have hs6 : w4.heap.size ≤ (W.drewN m).heap.size := hs5
          clear q1 q2 b05
          have hzl : zs.length ≤ 61 := hl1
          have HMEM := Go.Lib.hid (fun (k : Nat) (hk : k < zs.length) => show zs.getD k 0 ∈ L from HP.out.mem_iff.2 (by simp [List.getD, hk]))
          have q1c := q1'.rd
          generalize W.drewN m = V at b06 q1' q2' hs6 q1c ⊢
          clear hjl
          go_wp2_with fail
          go_loopw [10] (fun i wr => ∃ k : Nat, k ≤ zs.length ∧ i = .int .i64 k ∧ wr = V) (fun i _ => zs.length - (intOf i).toNat)
          case atStart => exact ⟨0, Nat.zero_le _, rfl, rfl⟩
          case round =>
            obtain ⟨k, hk, rfl, rfl⟩ := hrel
            by_cases hkl : k < zs.length
            · obtain ⟨b1, o1, he, p1, r1, cs⟩ := q1c.at_ hkl
              cases he
              have hcell := cs k _ (ints_at zs k hkl)
              rw [Nat.zero_add] at hcell
              have hm1 := HMEM.out k hkl
              generalize zs.getD k 0 = y at hcell hm1
              have HH := Go.Lib.hid (hasInt_mem B L.length d L _ _ y _ q2'.rd hm1 (by omega))
              clear cs
              go_wp2_with fail
              refine HH.out.mono ?_
              rintro e w' ⟨rfl, rfl⟩
              go_wp2_with fail
              go_roundw
              case rel => exact ⟨k + 1, by omega, by go_num, trivial⟩
              case measure => simp [intOf]; omega
            · obtain rfl : k = zs.length := by omega
              have hsb : (L.sum == zs.sum) = true := by rw [perm_sum HP.out]; simp
              have HAG := Go.Lib.hid (implSort_again B d _ _ L wr q2' (by omega) HL.out.1 HL.out.2 (by have := HLL.out; omega))
              go_wp2_with fail
              refine HAG.out.mono ?_
              rintro e w6 ⟨A6, c6, rfl, o6, b6⟩
              have s6 := b6.size
              have q16 := q1'.below b6 (by omega)
              have q26 := q2'.below b6 (by omega)
              have b06' := b06.trans (b6.mono b06.size)
              have HE6 := Go.Lib.hid (likeInts_same A6 B L.length c6 d L _ _ _ _ w6 o6.rd q26.rd (by have := HLL.out; omega))
              go_wp2_with fail
              refine HE6.out.mono ?_
              rintro e w7 ⟨rfl, m6, rfl⟩
              have HS1 := Go.Lib.hid (sumInts B L.length d L _ _ (w6.drewN m6) (q26.drewN m6).rd (fun z hz => hf1 z (HP.out.mem_iff.1 hz)) (by have := HLL.out; omega))
              have HS2 := Go.Lib.hid (sumInts (some ⟨q, 0, none⟩) zs.length c1 zs _ _ (w6.drewN m6) (q16.drewN m6).rd hf1 (by omega))
              go_wp2_with fail
              refine HS1.out.mono ?_
              rintro e w8 ⟨rfl, rfl⟩
              go_wp2_with fail
              refine HS2.out.mono ?_
              rintro e w8 ⟨rfl, rfl⟩
              go_wp2_with fail
              go_ret
              exact ⟨rfl, below_drewN b06' m6⟩
    · have hcb : (C != 0) = true := by simpa using hc
      go_wp2_with fail
      go_ret
      exact ⟨rfl, b05⟩

set_option maxRecDepth 100000 in
theorem lifted (os : Os) (started : os.Started) (H : Type) (enc : TypeId × Value → H) :
    ReturnsInHanded {} Try.checked os 3 .any (Rows.fnSortedSpec.pre6 enc Try.prog Try.f3 Rows.fnSortedRow.domain false) (Rows.fnSortedSpec.post enc Try.prog Try.f3 false true false false) := by
  refine returnsInHanded_of_change_sized (C := Try.checked) own started (by kernel_rfl) Try.func3
    (ChangeSpec.witness6 (enc := enc) (C := Try.checked) false ⟨#[], #[.slice none 0 0], []⟩ 8 (by kernel_rfl) (by kernel_rfl) (by kernel_rfl) (by kernel_rfl)) ?_
  intro W base args ds gs before hval0 hW hcnd hsz0 _
  have hsz : (DataW.weightsEach Try.prog (Try.f3.params.toList ++ Rows.fnSortedSpec.plain.varTypes Try.prog) (ds ++ gs)).all (· ≤ reachBytes) = true := hsz0
  clear hsz0
  have hval : ∀ (j : Nat) t v, Try.f3.params[j]? = some t → args[j]? = some v → Value.okWide Try.prog W .any base t v := hval0
  clear hval0
  have hW' := hW
  obtain ⟨p, q, hA0, hV, rfl, hfz, hnd⟩ := hW
  have hA : DataW.TrodAll enc Try.prog W 0 (fun _ => true) true Try.f3.params.toList args.toList ds p := hA0
  rw [Try.params3] at hA hval hsz
  obtain ⟨v0, vs0, d0, ds0, p0, q0, hargs, rfl, rfl, h0, r0⟩ := trodAll_cons hA
  obtain ⟨rfl, rfl, rfl⟩ := trodAll_nil r0
  obtain rfl : args = #[v0] := by cases args; simp_all
  obtain ⟨rfl, rfl⟩ := trodVars_none hV
  obtain ⟨a0, len0, cap0, rfl⟩ := okWide_slice Try.underlying22 (hval 0 22 v0 rfl rfl)
  have k0 := h0
  have lt0 : ∀ x ∈ p0, x.block < W.heap.size := by obtain ⟨m, hm⟩ := k0; exact DataW.trod_lt m _ _ _ hm
  obtain ⟨⟨z0, rd0, sz0⟩, hlc0, hp0⟩ := open_list_bytes h0
  have reach0 : len0 * 1 ≤ 140737488351232 := by
    rcases hp0 with hp0 | ⟨E0, S0, rfl, hl0⟩
    · omega
    · have := sized_slice hsz (j := 0) (t := 22) (e := 5) rfl rfl Try.underlying22
      rw [show Try.prog.bytesOf 5 = 1 by kernel_rfl] at this
      simp only [reachBytes] at this
      omega
  clear hA0
  refine (walk a0 len0 cap0 z0 W rd0 reach0 sz0).mono fun e W' ⟨he, bel⟩ => ?_
  subst he
  exact ⟨_, rfl, _, _, _, [], _, [], hW', trodAll_mk1 (shut_bool Try.underlying4 _), (trodAll_cons_mk (Below.trod laidOut (by kernel_rfl) (of_decide_eq_true (by kernel_rfl)) k0 bel lt0) trodAll_mk0), rfl, bel.frame _, fun h => by cases h⟩

theorem over : Rows.fnSortedRow.holds Try.pinned (OpenSpec.ofChange Rows.fnSortedSpec) :=
  OpenClaim.holds_of_wide 3 Try.f3 rfl rfl rfl rfl rfl rfl rfl ⟨rfl, rfl, rfl, rfl, rfl⟩ rfl rfl rfl rfl rfl (by kernel_rfl) Try.func3 (by kernel_rfl)
    (of_decide_eq_true (by kernel_rfl)) (by unfold Func.isWrapper; first | (rw [if_pos (by decide +kernel)]; kernel_rfl) | (rw [if_neg (by decide +kernel)]; exact ⟨rfl, rfl⟩))
    (fun os started H enc _ => lifted os started H enc)

theorem proved : Rows.FnSortedSaid := over
end Go.Proofs.Ytgdibahflhlakaa.fnSorted
