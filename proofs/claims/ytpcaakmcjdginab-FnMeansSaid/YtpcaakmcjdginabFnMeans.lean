/- Behind the turns for a mean it is reached, and with one turn less it is not. -/
import Derived.Test.YtpcaakmcjdginabRows
import Derived.Test.YtpcaakmcjdginabTenLaw
import Derived.Test.YtpcaakmcjdginabBig
import Derived.Test.YtpcaakmcjdginabOpenB
import Derived.Test.YtpcaakmcjdginabLikesI
import Derived.Test.YtpcaakmcjdginabHasInt2
import Derived.Test.YtpcaakmcjdginabInts
import Derived.WalkKit
import Derived.ProofKit
import Derived.OpenShut
import Derived.ShutString
import Derived.SizedLaws
namespace Go.Proofs.Ytpcaakmcjdginab.fnMeans
open Go.ChangeShapes Go.WideShapes Go.ChangeAt Go.RowKit
open Go.ChangeMaps (open_string shut_string)
set_option linter.unusedVariables false

set_option linter.unusedSimpArgs false
set_option maxRecDepth 100000 in
set_option maxHeartbeats 16000000 in
theorem walk (A : Option Addr) (n cap : Nat) (bs : List Int) (w : World) (h : Rd w 0 w.heap.size A n (byts bs)) (hn : n * 1 ≤ 140737488351232) (hs : ∀ z ∈ bs, 0 ≤ z ∧ z ≤ 255) :
    Calls Try.prog 4 #[.slice A n cap] w fun e w' => e = .returned (.bool true) ∧ Below w.heap.size w w' := by
  have HB := Go.Lib.hid (big_ A n cap w)
  by_cases hbig : (4096 : Int) < n
  · go_enter Try.func4, Try.ntmps4
    go_wp2_with fail
    refine HB.out.mono ?_
    rintro e w' ⟨rfl, rfl⟩
    go_wp2_with fail
    go_ret
    exact ⟨rfl, Below.refl _ _⟩
  · have hb2 := big_ A n cap w
    rw [decide_eq_false hbig] at hb2
    have HB2 := Go.Lib.hid hb2
    have HRD := Go.Lib.hid (fun w1 (hb : Below w.heap.size w w1) => (h.below hb (Nat.le_refl _)).mono (Nat.le_refl _) hb.size)
    have HW := Go.Lib.hid (Below.refl w.heap.size w)
    clear hb2 HB hbig h
    have hnn : n ≤ 140737488355328 := by omega
    clear hn
    go_enter Try.func4, Try.ntmps4
    go_wp2_with fail
    refine HB2.out.mono ?_
    rintro e w' ⟨rfl, rfl⟩
    have HD := Go.Lib.hid (drawFor A n cap bs _ (HRD.out _ HW.out) hs hnn)
    go_wp2_with fail
    refine HD.out.mono ?_
    rintro _ w1 ⟨zs, Bz, cz, s, Bs, cs, mean, rfl, hlz, hls, lz, lf, b1⟩
    have HW := Go.Lib.hid (HW.out.trans (b1.mono HW.out.size))
    have Lz := Go.Lib.hid lz
    have Lf := Go.Lib.hid lf
    clear lz lf b1 HD
    obtain ⟨hlz0, hlz1⟩ := hlz
    obtain ⟨hls0, hls1⟩ := hls
    obtain ⟨m, mc, hM⟩ := mean_pair zs
    have HM1 := Go.Lib.hid (fun w0 L0 => implMean Bz cz zs w0 L0)
    have HM2 := Go.Lib.hid (fun w0 L0 => specMean Bz cz zs w0 L0)
    rw [hM] at HM1 HM2
    have HF1 := Go.Lib.hid (fun w0 L0 L1 => implFor Bz cz zs Bs cs s mean w0 L0 L1)
    have HF2 := Go.Lib.hid (fun w0 L0 L1 => specFor Bz cz zs Bs cs s mean w0 L0 L1)
    have hmm : (m != m) = false := by simp
    have hcc : (mc != mc) = false := by simp
    rcases for_cases zs s mean with ⟨e, he, hR⟩ | ⟨hT, hS, ⟨t0, t1⟩, hR⟩
    · rw [hR] at HF1 HF2
      have heb : (e != 0) = true := by simpa using he
      have hee : (e != e) = false := by simp
      clear he hR hM
      go_wp2_with fail
      refine (HF1.out _ Lz.out Lf.out).mono ?_
      rintro _ w2 ⟨rfl, b2⟩
      have Lz := Go.Lib.hid (Lz.out.below b2)
      have Lf := Go.Lib.hid (Lf.out.below b2)
      have HW := Go.Lib.hid (HW.out.trans (b2.mono HW.out.size))
      clear b2
      go_wp2_with fail
      refine (HF2.out _ Lz.out Lf.out).mono ?_
      rintro _ w3 ⟨rfl, b3⟩
      have Lz := Go.Lib.hid (Lz.out.below b3)
      have Lf := Go.Lib.hid (Lf.out.below b3)
      have HW := Go.Lib.hid (HW.out.trans (b3.mono HW.out.size))
      clear b3
      go_wp2_with fail
      refine (HM1.out _ Lz.out).mono ?_
      rintro _ w4 ⟨rfl, b4⟩
      have Lz := Go.Lib.hid (Lz.out.below b4)
      have Lf := Go.Lib.hid (Lf.out.below b4)
      have HW := Go.Lib.hid (HW.out.trans (b4.mono HW.out.size))
      clear b4
      go_wp2_with fail
      refine (HM2.out _ Lz.out).mono ?_
      rintro _ w5 ⟨rfl, b5⟩
      have Lz := Go.Lib.hid (Lz.out.below b5)
      have Lf := Go.Lib.hid (Lf.out.below b5)
      have HW := Go.Lib.hid (HW.out.trans (b5.mono HW.out.size))
      clear b5
      go_wp2_with fail
      go_ret
      exact ⟨rfl, HW.out⟩
    · rw [hR] at HF1 HF2
      obtain ⟨m0, m1⟩ := meanI_bd hT
      obtain ⟨g0, g1⟩ := hS.gain_bd
      have hm2 : m = meanI zs ∧ mc = 0 := by unfold meanR at hM; rw [if_pos (tenB_iff.2 hT)] at hM; injection hM with h1 h2; exact ⟨h1.symm, h2.symm⟩
      obtain ⟨rfl, rfl⟩ := hm2
      have HG := Go.Lib.hid (gainI_two s)
      have HSM := Go.Lib.hid (fun w0 L0 => lawSum Bs cs s w0 L0 (rng_of hS.rng (by omega) (by omega)))
      have hsb := hS.sum
      have hs0 := rngB_at hS.rng (k := 0) hS.lo
      have HRS := Go.Lib.hid hS.lo
      obtain ⟨k, hk⟩ : ∃ k, forI (gainI s) (meanI zs) mean = k := ⟨_, rfl⟩
      rw [hk] at HF1 HF2
      have hkb := for_bd (by omega) g1 m0 m1 t0 t1 hk
      have HUP := Go.Lib.hid (fun h => for_up (by omega) h hk)
      have HDN := Go.Lib.hid (fun h => for_down (by omega) h hk)
      have hkk : (k != k) = false := by simp
      clear hR hM hT hS hk
      generalize meanI zs = m at *
      generalize hgs : gainI s = g at *
      obtain ⟨k0, k1⟩ := hkb
      go_wp2_with fail
      refine (HF1.out _ Lz.out Lf.out).mono ?_
      rintro _ w6 ⟨rfl, b6⟩
      have Lz := Go.Lib.hid (Lz.out.below b6)
      have Lf := Go.Lib.hid (Lf.out.below b6)
      have HW := Go.Lib.hid (HW.out.trans (b6.mono HW.out.size))
      clear b6
      go_wp2_with fail
      refine (HF2.out _ Lz.out Lf.out).mono ?_
      rintro _ w7 ⟨rfl, b7⟩
      have Lz := Go.Lib.hid (Lz.out.below b7)
      have Lf := Go.Lib.hid (Lf.out.below b7)
      have HW := Go.Lib.hid (HW.out.trans (b7.mono HW.out.size))
      clear b7
      go_wp2_with fail
      refine (HM1.out _ Lz.out).mono ?_
      rintro _ w8 ⟨rfl, b8⟩
      have Lz := Go.Lib.hid (Lz.out.below b8)
      have Lf := Go.Lib.hid (Lf.out.below b8)
      have HW := Go.Lib.hid (HW.out.trans (b8.mono HW.out.size))
      clear b8
      go_wp2_with fail
      refine (HM2.out _ Lz.out).mono ?_
      rintro _ w9 ⟨rfl, b9⟩
      have Lz := Go.Lib.hid (Lz.out.below b9)
      have Lf := Go.Lib.hid (Lf.out.below b9)
      have HW := Go.Lib.hid (HW.out.trans (b9.mono HW.out.size))
      clear b9
      obtain ⟨sb, so, rfl, -, hsc⟩ := Lf.out.at_ HRS.out
      have hcell : w9.cell? ⟨sb, so, none⟩ = some (.int .i64 (s.getD 0 0)) := hsc 0 HRS.out
      have hl0 : (0 : Int) < s.length := by omega
      have hl2 : 0 < s.length := by omega
      have hne : ¬ s = [] := by rintro rfl; simp at hl2
      clear hsc
      generalize s.getD 0 0 = y at *
      generalize s.sum = t at *
      obtain ⟨y0, y1⟩ := hs0
      obtain ⟨st0, st1⟩ := hsb
      have e1 : IntKind.i64.wrap (2 * t) = 2 * t := IntWalk.i64_in _ (by omega)
      have e2 : IntKind.i64.wrap (2 * t - y) = 2 * t - y := IntWalk.i64_in _ (by omega)
      go_upto_region 12 with fail
      go_region_held3 (fun w' => w'.cell? ⟨sb, so, none⟩ = some (.int .i64 y) ∧ Ls s (some ⟨sb, so, none⟩) cs w' ∧ Below w.heap.size w w') (first | exact ⟨by assumption, Lf.out.drewN 1, below_drewN HW.out 1⟩ | assumption) ((go_at_call 21; refine (HSM.out _ (by obtain ⟨_, hh, _⟩ := (by assumption : _ ∧ Ls s (some ⟨sb, so, none⟩) cs _ ∧ _); exact hh)).mono ?_; rintro _ _ ⟨rfl, rfl⟩))
      all_goals clear hcell
      all_goals first
        | (have HW2 := Go.Lib.hid (below_drewN HW.out 1)
           change Exit.then _ _ Exit.normal _ (w9.drewN 1)
           generalize w9.drewN 1 = W at HW2 ⊢
           simp only [← HG.out]
           by_cases hmt : m ≤ mean
           · obtain ⟨q0, q1, q2⟩ := HUP.out (by omega)
             have es : (k - 1) * g = k * g - g := by rw [Int.sub_mul, Int.one_mul]
             have b0 : IntKind.i64.wrap (k * g) = k * g := IntWalk.i64_in _ (by omega)
             have b1 : IntKind.i64.wrap ((k - 1) * g) = (k - 1) * g := IntWalk.i64_in _ (by omega)
             have b2 : IntKind.i64.wrap (m + k * g) = m + k * g := IntWalk.i64_in _ (by omega)
             have b3 : IntKind.i64.wrap (m + (k - 1) * g) = m + (k - 1) * g := IntWalk.i64_in _ (by omega)
             clear es
             by_cases hk0 : k = 0
             · subst hk0
               have q3 : mean ≤ m := by simpa using q1
               clear q1 q2 b0 b1 b2 b3
               go_wp2_with fail
               go_ret
               exact ⟨rfl, HW2.out⟩
             · have hkb : (k == 0) = false := by simpa using hk0
               go_wp2_with fail
               go_ret
               exact ⟨rfl, HW2.out⟩
           · obtain ⟨q0, q1, q2⟩ := HDN.out (by omega)
             have es : (k + 1) * g = k * g + g := by rw [Int.add_mul, Int.one_mul]
             have b0 : IntKind.i64.wrap (k * g) = k * g := IntWalk.i64_in _ (by omega)
             have b1 : IntKind.i64.wrap ((k + 1) * g) = (k + 1) * g := IntWalk.i64_in _ (by omega)
             have b2 : IntKind.i64.wrap (m + k * g) = m + k * g := IntWalk.i64_in _ (by omega)
             have b3 : IntKind.i64.wrap (m + (k + 1) * g) = m + (k + 1) * g := IntWalk.i64_in _ (by omega)
             clear es
             go_wp2_with fail
             go_ret
             exact ⟨rfl, HW2.out⟩)

set_option maxRecDepth 100000 in
theorem lifted (os : Os) (started : os.Started) (H : Type) (enc : TypeId × Value → H) :
    ReturnsInHanded {} Try.checked os 4 .any (Rows.fnMeansSpec.pre6 enc Try.prog Try.f4 Rows.fnMeansRow.domain false) (Rows.fnMeansSpec.post enc Try.prog Try.f4 false true false false) := by
  refine returnsInHanded_of_change_sized (C := Try.checked) own started (by kernel_rfl) Try.func4
    (ChangeSpec.witness6 (enc := enc) (C := Try.checked) false ⟨#[], #[.slice none 0 0], []⟩ 8 (by kernel_rfl) (by kernel_rfl) (by kernel_rfl) (by kernel_rfl)) ?_
  intro W base args ds gs before hval0 hW hcnd hsz0 _
  have hsz : (DataW.weightsEach Try.prog (Try.f4.params.toList ++ Rows.fnMeansSpec.plain.varTypes Try.prog) (ds ++ gs)).all (· ≤ reachBytes) = true := hsz0
  clear hsz0
  have hval : ∀ (j : Nat) t v, Try.f4.params[j]? = some t → args[j]? = some v → Value.okWide Try.prog W .any base t v := hval0
  clear hval0
  have hW' := hW
  obtain ⟨p, q, hA0, hV, rfl, hfz, hnd⟩ := hW
  have hA : DataW.TrodAll enc Try.prog W 0 (fun _ => true) true Try.f4.params.toList args.toList ds p := hA0
  rw [Try.params4] at hA hval hsz
  obtain ⟨v0, vs0, d0, ds0, p0, q0, hargs, rfl, rfl, h0, r0⟩ := trodAll_cons hA
  obtain ⟨rfl, rfl, rfl⟩ := trodAll_nil r0
  obtain rfl : args = #[v0] := by cases args; simp_all
  obtain ⟨rfl, rfl⟩ := trodVars_none hV
  obtain ⟨a0, len0, cap0, rfl⟩ := okWide_slice Try.underlying22 (hval 0 22 v0 rfl rfl)
  have k0 := h0
  have lt0 : ∀ x ∈ p0, x.block < W.heap.size := by obtain ⟨m, hm⟩ := k0; exact DataW.trod_lt m _ _ _ hm
  obtain ⟨⟨z0, rd0, sz0⟩, hlc0, hp0⟩ := open_list_bytes h0
  have reach0 : len0 * 1 ≤ 140737488351232 := by
    rcases hp0 with hp0 | ⟨E0, S0, rfl, hl0⟩
    · omega
    · have := sized_slice hsz (j := 0) (t := 22) (e := 5) rfl rfl Try.underlying22
      rw [show Try.prog.bytesOf 5 = 1 by kernel_rfl] at this
      simp only [reachBytes] at this
      omega
  clear hA0
  refine (walk a0 len0 cap0 z0 W rd0 reach0 sz0).mono fun e W' ⟨he, bel⟩ => ?_
  subst he
  exact ⟨_, rfl, _, _, _, [], _, [], hW', trodAll_mk1 (shut_bool Try.underlying4 _), (trodAll_cons_mk (Below.trod laidOut (by kernel_rfl) (of_decide_eq_true (by kernel_rfl)) k0 bel lt0) trodAll_mk0), rfl, bel.frame _, fun h => by cases h⟩

theorem over : Rows.fnMeansRow.holds Try.pinned (OpenSpec.ofChange Rows.fnMeansSpec) :=
  OpenClaim.holds_of_wide 4 Try.f4 rfl rfl rfl rfl rfl rfl rfl ⟨rfl, rfl, rfl, rfl, rfl⟩ rfl rfl rfl rfl rfl (by kernel_rfl) Try.func4 (by kernel_rfl)
    (of_decide_eq_true (by kernel_rfl)) (by unfold Func.isWrapper; first | (rw [if_pos (by decide +kernel)]; kernel_rfl) | (rw [if_neg (by decide +kernel)]; exact ⟨rfl, rfl⟩))
    (fun os started H enc _ => lifted os started H enc)

theorem proved : Rows.FnMeansSaid := over
end Go.Proofs.Ytpcaakmcjdginab.fnMeans
