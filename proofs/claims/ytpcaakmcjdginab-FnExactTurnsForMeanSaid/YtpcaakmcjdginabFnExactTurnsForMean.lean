/- TurnsForMean of the program answers as the model does, at every argument. -/
import Derived.Test.YtpcaakmcjdginabRows
import Derived.Test.YtpcaakmcjdginabTenX
import Derived.Test.YtpcaakmcjdginabInts
import Derived.Test.YtpcaakmcjdginabOpen
import Derived.Test.YtpcaakmcjdginabOpenI
import Derived.WalkKit
import Derived.ProofKit
import Derived.OpenShut
import Derived.ShutString
import Derived.SizedLaws
namespace Go.Proofs.Ytpcaakmcjdginab.fnExactTurnsForMean
open Go.ChangeShapes Go.WideShapes Go.ChangeAt Go.RowKit
open Go.ChangeMaps (open_string shut_string)
set_option linter.unusedVariables false

set_option maxRecDepth 100000 in
set_option maxHeartbeats 16000000 in
theorem walk (AaList : Option Addr) (naList caList : Nat) (zList : List Int) (AaS : Option Addr) (naS caS : Nat) (zS : List Int) (aMean : Int) (w : World) (haList : Rd w 0 w.heap.size AaList naList (ints zList)) (_hnaList : naList * 8 ≤ 140737488351232) (haS : Rd w 0 w.heap.size AaS naS (ints zS)) (_hnaS : naS * 8 ≤ 140737488351232) (_waMean : (Lit.int .i64 aMean).wf = true) :
    Calls Try.prog 9 #[.slice AaList naList caList, .slice AaS naS caS, .int .i64 aMean] w fun e w' => e = .returned (.bool true) ∧ Below w.heap.size w w' := by
  obtain rfl : zList.length = naList := by have := haList.len; rwa [ints_len] at this
  obtain rfl : zS.length = naS := by have := haS.len; rwa [ints_len] at this
  clear _waMean
  by_cases hbaList : (1048576 : Int) < zList.length
  · go_enter Try.func9, Try.ntmps9
    go_wp2_with fail
    go_ret
    exact ⟨rfl, Below.refl _ _⟩
  · skip
    have hzzList : zList.length ≤ 1048576 := by omega
    by_cases hbaS : (1048576 : Int) < zS.length
    · go_enter Try.func9, Try.ntmps9
      go_wp2_with fail
      go_ret
      exact ⟨rfl, Below.refl _ _⟩
    · skip
      have hzzS : zS.length ≤ 1048576 := by omega
      obtain ⟨V0, V1, hv⟩ : ∃ V0 V1, forR zList zS aMean = (V0, V1) := ⟨_, _, rfl⟩
      have Hspec := Go.Lib.hid (fun (BaList : Option Addr) (daList : Nat) (BaS : Option Addr) (daS : Nat) (w0 : World) (loaList hiaList : Nat) (h0aList : Rd w0 loaList hiaList BaList zList.length (ints zList)) (hcaList : zList.length ≤ daList) (loaS hiaS : Nat) (h0aS : Rd w0 loaS hiaS BaS zS.length (ints zS)) (hcaS : zS.length ≤ daS) => xsTurnsForMean BaList daList zList BaS daS zS aMean w0 loaList hiaList h0aList hzzList hcaList loaS hiaS h0aS hzzS hcaS)
      have Himpl := Go.Lib.hid (fun (BaList : Option Addr) (daList : Nat) (BaS : Option Addr) (daS : Nat) (w0 : World) (loaList hiaList : Nat) (h0aList : Rd w0 loaList hiaList BaList zList.length (ints zList)) (hcaList : zList.length ≤ daList) (loaS hiaS : Nat) (h0aS : Rd w0 loaS hiaS BaS zS.length (ints zS)) (hcaS : zS.length ≤ daS) => xiTurnsForMean BaList daList zList BaS daS zS aMean w0 loaList hiaList h0aList hzzList hcaList loaS hiaS h0aS hzzS hcaS)
      rw [hv] at Hspec Himpl
      try dsimp only [pairI] at Hspec Himpl
      clear hv
      have hne0 : (V0 != V0) = false := by simp
      have hne1 : (V1 != V1) = false := by simp
      have C := Go.Lib.hid (Ctx.start w)
      go_enter Try.func9, Try.ntmps9
      go_wp2_with fail
      refine (toInts AaList zList.length caList zList 0 _ (C.out.rd haList) (by omega)).mono ?_
      rintro _ w1 ⟨E1, f1, rfl, q1, b1⟩
      have C := Go.Lib.hid (C.out.push (OwnL.loc _ _ _ _ _) q1 b1)
      clear q1 b1
      go_wp2_with fail
      refine (toInts AaS zS.length caS zS 0 _ (C.out.rd haS) (by omega)).mono ?_
      rintro _ w2 ⟨E2, f2, rfl, q2, b2⟩
      have C := Go.Lib.hid (C.out.push (OwnL.loc _ _ _ _ _) q2 b2)
      clear q2 b2
      obtain ⟨l3, t3, -, -, -, p3, u3⟩ := C.out.pick 1 rfl
      obtain ⟨l4, t4, -, -, -, p4, u4⟩ := C.out.pick 0 rfl
      go_wp2_with fail
      refine (Hspec.out E1 f1 E2 f2 _ _ _ p3.rd p3.le _ _ p4.rd p4.le).mono ?_
      rintro _ w5 ⟨rfl, b5⟩
      have C := Go.Lib.hid (C.out.below b5)
      clear b5
      clear p3 u3 p4 u4
      go_wp2_with fail
      refine (toInts AaList zList.length caList zList 0 _ (C.out.rd haList) (by omega)).mono ?_
      rintro _ w6 ⟨E6, f6, rfl, q6, b6⟩
      have C := Go.Lib.hid (C.out.push (OwnL.loc _ _ _ _ _) q6 b6)
      clear q6 b6
      go_wp2_with fail
      refine (toInts AaS zS.length caS zS 0 _ (C.out.rd haS) (by omega)).mono ?_
      rintro _ w7 ⟨E7, f7, rfl, q7, b7⟩
      have C := Go.Lib.hid (C.out.push (OwnL.loc _ _ _ _ _) q7 b7)
      clear q7 b7
      obtain ⟨l8, t8, -, -, -, p8, u8⟩ := C.out.pick 1 rfl
      obtain ⟨l9, t9, -, -, -, p9, u9⟩ := C.out.pick 0 rfl
      go_wp2_with fail
      refine (Himpl.out E6 f6 E7 f7 _ _ _ p8.rd p8.le _ _ p9.rd p9.le).mono ?_
      rintro _ w10 ⟨rfl, b10⟩
      have C := Go.Lib.hid (C.out.below b10)
      clear b10
      clear p8 u8 p9 u9
      go_wp2_with fail
      refine (toInts AaList zList.length caList zList 0 _ (C.out.rd haList) (by omega)).mono ?_
      rintro _ w11 ⟨E11, f11, rfl, q11, b11⟩
      have C := Go.Lib.hid (C.out.push (OwnL.loc _ _ _ _ _) q11 b11)
      clear q11 b11
      obtain ⟨l12, t12, -, -, -, p12, u12⟩ := C.out.pick 2 rfl
      obtain ⟨l13, t13, -, -, -, p13, u13⟩ := C.out.pick 0 rfl
      have HE := Go.Lib.hid (eqInts_same E6 E11 zList.length f6 f11 zList _ _ _ _ _ p12.rd p13.rd (by omega))
      clear p12 u12 p13 u13
      go_wp2_with fail
      refine HE.out.mono ?_
      rintro _ _ ⟨rfl, x14, rfl⟩
      have C := Go.Lib.hid (C.out.drewN x14)
      clear HE
      generalize World.drewN _ x14 = w14 at C ⊢
      go_wp2_with fail
      refine (toInts AaS zS.length caS zS 0 _ (C.out.rd haS) (by omega)).mono ?_
      rintro _ w15 ⟨E15, f15, rfl, q15, b15⟩
      have C := Go.Lib.hid (C.out.push (OwnL.loc _ _ _ _ _) q15 b15)
      clear q15 b15
      obtain ⟨l16, t16, -, -, -, p16, u16⟩ := C.out.pick 2 rfl
      obtain ⟨l17, t17, -, -, -, p17, u17⟩ := C.out.pick 0 rfl
      have HE := Go.Lib.hid (eqInts_same E7 E15 zS.length f7 f15 zS _ _ _ _ _ p16.rd p17.rd (by omega))
      clear p16 u16 p17 u17
      go_wp2_with fail
      refine HE.out.mono ?_
      rintro _ _ ⟨rfl, x18, rfl⟩
      have C := Go.Lib.hid (C.out.drewN x18)
      clear HE
      generalize World.drewN _ x18 = w18 at C ⊢
      go_wp2_with fail
      go_ret
      exact ⟨rfl, C.out.b⟩

set_option maxRecDepth 100000 in
theorem lifted (os : Os) (started : os.Started) (H : Type) (enc : TypeId × Value → H) :
    ReturnsInHanded {} Try.checked os 9 .any (Rows.fnExactTurnsForMeanSpec.pre6 enc Try.prog Try.f9 Rows.fnExactTurnsForMeanRow.domain false) (Rows.fnExactTurnsForMeanSpec.post enc Try.prog Try.f9 false true false false) := by
  refine returnsInHanded_of_change_sized (C := Try.checked) own started (by kernel_rfl) Try.func9
    (ChangeSpec.witness6 (enc := enc) (C := Try.checked) false ⟨#[], #[.slice none 0 0, .slice none 0 0, .int .i64 0], []⟩ 8 (by kernel_rfl) (by kernel_rfl) (by kernel_rfl) (by kernel_rfl)) ?_
  intro W base args ds gs before hval0 hW hcnd hsz0 _
  have hsz : (DataW.weightsEach Try.prog (Try.f9.params.toList ++ Rows.fnExactTurnsForMeanSpec.plain.varTypes Try.prog) (ds ++ gs)).all (· ≤ reachBytes) = true := hsz0
  clear hsz0
  have hval : ∀ (j : Nat) t v, Try.f9.params[j]? = some t → args[j]? = some v → Value.okWide Try.prog W .any base t v := hval0
  clear hval0
  have hW' := hW
  obtain ⟨p, q, hA0, hV, rfl, hfz, hnd⟩ := hW
  have hA : DataW.TrodAll enc Try.prog W 0 (fun _ => true) true Try.f9.params.toList args.toList ds p := hA0
  rw [Try.params9] at hA hval hsz
  obtain ⟨v0, vs0, d0, ds0, p0, q0, hargs, rfl, rfl, h0, r0⟩ := trodAll_cons hA
  obtain ⟨v1, vs1, d1, ds1, p1, q1, rfl, rfl, rfl, h1, r1⟩ := trodAll_cons r0
  obtain ⟨v2, vs2, d2, ds2, p2, q2, rfl, rfl, rfl, h2, r2⟩ := trodAll_cons r1
  obtain ⟨rfl, rfl, rfl⟩ := trodAll_nil r2
  obtain rfl : args = #[v0, v1, v2] := by cases args; simp_all
  obtain ⟨rfl, rfl⟩ := trodVars_none hV
  obtain ⟨a0, len0, cap0, rfl⟩ := okWide_slice Try.underlying24 (hval 0 24 v0 rfl rfl)
  have k0 := h0
  have lt0 : ∀ x ∈ p0, x.block < W.heap.size := by obtain ⟨m, hm⟩ := k0; exact DataW.trod_lt m _ _ _ hm
  obtain ⟨⟨z0, rd0⟩, hlc0, hp0⟩ := open_list_ints h0
  have reach0 : len0 * 8 ≤ 140737488351232 := by
    rcases hp0 with hp0 | ⟨E0, S0, rfl, hl0⟩
    · omega
    · have := sized_slice hsz (j := 0) (t := 24) (e := 2) rfl rfl Try.underlying24
      rw [show Try.prog.bytesOf 2 = 8 by kernel_rfl] at this
      simp only [reachBytes] at this
      omega
  obtain ⟨a1, len1, cap1, rfl⟩ := okWide_slice Try.underlying24 (hval 1 24 v1 rfl rfl)
  have k1 := h1
  have lt1 : ∀ x ∈ p1, x.block < W.heap.size := by obtain ⟨m, hm⟩ := k1; exact DataW.trod_lt m _ _ _ hm
  obtain ⟨⟨z1, rd1⟩, hlc1, hp1⟩ := open_list_ints h1
  have reach1 : len1 * 8 ≤ 140737488351232 := by
    rcases hp1 with hp1 | ⟨E1, S1, rfl, hl1⟩
    · omega
    · have := sized_slice hsz (j := 1) (t := 24) (e := 2) rfl rfl Try.underlying24
      rw [show Try.prog.bytesOf 2 = 8 by kernel_rfl] at this
      simp only [reachBytes] at this
      omega
  obtain ⟨a2, rfl, rfl, rfl, w2⟩ := open_int Try.underlying2 (hval 2 2 v2 rfl rfl) h2
  clear hA0
  refine (walk a0 len0 cap0 z0 a1 len1 cap1 z1 a2 W rd0 reach0 rd1 reach1 w2).mono fun e W' ⟨he, bel⟩ => ?_
  subst he
  exact ⟨_, rfl, _, _, _, [], _, [], hW', trodAll_mk1 (shut_bool Try.underlying4 _), (trodAll_cons_mk (Below.trod laidOut (by kernel_rfl) (of_decide_eq_true (by kernel_rfl)) k0 bel lt0) (trodAll_cons_mk (Below.trod laidOut (by kernel_rfl) (of_decide_eq_true (by kernel_rfl)) k1 bel lt1) (trodAll_cons_mk (shut_int Try.underlying2 w2) trodAll_mk0))), rfl, bel.frame _, fun h => by cases h⟩

theorem over : Rows.fnExactTurnsForMeanRow.holds Try.pinned (OpenSpec.ofChange Rows.fnExactTurnsForMeanSpec) :=
  OpenClaim.holds_of_wide 9 Try.f9 rfl rfl rfl rfl rfl rfl rfl ⟨rfl, rfl, rfl, rfl, rfl⟩ rfl rfl rfl rfl rfl (by kernel_rfl) Try.func9 (by kernel_rfl)
    (of_decide_eq_true (by kernel_rfl)) (by unfold Func.isWrapper; first | (rw [if_pos (by decide +kernel)]; kernel_rfl) | (rw [if_neg (by decide +kernel)]; exact ⟨rfl, rfl⟩))
    (fun os started H enc _ => lifted os started H enc)

theorem proved : Rows.FnExactTurnsForMeanSaid := over
end Go.Proofs.Ytpcaakmcjdginab.fnExactTurnsForMean
