/- FnMeasures holds: for every code, the drawn measure is recovered from its text, and the text that is read from is the text of what is read. -/
import Derived.Test.YtcknknicknolaabDoorCards
import Derived.Test.YtcknknicknolaabDoorTie
import Derived.Test.YtcknknicknolaabDoorOpenB
import Derived.Test.YtcknknicknolaabDoorBig
import Derived.Test.YtcknknicknolaabDoorReadMeas
import Derived.Test.YtcknknicknolaabDoorTab
import Derived.Test.YtcknknicknolaabDoorDraw6
import Derived.Test.YtcknknicknolaabDoorDraw7
import Derived.WalkKit
import Derived.ProofKit
import Derived.OpenShut
import Derived.ShutString
import Derived.SizedLaws
import Derived.Lay
import Derived.Deep.DeepHandedRow
import Derived.Deep.DeepWitnessRowRef
import Derived.SevenTiedAt
import Derived.MakeChecks
namespace Go.Proofs.YtcknknicknolaabDoor.fnMeasures
open Go.ChangeShapes Go.WideShapes Go.ChangeAt Go.RowKit
open Go.ChangeMaps (open_string shut_string)
set_option linter.unusedVariables false

theorem isErr_S : (Rows.fnMeasuresRow.laid.filter isErrS) = [("strconv.ErrSyntax", Rows.laid_strconv_ErrSyntax)] := by kernel_rfl
theorem isErr_R : (Rows.fnMeasuresRow.laid.filter isErrR) = [("strconv.ErrRange", Rows.laid_strconv_ErrRange)] := by kernel_rfl
theorem errs {w : World} (hL : laidMetH Tryd.prog Rows.fnMeasuresRow.laid w) : HasErrs w := by
  rw [MakeChecks.laidMetH_plain _ _ _ (by kernel_rfl)] at hL
  refine ⟨err_cell (List.mem_filter.1 (by rw [isErr_S]; exact List.mem_cons_self)).1 rfl (by kernel_rfl) (by kernel_rfl) Tryd.underlying66 hL, err_cell (List.mem_filter.1 (by rw [isErr_R]; exact List.mem_cons_self)).1 rfl (by kernel_rfl) (by kernel_rfl) Tryd.underlying66 hL⟩
theorem readsM_spec {l : List UInt8} {v : Int} (h : readsM l = some v) : okVal v = true ∧ measL v = l := by
  unfold readsM at h
  split at h
  · split at h
    · rename_i hc
      injection h with h
      subst h
      rw [Bool.and_eq_true] at hc
      exact ⟨hc.1, beq_iff_eq.1 hc.2⟩
    · cases h
  · cases h
theorem meas_ok {w : World} {z : Int} {t : ByteArray} {e : Ending} {w' : World} (hb : okVal z = true) (ht : t.data.toList = measL z) (h : MeasEnd w z e w') : e = .returned (.tuple #[.string t, .int .i64 0]) ∧ Below w.heap.size w w' := by
  obtain ⟨h1, h2⟩ := h
  rw [hb] at h2
  refine ⟨?_, h1⟩
  rw [h2, ← ht]
  simp
theorem meas_bad {w : World} {z : Int} {e : Ending} {w' : World} (hb : okVal z = false) (h : MeasEnd w z e w') : e = .returned (.tuple #[.string ⟨#[]⟩, .int .i64 2]) ∧ Below w.heap.size w w' := by
  obtain ⟨h1, h2⟩ := h
  rw [hb] at h2
  exact ⟨h2, h1⟩
theorem read_some {w : World} {v : Int} {r : Option Int} {e : Ending} {w' : World} (hr : r = some v) (h : ReadMEnd w r e w') : e = .returned (.tuple #[.int .i64 v, .int .i64 0]) ∧ Below w.heap.size w w' := by
  subst hr; exact ⟨h.2, h.1⟩
theorem read_none {w : World} {r : Option Int} {e : Ending} {w' : World} (hr : r = none) (h : ReadMEnd w r e w') : e = .returned (.tuple #[.int .i64 0, .int .i64 6]) ∧ Below w.heap.size w w' := by
  subst hr; exact ⟨h.2, h.1⟩
set_option maxRecDepth 100000 in
set_option maxHeartbeats 4000000 in
theorem walk (A : Option Addr) (n cap : Nat) (bs : List Int) (w : World) (h : Rd w 0 w.heap.size A n (byts bs)) (hn : n * 1 ≤ 140737488351232) (hs : ∀ z ∈ bs, 0 ≤ z ∧ z ≤ 255) (hL : laidMetH Tryd.prog Rows.fnMeasuresRow.laid w) (hsh : w.ShapedOpen Tryd.prog) :
    Calls Tryd.prog 3 #[.slice A n cap] w fun e w' => e = .returned (.bool true) ∧ Below w.heap.size w w' := by
  have hm := HasMax.of_shape hsh
  have ht : Tab w := tab_of_laid (by kernel_rfl) (by kernel_rfl) hL
  have he := errs hL
  clear hL hsh
  have HB := Go.Lib.hid (big_ A n cap w)
  by_cases hbig : (4096 : Int) < n
  · go_enter Tryd.func3, Tryd.ntmps3
    go_wp2_with fail
    refine HB.out.mono ?_
    rintro e w' ⟨rfl, rfl⟩
    go_wp2_with fail
    go_ret
    exact ⟨rfl, Below.refl _ _⟩
  · have hb2 := big_ A n cap w
    rw [decide_eq_false hbig] at hb2
    have HB2 := Go.Lib.hid hb2
    clear hb2
    have HMI := Go.Lib.hid (fun z w0 (h : Below w.heap.size w w0) => implMeasureText z w0 (ht.below h))
    have HMS := Go.Lib.hid (fun z w0 => specMeasureText z w0)
    have HRI := Go.Lib.hid (fun (s : ByteArray) (hs : s.size ≤ 1048576) w0 (h : Below w.heap.size w w0) => implReadMeasure s w0 hs (hm.below h hm.lt) (ht.below h) (he.below h))
    have HRS := Go.Lib.hid (fun (s : ByteArray) (hs : s.size ≤ 1048576) w0 => specReadMeasure s w0 hs)
    clear hm ht he
    go_enter Tryd.func3, Tryd.ntmps3
    go_wp2_with fail
    refine HB2.out.mono ?_
    rintro e w' ⟨rfl, rfl⟩
    go_wp2_with fail
    refine (drawMeasureText A n cap bs w h hs (by omega)).mono ?_
    rintro e w1 ⟨x, rfl, -, b1⟩
    have B1 := Go.Lib.hid b1
    clear b1 HB HB2
    cases hx : okVal x
    · have HI := Go.Lib.hid (fun w0 h => (HMI.out x w0 h).mono fun _ _ h => meas_bad hx h)
      have HS := Go.Lib.hid (fun w0 => (HMS.out x w0).mono fun _ _ h => meas_bad hx h)
      clear hx
      go_wp2_with fail
      refine (HI.out _ B1.out).mono ?_
      rintro e w2 ⟨rfl, b2⟩
      have B2 := Go.Lib.hid (B1.out.trans (b2.mono B1.out.size))
      clear b2 B1
      go_wp2_with fail
      refine (HS.out _).mono ?_
      rintro e w3 ⟨rfl, b3⟩
      have B3 := Go.Lib.hid (B2.out.trans (b3.mono B2.out.size))
      clear b3 B2
      go_wp2_with fail
      refine (drawReadMeasure A n cap bs w3 ((h.below B3.out (Nat.le_refl _)).mono (Nat.le_refl _) B3.out.size) hs (by omega)).mono ?_
      rintro e w4 ⟨s, rfl, hsz, b4⟩
      have B4 := Go.Lib.hid (B3.out.trans (b4.mono B3.out.size))
      clear b4 B3 HI HS
      have hs1 : s.size ≤ 1048576 := by omega
      cases hr : readsM s.data.toList with
      | none =>
        have HI2 := Go.Lib.hid (fun w0 h => (HRI.out s hs1 w0 h).mono fun _ _ h => read_none hr h)
        have HS2 := Go.Lib.hid (fun w0 => (HRS.out s hs1 w0).mono fun _ _ h => read_none hr h)
        clear hr
        go_wp2_with fail
        refine (HI2.out _ B4.out).mono ?_
        rintro e w5 ⟨rfl, b5⟩
        have B5 := Go.Lib.hid (B4.out.trans (b5.mono B4.out.size))
        clear b5 B4
        go_wp2_with fail
        refine (HS2.out _).mono ?_
        rintro e w6 ⟨rfl, b6⟩
        have B6 := Go.Lib.hid (B5.out.trans (b6.mono B5.out.size))
        clear b6 B5
        go_wp2_with fail
        go_ret
        exact ⟨rfl, B6.out⟩
      | some v =>
        have HI2 := Go.Lib.hid (fun w0 h => (HRI.out s hs1 w0 h).mono fun _ _ h => read_some hr h)
        have HS2 := Go.Lib.hid (fun w0 => (HRS.out s hs1 w0).mono fun _ _ h => read_some hr h)
        obtain ⟨hv1, hv2⟩ := readsM_spec hr
        have HAG := Go.Lib.hid (fun w0 h => (HMI.out v w0 h).mono fun _ _ h => meas_ok hv1 hv2.symm h)
        clear hv1 hv2
        clear hr
        go_wp2_with fail
        refine (HI2.out _ B4.out).mono ?_
        rintro e w5 ⟨rfl, b5⟩
        have B5 := Go.Lib.hid (B4.out.trans (b5.mono B4.out.size))
        clear b5 B4
        go_wp2_with fail
        refine (HS2.out _).mono ?_
        rintro e w6 ⟨rfl, b6⟩
        have B6 := Go.Lib.hid (B5.out.trans (b6.mono B5.out.size))
        clear b6 B5
        go_wp2_with fail
        refine (HAG.out _ B6.out).mono ?_
        rintro e w7 ⟨rfl, b7⟩
        have B7 := Go.Lib.hid (B6.out.trans (b7.mono B6.out.size))
        clear b7 B6
        go_wp2_with fail
        go_ret
        exact ⟨rfl, B7.out⟩
    · obtain ⟨t, htx⟩ : ∃ t : ByteArray, t.data.toList = measL x := ⟨⟨(measL x).toArray⟩, by simp⟩
      have HX := Go.Lib.hid (And.intro hx htx)
      have HI := Go.Lib.hid (fun w0 h => (HMI.out x w0 h).mono fun _ _ h => meas_ok hx htx h)
      have HS := Go.Lib.hid (fun w0 => (HMS.out x w0).mono fun _ _ h => meas_ok hx htx h)
      have HBK := Go.Lib.hid (fun (hsz : t.size ≤ 1048576) w0 h => (HRI.out t hsz w0 h).mono fun _ _ q => read_some (readsM_of hx htx.symm) q)
      have hts : t.size ≤ 1048576 := by
        have h1 := (show okVal x = true from hx)
        unfold okVal at h1
        simp only [Bool.and_eq_true, decide_eq_true_eq] at h1
        have h2 := measL_lenW x (by omega) (by omega)
        have h3 : t.data.toList.length = t.size := by simp
        rw [htx] at h3
        omega
      clear htx
      clear hx
      go_wp2_with fail
      refine (HI.out _ B1.out).mono ?_
      rintro e w2 ⟨rfl, b2⟩
      have B2 := Go.Lib.hid (B1.out.trans (b2.mono B1.out.size))
      clear b2 B1
      go_wp2_with fail
      refine (HS.out _).mono ?_
      rintro e w3 ⟨rfl, b3⟩
      have B3 := Go.Lib.hid (B2.out.trans (b3.mono B2.out.size))
      clear b3 B2
      go_wp2_with fail
      refine (drawReadMeasure A n cap bs w3 ((h.below B3.out (Nat.le_refl _)).mono (Nat.le_refl _) B3.out.size) hs (by omega)).mono ?_
      rintro e w4 ⟨s, rfl, hsz, b4⟩
      have B4 := Go.Lib.hid (B3.out.trans (b4.mono B3.out.size))
      clear b4 B3 HI HS
      have hs1 : s.size ≤ 1048576 := by omega
      cases hr : readsM s.data.toList with
      | none =>
        have HI2 := Go.Lib.hid (fun w0 h => (HRI.out s hs1 w0 h).mono fun _ _ h => read_none hr h)
        have HS2 := Go.Lib.hid (fun w0 => (HRS.out s hs1 w0).mono fun _ _ h => read_none hr h)
        clear hr
        go_wp2_with fail
        refine (HI2.out _ B4.out).mono ?_
        rintro e w5 ⟨rfl, b5⟩
        have B5 := Go.Lib.hid (B4.out.trans (b5.mono B4.out.size))
        clear b5 B4
        go_wp2_with fail
        refine (HS2.out _).mono ?_
        rintro e w6 ⟨rfl, b6⟩
        have B6 := Go.Lib.hid (B5.out.trans (b6.mono B5.out.size))
        clear b6 B5
        go_wp2_with fail
        refine (HBK.out hts _ B6.out).mono ?_
        rintro e w7 ⟨rfl, b7⟩
        have B7 := Go.Lib.hid (B6.out.trans (b7.mono B6.out.size))
        clear b7 B6
        go_wp2_with fail
        go_ret
        exact ⟨rfl, B7.out⟩
      | some v =>
        have HI2 := Go.Lib.hid (fun w0 h => (HRI.out s hs1 w0 h).mono fun _ _ h => read_some hr h)
        have HS2 := Go.Lib.hid (fun w0 => (HRS.out s hs1 w0).mono fun _ _ h => read_some hr h)
        obtain ⟨hv1, hv2⟩ := readsM_spec hr
        have HAG := Go.Lib.hid (fun w0 h => (HMI.out v w0 h).mono fun _ _ h => meas_ok hv1 hv2.symm h)
        clear hv1 hv2
        clear hr
        go_wp2_with fail
        refine (HI2.out _ B4.out).mono ?_
        rintro e w5 ⟨rfl, b5⟩
        have B5 := Go.Lib.hid (B4.out.trans (b5.mono B4.out.size))
        clear b5 B4
        go_wp2_with fail
        refine (HS2.out _).mono ?_
        rintro e w6 ⟨rfl, b6⟩
        have B6 := Go.Lib.hid (B5.out.trans (b6.mono B5.out.size))
        clear b6 B5
        go_wp2_with fail
        refine (HAG.out _ B6.out).mono ?_
        rintro e w7 ⟨rfl, b7⟩
        have B7 := Go.Lib.hid (B6.out.trans (b7.mono B6.out.size))
        clear b7 B6
        go_wp2_with fail
        refine (HBK.out hts _ B7.out).mono ?_
        rintro e w8 ⟨rfl, b8⟩
        have B8 := Go.Lib.hid (B7.out.trans (b8.mono B7.out.size))
        clear b8 B7
        go_wp2_with fail
        go_ret
        exact ⟨rfl, B8.out⟩

set_option maxRecDepth 100000 in
theorem contract (H : Type) (enc : TypeId × Value → H) (W : World) (base : Nat) (args : Array Value) (ds gs : List (DataW H)) (before : List MemPlace)
    (hval : ∀ (j : Nat) t v, Tryd.f3.params[j]? = some t → args[j]? = some v → Value.okWide Tryd.prog W .any base t v)
    (hW : DataW.Whole enc Tryd.prog Tryd.f3.params.toList Rows.fnMeasuresSpec.vars false W args.toList ds gs before) (hsz : (DataW.weightsEach Tryd.prog (Tryd.f3.params.toList ++ Rows.fnMeasuresSpec.plain.varTypes Tryd.prog) (ds ++ gs)).all (· ≤ reachBytes) = true) (hL : laidMetH Tryd.prog Rows.fnMeasuresRow.laid W) (hsh : W.ShapedOpen Tryd.prog) :
    Calls Tryd.prog 3 args W fun e W' => ∃ v, e = .returned v ∧ Rows.fnMeasuresSpec.post enc Tryd.prog Tryd.f3 false true false false W args v W' := by
  have hW' := hW
  obtain ⟨p, q, hA0, hV, rfl, hfz, hnd⟩ := hW
  have hA : DataW.TrodAll enc Tryd.prog W 0 (fun _ => true) true Tryd.f3.params.toList args.toList ds p := hA0
  rw [Tryd.params3] at hA hval hsz
  obtain ⟨v0, vs0, d0, ds0, p0, q0, hargs, rfl, rfl, h0, r0⟩ := trodAll_cons hA
  obtain ⟨rfl, rfl, rfl⟩ := trodAll_nil r0
  obtain rfl : args = #[v0] := by cases args; simp_all
  obtain ⟨rfl, rfl⟩ := trodVars_none hV
  obtain ⟨a0, len0, cap0, rfl⟩ := okWide_slice Tryd.underlying22 (hval 0 22 v0 rfl rfl)
  have k0 := h0
  have lt0 : ∀ x ∈ p0, x.block < W.heap.size := by obtain ⟨m, hm⟩ := k0; exact DataW.trod_lt m _ _ _ hm
  obtain ⟨⟨z0, rd0, sz0⟩, hlc0, hp0⟩ := open_list_bytes h0
  have reach0 : len0 * 1 ≤ 140737488351232 := by
    rcases hp0 with hp0 | ⟨E0, S0, rfl, hl0⟩
    · omega
    · have := sized_slice hsz (j := 0) (t := 22) (e := 5) rfl rfl Tryd.underlying22
      rw [show Tryd.prog.bytesOf 5 = 1 by kernel_rfl] at this
      simp only [reachBytes] at this
      omega
  clear hA0
  refine (walk a0 len0 cap0 z0 W rd0 reach0 sz0 hL hsh).mono fun e W' ⟨he, bel⟩ => ?_
  subst he
  exact ⟨_, rfl, _, _, _, [], _, [], hW', trodAll_mk1 (shut_bool Tryd.underlying4 _), (trodAll_cons_mk (Below.trod laidOut (by kernel_rfl) (of_decide_eq_true (by kernel_rfl)) k0 bel lt0) trodAll_mk0), rfl, bel.frame _, fun h => by cases h⟩

theorem laid_met (os : Os) (args : Array Value) : laidMetH Tryd.prog Rows.fnMeasuresRow.laid ((World.laidAll Tryd.prog os Rows.fnMeasuresRow.laid).forCall (fun _ _ => 0) ⟨#[], args, []⟩).memory := by
  rw [MakeChecks.laidMetH_plain _ _ _ (by kernel_rfl)]
  exact laidMet_laidAll _ (by kernel_rfl) (by kernel_rfl)
theorem reads (os : Os) {H : Type} (enc : TypeId × Value → H) : ∃ places, DataW.whole enc Tryd.prog ((World.laidAll Tryd.prog os Rows.fnMeasuresRow.laid).forCall (fun _ _ => 0) ⟨#[], #[.slice none 0 0], []⟩).memory Tryd.f3.params.toList Rows.fnMeasuresSpec.vars false #[Value.slice none 0 0].toList 8 = some ([.nil], [], places) :=
  ⟨[], by kernel_rfl⟩

set_option maxRecDepth 100000 in
theorem lifted (os : Os) (started : os.Started) (H : Type) (enc : TypeId × Value → H) (F : Stop.Interp) :
    ReturnsInHanded {} Tryd.checked os 3 .any ((OpenSpec.ofChange Rows.fnMeasuresSpec).preRow enc Tryd.prog Tryd.f3 Rows.fnMeasuresRow.domain false Rows.fnMeasuresRow.laid) (((OpenSpec.ofChange Rows.fnMeasuresSpec).at F).post enc Tryd.prog Tryd.f3 false true false false) := by
  obtain ⟨places, hx⟩ := reads os enc
  refine returnsInHanded_of_row (C := Tryd.checked) (s := OpenSpec.ofChange Rows.fnMeasuresSpec) own started (by kernel_rfl) Tryd.func3
    (witness_row_atRef (enc := enc) (C := Tryd.checked) false (World.laidAll Tryd.prog os Rows.fnMeasuresRow.laid) #[.slice none 0 0] rfl (by kernel_rfl) (by kernel_rfl) (by kernel_rfl)
      (OpenSpec.preRow_of_cond 8 hx (by kernel_rfl) (fun k hk => by cases hk) (by kernel_rfl) (laid_met os _))) ?_
  intro W base args ds gs before hval hW _ _ hsz hL hsh _
  exact contract H enc W base args ds gs before hval hW hsz hL hsh

theorem said : Rows.FnMeasuresSaid :=
  OpenClaim.holds_of_cond 3 Tryd.f3 rfl rfl rfl rfl rfl rfl rfl ⟨rfl, rfl, rfl, rfl, rfl⟩ rfl rfl rfl rfl rfl (by kernel_rfl) Tryd.func3 (by kernel_rfl)
    (of_decide_eq_true (by kernel_rfl)) (by unfold Func.isWrapper; first | (rw [if_pos (by decide +kernel)]; kernel_rfl) | (rw [if_neg (by decide +kernel)]; exact ⟨rfl, rfl⟩))
    (fun os started H enc _ F => by rw [OpenClaim.pre_eq_preRow]; exact lifted os started H enc F)

theorem plain (f : FuncId) (fn : Func) (hf : Tryd.pinned.checked.prog.funcNamed "loop.example/g01050/laws.FnMeasures" = some f) (hfn : Tryd.pinned.checked.prog.funcs[f]? = some fn) :
    true = Tryd.pinned.checked.prog.looks [] ∧ ∀ (j : Nat) t, fn.params[j]? = some t → Tryd.pinned.checked.prog.wantsStandIn t = false := by
  obtain rfl : f = 3 := Option.some.inj ((show Tryd.prog.funcNamed "loop.example/g01050/laws.FnMeasures" = some 3 by kernel_rfl).symm.trans hf) |>.symm
  obtain rfl : fn = Tryd.f3 := (Option.some.inj (Tryd.func3.symm.trans hfn)).symm
  refine ⟨by kernel_rfl, fun j t ht => ?_⟩
  rw [Tryd.params3] at ht
  have hm : t ∈ [22] := by simpa using Array.mem_of_getElem? ht
  have hall : ([22].all fun u => !Tryd.prog.wantsStandIn u) = true := by kernel_rfl
  exact (show Tryd.prog.wantsStandIn t = false by simpa using List.all_eq_true.1 hall t hm)

theorem proved : Rows.FnMeasuresCardSaid :=
  Claim7.holds_tied_plain_at .later [] _ _ _ _ said (fun _ h => by cases h) (by kernel_rfl) (fun _ h => by cases h) fnMeasures_row_tie rfl ⟨rfl, rfl⟩ (by kernel_rfl) rfl plain (by kernel_rfl)
end Go.Proofs.YtcknknicknolaabDoor.fnMeasures
