/- FnIntervalTexts holds: for every code, the drawn interval is recovered from its text, and the text that is read from is the text of what is read. -/
import Derived.Test.YtcknknicknolaabDoorCards
import Derived.Test.YtcknknicknolaabDoorTie
import Derived.Test.YtcknknicknolaabDoorOpenB
import Derived.Test.YtcknknicknolaabDoorBig
import Derived.Test.YtcknknicknolaabDoorTab
import Derived.Test.YtcknknicknolaabDoorReadIv2
import Derived.Test.YtcknknicknolaabDoorLawIv
import Derived.Test.YtcknknicknolaabDoorDraw8
import Derived.WalkKit
import Derived.ProofKit
import Derived.OpenShut
import Derived.ShutString
import Derived.SizedLaws
import Derived.Lay
import Derived.Deep.DeepHandedRow
import Derived.Deep.DeepWitnessRowRef
import Derived.SevenTiedAt
import Derived.MakeChecks
namespace Go.Proofs.YtcknknicknolaabDoor.fnIntervalTexts
open Go.ChangeShapes Go.WideShapes Go.ChangeAt Go.RowKit
open Go.ChangeMaps (open_string shut_string)
set_option linter.unusedVariables false

theorem isErr_S : (Rows.fnIntervalTextsRow.laid.filter isErrS) = [("strconv.ErrSyntax", Rows.laid_strconv_ErrSyntax)] := by kernel_rfl
theorem isErr_R : (Rows.fnIntervalTextsRow.laid.filter isErrR) = [("strconv.ErrRange", Rows.laid_strconv_ErrRange)] := by kernel_rfl
theorem errs {w : World} (hL : laidMetH Tryd.prog Rows.fnIntervalTextsRow.laid w) : HasErrs w := by
  rw [MakeChecks.laidMetH_plain _ _ _ (by kernel_rfl)] at hL
  refine ⟨err_cell (List.mem_filter.1 (by rw [isErr_S]; exact List.mem_cons_self)).1 rfl (by kernel_rfl) (by kernel_rfl) Tryd.underlying66 hL, err_cell (List.mem_filter.1 (by rw [isErr_R]; exact List.mem_cons_self)).1 rfl (by kernel_rfl) (by kernel_rfl) Tryd.underlying66 hL⟩
theorem ivt_ok {w : World} {a b : Int} {t : ByteArray} {e : Ending} {w' : World} (hb : vldB a b = true) (ht : t.data.toList = ivL a b) (h : IvTEnd w a b e w') : e = .returned (.tuple #[.string t, .int .i64 0]) ∧ Below w.heap.size w w' := by
  obtain ⟨h1, h2⟩ := h
  rw [hb] at h2
  refine ⟨?_, h1⟩
  rw [h2, ← ht]
  simp
theorem ivt_bad {w : World} {a b : Int} {e : Ending} {w' : World} (hb : vldB a b = false) (h : IvTEnd w a b e w') : e = .returned (.tuple #[.string ⟨#[]⟩, .int .i64 1]) ∧ Below w.heap.size w w' := by
  obtain ⟨h1, h2⟩ := h
  rw [hb] at h2
  exact ⟨h2, h1⟩
theorem readI_some {w : World} {x y : Int} {r : Option (Int × Int)} {e : Ending} {w' : World} (hr : r = some (x, y)) (h : ReadIEnd w r e w') : e = .returned (.tuple #[ivV x y, .int .i64 0]) ∧ Below w.heap.size w w' := by
  subst hr; exact ⟨h.2, h.1⟩
theorem readI_none {w : World} {r : Option (Int × Int)} {e : Ending} {w' : World} (hr : r = none) (h : ReadIEnd w r e w') : e = .returned (.tuple #[ivV 0 0, .int .i64 6]) ∧ Below w.heap.size w w' := by
  subst hr; exact ⟨h.2, h.1⟩
set_option maxRecDepth 100000 in
set_option maxHeartbeats 16000000 in
theorem walk (A : Option Addr) (n cap : Nat) (bs : List Int) (w : World) (h : Rd w 0 w.heap.size A n (byts bs)) (hn : n * 1 ≤ 140737488351232) (hs : ∀ z ∈ bs, 0 ≤ z ∧ z ≤ 255) (hL : laidMetH Tryd.prog Rows.fnIntervalTextsRow.laid w) (hsh : w.ShapedOpen Tryd.prog) :
    Calls Tryd.prog 4 #[.slice A n cap] w fun e w' => e = .returned (.bool true) ∧ Below w.heap.size w w' := by
  have hm := HasMax.of_shape hsh
  have ht : Tab w := tab_of_laid (by kernel_rfl) (by kernel_rfl) hL
  have he := errs hL
  clear hL hsh
  have HB := Go.Lib.hid (big_ A n cap w)
  by_cases hbig : (4096 : Int) < n
  · go_enter Tryd.func4, Tryd.ntmps4
    go_wp2_with fail
    refine HB.out.mono ?_
    rintro e w' ⟨rfl, rfl⟩
    go_wp2_with fail
    go_ret
    exact ⟨rfl, Below.refl _ _⟩
  · have hb2 := big_ A n cap w
    rw [decide_eq_false hbig] at hb2
    have HB2 := Go.Lib.hid hb2
    clear hb2
    have HMI := Go.Lib.hid (fun a b w0 (h : Below w.heap.size w w0) => implIvText a b w0 (ht.below h))
    have HMS := Go.Lib.hid (fun a b w0 => specIvText a b w0)
    have HRI := Go.Lib.hid (fun (s : ByteArray) (hs : s.size ≤ 1048576) w0 (h : Below w.heap.size w w0) => implReadInterval s w0 hs (hm.below h hm.lt) (ht.below h) (he.below h))
    have HRS := Go.Lib.hid (fun (s : ByteArray) (hs : s.size ≤ 1048576) w0 => specReadInterval s w0 hs)
    clear hm ht he
    go_enter Tryd.func4, Tryd.ntmps4
    go_wp2_with fail
    refine HB2.out.mono ?_
    rintro e w' ⟨rfl, rfl⟩
    go_wp2_with fail
    refine (drawIntervalText A n cap bs w h hs (by omega)).mono ?_
    rintro e w1 ⟨a, b, rfl, -, b1⟩
    have U0 := Go.Lib.hid ((⟨b1, fun v hv => by cases hv⟩ : VCtx w [] w1).var (x := a) (y := b) 31)
    clear b1 HB HB2 hbig
    go_wp2_with fail
    obtain ⟨q3, hq⟩ : ∃ q, q = w1.heap.size := ⟨_, rfl⟩
    rw [← hq] at U0 ⊢
    generalize w1.alloc (.cells #[.int .i64 a, .int .i64 b] 31) = w2 at U0 ⊢
    clear hq
    cases hx : vldB a b
    · have HI := Go.Lib.hid (fun w0 h => (HMI.out a b w0 h).mono fun _ _ h => ivt_bad hx h)
      have HS := Go.Lib.hid (fun w0 => (HMS.out a b w0).mono fun _ _ h => ivt_bad hx h)
      have HV := Go.Lib.hid (show ∀ w0, Calls Tryd.prog 22 #[ivV a b] w0 (NewBool w0 false) by
        intro w0
        rw [← hx]
        exact implIsInterval a b w0)
      clear hx
      refine (HI.out _ U0.out.below).mono ?_
      rintro e v1 ⟨rfl, b1⟩
      have U1 := Go.Lib.hid (U0.out.step b1)
      clear b1 U0
      have fq3a := U1.out.c0 (r := q3) (x := a) (y := b) (by simp)
      have fq3b := U1.out.c1 (r := q3) (x := a) (y := b) (by simp)
      have fq3l := U1.out.lt (r := q3) (x := a) (y := b) (by simp)
      go_wp2_with fail
      refine (HS.out _).mono ?_
      rintro e v2 ⟨rfl, b2⟩
      have U2 := Go.Lib.hid (U1.out.step b2)
      clear fq3a fq3b fq3l
      clear b2 U1
      have fq3a := U2.out.c0 (r := q3) (x := a) (y := b) (by simp)
      have fq3b := U2.out.c1 (r := q3) (x := a) (y := b) (by simp)
      have fq3l := U2.out.lt (r := q3) (x := a) (y := b) (by simp)
      go_wp2_with fail
      refine (drawReadInterval A n cap bs _ (U2.out.rd h) hs (by omega)).mono ?_
      rintro e v3 ⟨s, rfl, hsz, b3⟩
      have U3 := Go.Lib.hid (U2.out.step b3)
      clear fq3a fq3b fq3l
      clear b3 U2
      have hs1 : s.size ≤ 1048576 := by omega
      cases hr : readsI s.data.toList with
      | none =>
        have HI2 := Go.Lib.hid (fun w0 h => (HRI.out s hs1 w0 h).mono fun _ _ h => readI_none hr h)
        have HS2 := Go.Lib.hid (fun w0 => (HRS.out s hs1 w0).mono fun _ _ h => readI_none hr h)
        clear hr
        go_wp2_with fail
        refine (HI2.out _ U3.out.below).mono ?_
        rintro e v4 ⟨rfl, b4⟩
        have U4 := Go.Lib.hid (U3.out.step b4)
        clear b4 U3
        have fq3a := U4.out.c0 (r := q3) (x := a) (y := b) (by simp)
        have fq3b := U4.out.c1 (r := q3) (x := a) (y := b) (by simp)
        have fq3l := U4.out.lt (r := q3) (x := a) (y := b) (by simp)
        go_wp2_with fail
        have U5 := Go.Lib.hid (U4.out.var (x := 0) (y := 0) 31)
        clear fq3a fq3b fq3l
        clear U4
        obtain ⟨q9, hq⟩ : ∃ q, q = v4.heap.size := ⟨_, rfl⟩
        rw [← hq] at U5 ⊢
        generalize v4.alloc (.cells #[.int .i64 0, .int .i64 0] 31) = v5 at U5 ⊢
        clear hq
        refine (HS2.out _).mono ?_
        rintro e v6 ⟨rfl, b6⟩
        have U6 := Go.Lib.hid (U5.out.step b6)
        clear b6 U5
        have fq9a := U6.out.c0 (r := q9) (x := 0) (y := 0) (by simp)
        have fq9b := U6.out.c1 (r := q9) (x := 0) (y := 0) (by simp)
        have fq9l := U6.out.lt (r := q9) (x := 0) (y := 0) (by simp)
        have fq3a := U6.out.c0 (r := q3) (x := a) (y := b) (by simp)
        have fq3b := U6.out.c1 (r := q3) (x := a) (y := b) (by simp)
        have fq3l := U6.out.lt (r := q3) (x := a) (y := b) (by simp)
        go_wp2_with fail
        have U7 := Go.Lib.hid (U6.out.var (x := 0) (y := 0) 31)
        clear fq9a fq9b fq9l fq3a fq3b fq3l
        clear U6
        obtain ⟨q11, hq⟩ : ∃ q, q = v6.heap.size := ⟨_, rfl⟩
        rw [← hq] at U7 ⊢
        generalize v6.alloc (.cells #[.int .i64 0, .int .i64 0] 31) = v7 at U7 ⊢
        clear hq
        refine (HV.out _).mono ?_
        rintro e v8 ⟨rfl, b8⟩
        have U8 := Go.Lib.hid (U7.out.step b8)
        clear b8 U7
        have fq9a := U8.out.c0 (r := q9) (x := 0) (y := 0) (by simp)
        have fq9b := U8.out.c1 (r := q9) (x := 0) (y := 0) (by simp)
        have fq9l := U8.out.lt (r := q9) (x := 0) (y := 0) (by simp)
        have fq3a := U8.out.c0 (r := q3) (x := a) (y := b) (by simp)
        have fq3b := U8.out.c1 (r := q3) (x := a) (y := b) (by simp)
        have fq3l := U8.out.lt (r := q3) (x := a) (y := b) (by simp)
        go_wp2_with fail
        go_ret
        exact ⟨rfl, U8.out.below⟩
      | some p =>
        obtain ⟨y1, y2⟩ := p
        have HI2 := Go.Lib.hid (fun w0 h => (HRI.out s hs1 w0 h).mono fun _ _ h => readI_some hr h)
        have HS2 := Go.Lib.hid (fun w0 => (HRS.out s hs1 w0).mono fun _ _ h => readI_some hr h)
        obtain ⟨hv1, hv2⟩ := readsI_spec hr
        have HAG := Go.Lib.hid (fun w0 h => (HMI.out y1 y2 w0 h).mono fun _ _ h => ivt_ok hv1 hv2.symm h)
        clear hv1 hv2
        clear hr
        go_wp2_with fail
        refine (HI2.out _ U3.out.below).mono ?_
        rintro e v4 ⟨rfl, b4⟩
        have U4 := Go.Lib.hid (U3.out.step b4)
        clear b4 U3
        have fq3a := U4.out.c0 (r := q3) (x := a) (y := b) (by simp)
        have fq3b := U4.out.c1 (r := q3) (x := a) (y := b) (by simp)
        have fq3l := U4.out.lt (r := q3) (x := a) (y := b) (by simp)
        go_wp2_with fail
        have U5 := Go.Lib.hid (U4.out.var (x := y1) (y := y2) 31)
        clear fq3a fq3b fq3l
        clear U4
        obtain ⟨q9, hq⟩ : ∃ q, q = v4.heap.size := ⟨_, rfl⟩
        rw [← hq] at U5 ⊢
        generalize v4.alloc (.cells #[.int .i64 y1, .int .i64 y2] 31) = v5 at U5 ⊢
        clear hq
        refine (HS2.out _).mono ?_
        rintro e v6 ⟨rfl, b6⟩
        have U6 := Go.Lib.hid (U5.out.step b6)
        clear b6 U5
        have fq9a := U6.out.c0 (r := q9) (x := y1) (y := y2) (by simp)
        have fq9b := U6.out.c1 (r := q9) (x := y1) (y := y2) (by simp)
        have fq9l := U6.out.lt (r := q9) (x := y1) (y := y2) (by simp)
        have fq3a := U6.out.c0 (r := q3) (x := a) (y := b) (by simp)
        have fq3b := U6.out.c1 (r := q3) (x := a) (y := b) (by simp)
        have fq3l := U6.out.lt (r := q3) (x := a) (y := b) (by simp)
        go_wp2_with fail
        have U7 := Go.Lib.hid (U6.out.var (x := y1) (y := y2) 31)
        clear fq9a fq9b fq9l fq3a fq3b fq3l
        clear U6
        obtain ⟨q11, hq⟩ : ∃ q, q = v6.heap.size := ⟨_, rfl⟩
        rw [← hq] at U7 ⊢
        generalize v6.alloc (.cells #[.int .i64 y1, .int .i64 y2] 31) = v7 at U7 ⊢
        clear hq
        refine (HV.out _).mono ?_
        rintro e v8 ⟨rfl, b8⟩
        have U8 := Go.Lib.hid (U7.out.step b8)
        clear b8 U7
        have fq9a := U8.out.c0 (r := q9) (x := y1) (y := y2) (by simp)
        have fq9b := U8.out.c1 (r := q9) (x := y1) (y := y2) (by simp)
        have fq9l := U8.out.lt (r := q9) (x := y1) (y := y2) (by simp)
        have fq3a := U8.out.c0 (r := q3) (x := a) (y := b) (by simp)
        have fq3b := U8.out.c1 (r := q3) (x := a) (y := b) (by simp)
        have fq3l := U8.out.lt (r := q3) (x := a) (y := b) (by simp)
        go_wp2_with fail
        refine (HAG.out _ U8.out.below).mono ?_
        rintro e v9 ⟨rfl, b9⟩
        have U9 := Go.Lib.hid (U8.out.step b9)
        clear fq9a fq9b fq9l fq3a fq3b fq3l
        clear b9 U8
        have fq3a := U9.out.c0 (r := q3) (x := a) (y := b) (by simp)
        have fq3b := U9.out.c1 (r := q3) (x := a) (y := b) (by simp)
        have fq3l := U9.out.lt (r := q3) (x := a) (y := b) (by simp)
        go_wp2_with fail
        go_ret
        exact ⟨rfl, U9.out.below⟩
    · obtain ⟨t, htx⟩ : ∃ t : ByteArray, t.data.toList = ivL a b := ⟨⟨(ivL a b).toArray⟩, by simp⟩
      have HI := Go.Lib.hid (fun w0 h => (HMI.out a b w0 h).mono fun _ _ h => ivt_ok hx htx h)
      have HS := Go.Lib.hid (fun w0 => (HMS.out a b w0).mono fun _ _ h => ivt_ok hx htx h)
      have HV := Go.Lib.hid (show ∀ w0, Calls Tryd.prog 22 #[ivV a b] w0 (NewBool w0 true) by
        intro w0
        rw [← hx]
        exact implIsInterval a b w0)
      have HBK := Go.Lib.hid (fun (hsz : t.size ≤ 1048576) w0 h => (HRI.out t hsz w0 h).mono fun _ _ q => readI_some (readsI_of hx htx.symm) q)
      have hts : t.size ≤ 1048576 := by
        obtain ⟨h1, h2, h3⟩ := vldB_of hx
        have h2 := ivL_len a b (by omega) (by omega) (by omega) (by omega)
        have h3 : t.data.toList.length = t.size := by simp
        rw [htx] at h3
        omega
      clear htx
      clear hx
      refine (HI.out _ U0.out.below).mono ?_
      rintro e v1 ⟨rfl, b1⟩
      have U1 := Go.Lib.hid (U0.out.step b1)
      clear b1 U0
      have fq3a := U1.out.c0 (r := q3) (x := a) (y := b) (by simp)
      have fq3b := U1.out.c1 (r := q3) (x := a) (y := b) (by simp)
      have fq3l := U1.out.lt (r := q3) (x := a) (y := b) (by simp)
      go_wp2_with fail
      refine (HS.out _).mono ?_
      rintro e v2 ⟨rfl, b2⟩
      have U2 := Go.Lib.hid (U1.out.step b2)
      clear fq3a fq3b fq3l
      clear b2 U1
      have fq3a := U2.out.c0 (r := q3) (x := a) (y := b) (by simp)
      have fq3b := U2.out.c1 (r := q3) (x := a) (y := b) (by simp)
      have fq3l := U2.out.lt (r := q3) (x := a) (y := b) (by simp)
      go_wp2_with fail
      refine (drawReadInterval A n cap bs _ (U2.out.rd h) hs (by omega)).mono ?_
      rintro e v3 ⟨s, rfl, hsz, b3⟩
      have U3 := Go.Lib.hid (U2.out.step b3)
      clear fq3a fq3b fq3l
      clear b3 U2
      have hs1 : s.size ≤ 1048576 := by omega
      cases hr : readsI s.data.toList with
      | none =>
        have HI2 := Go.Lib.hid (fun w0 h => (HRI.out s hs1 w0 h).mono fun _ _ h => readI_none hr h)
        have HS2 := Go.Lib.hid (fun w0 => (HRS.out s hs1 w0).mono fun _ _ h => readI_none hr h)
        clear hr
        go_wp2_with fail
        refine (HI2.out _ U3.out.below).mono ?_
        rintro e v4 ⟨rfl, b4⟩
        have U4 := Go.Lib.hid (U3.out.step b4)
        clear b4 U3
        have fq3a := U4.out.c0 (r := q3) (x := a) (y := b) (by simp)
        have fq3b := U4.out.c1 (r := q3) (x := a) (y := b) (by simp)
        have fq3l := U4.out.lt (r := q3) (x := a) (y := b) (by simp)
        go_wp2_with fail
        have U5 := Go.Lib.hid (U4.out.var (x := 0) (y := 0) 31)
        clear fq3a fq3b fq3l
        clear U4
        obtain ⟨q9, hq⟩ : ∃ q, q = v4.heap.size := ⟨_, rfl⟩
        rw [← hq] at U5 ⊢
        generalize v4.alloc (.cells #[.int .i64 0, .int .i64 0] 31) = v5 at U5 ⊢
        clear hq
        refine (HS2.out _).mono ?_
        rintro e v6 ⟨rfl, b6⟩
        have U6 := Go.Lib.hid (U5.out.step b6)
        clear b6 U5
        have fq9a := U6.out.c0 (r := q9) (x := 0) (y := 0) (by simp)
        have fq9b := U6.out.c1 (r := q9) (x := 0) (y := 0) (by simp)
        have fq9l := U6.out.lt (r := q9) (x := 0) (y := 0) (by simp)
        have fq3a := U6.out.c0 (r := q3) (x := a) (y := b) (by simp)
        have fq3b := U6.out.c1 (r := q3) (x := a) (y := b) (by simp)
        have fq3l := U6.out.lt (r := q3) (x := a) (y := b) (by simp)
        go_wp2_with fail
        have U7 := Go.Lib.hid (U6.out.var (x := 0) (y := 0) 31)
        clear fq9a fq9b fq9l fq3a fq3b fq3l
        clear U6
        obtain ⟨q11, hq⟩ : ∃ q, q = v6.heap.size := ⟨_, rfl⟩
        rw [← hq] at U7 ⊢
        generalize v6.alloc (.cells #[.int .i64 0, .int .i64 0] 31) = v7 at U7 ⊢
        clear hq
        refine (HV.out _).mono ?_
        rintro e v8 ⟨rfl, b8⟩
        have U8 := Go.Lib.hid (U7.out.step b8)
        clear b8 U7
        have fq9a := U8.out.c0 (r := q9) (x := 0) (y := 0) (by simp)
        have fq9b := U8.out.c1 (r := q9) (x := 0) (y := 0) (by simp)
        have fq9l := U8.out.lt (r := q9) (x := 0) (y := 0) (by simp)
        have fq3a := U8.out.c0 (r := q3) (x := a) (y := b) (by simp)
        have fq3b := U8.out.c1 (r := q3) (x := a) (y := b) (by simp)
        have fq3l := U8.out.lt (r := q3) (x := a) (y := b) (by simp)
        go_wp2_with fail
        refine (HBK.out hts _ U8.out.below).mono ?_
        rintro e v9 ⟨rfl, b9⟩
        have U9 := Go.Lib.hid (U8.out.step b9)
        clear fq9a fq9b fq9l fq3a fq3b fq3l
        clear b9 U8
        have fq3a := U9.out.c0 (r := q3) (x := a) (y := b) (by simp)
        have fq3b := U9.out.c1 (r := q3) (x := a) (y := b) (by simp)
        have fq3l := U9.out.lt (r := q3) (x := a) (y := b) (by simp)
        go_wp2_with fail
        go_ret
        exact ⟨rfl, (U9.out.var (x := a) (y := b) 31).below⟩
      | some p =>
        obtain ⟨y1, y2⟩ := p
        have HI2 := Go.Lib.hid (fun w0 h => (HRI.out s hs1 w0 h).mono fun _ _ h => readI_some hr h)
        have HS2 := Go.Lib.hid (fun w0 => (HRS.out s hs1 w0).mono fun _ _ h => readI_some hr h)
        obtain ⟨hv1, hv2⟩ := readsI_spec hr
        have HAG := Go.Lib.hid (fun w0 h => (HMI.out y1 y2 w0 h).mono fun _ _ h => ivt_ok hv1 hv2.symm h)
        clear hv1 hv2
        clear hr
        go_wp2_with fail
        refine (HI2.out _ U3.out.below).mono ?_
        rintro e v4 ⟨rfl, b4⟩
        have U4 := Go.Lib.hid (U3.out.step b4)
        clear b4 U3
        have fq3a := U4.out.c0 (r := q3) (x := a) (y := b) (by simp)
        have fq3b := U4.out.c1 (r := q3) (x := a) (y := b) (by simp)
        have fq3l := U4.out.lt (r := q3) (x := a) (y := b) (by simp)
        go_wp2_with fail
        have U5 := Go.Lib.hid (U4.out.var (x := y1) (y := y2) 31)
        clear fq3a fq3b fq3l
        clear U4
        obtain ⟨q9, hq⟩ : ∃ q, q = v4.heap.size := ⟨_, rfl⟩
        rw [← hq] at U5 ⊢
        generalize v4.alloc (.cells #[.int .i64 y1, .int .i64 y2] 31) = v5 at U5 ⊢
        clear hq
        refine (HS2.out _).mono ?_
        rintro e v6 ⟨rfl, b6⟩
        have U6 := Go.Lib.hid (U5.out.step b6)
        clear b6 U5
        have fq9a := U6.out.c0 (r := q9) (x := y1) (y := y2) (by simp)
        have fq9b := U6.out.c1 (r := q9) (x := y1) (y := y2) (by simp)
        have fq9l := U6.out.lt (r := q9) (x := y1) (y := y2) (by simp)
        have fq3a := U6.out.c0 (r := q3) (x := a) (y := b) (by simp)
        have fq3b := U6.out.c1 (r := q3) (x := a) (y := b) (by simp)
        have fq3l := U6.out.lt (r := q3) (x := a) (y := b) (by simp)
        go_wp2_with fail
        have U7 := Go.Lib.hid (U6.out.var (x := y1) (y := y2) 31)
        clear fq9a fq9b fq9l fq3a fq3b fq3l
        clear U6
        obtain ⟨q11, hq⟩ : ∃ q, q = v6.heap.size := ⟨_, rfl⟩
        rw [← hq] at U7 ⊢
        generalize v6.alloc (.cells #[.int .i64 y1, .int .i64 y2] 31) = v7 at U7 ⊢
        clear hq
        refine (HV.out _).mono ?_
        rintro e v8 ⟨rfl, b8⟩
        have U8 := Go.Lib.hid (U7.out.step b8)
        clear b8 U7
        have fq9a := U8.out.c0 (r := q9) (x := y1) (y := y2) (by simp)
        have fq9b := U8.out.c1 (r := q9) (x := y1) (y := y2) (by simp)
        have fq9l := U8.out.lt (r := q9) (x := y1) (y := y2) (by simp)
        have fq3a := U8.out.c0 (r := q3) (x := a) (y := b) (by simp)
        have fq3b := U8.out.c1 (r := q3) (x := a) (y := b) (by simp)
        have fq3l := U8.out.lt (r := q3) (x := a) (y := b) (by simp)
        go_wp2_with fail
        refine (HAG.out _ U8.out.below).mono ?_
        rintro e v9 ⟨rfl, b9⟩
        have U9 := Go.Lib.hid (U8.out.step b9)
        clear fq9a fq9b fq9l fq3a fq3b fq3l
        clear b9 U8
        have fq3a := U9.out.c0 (r := q3) (x := a) (y := b) (by simp)
        have fq3b := U9.out.c1 (r := q3) (x := a) (y := b) (by simp)
        have fq3l := U9.out.lt (r := q3) (x := a) (y := b) (by simp)
        go_wp2_with fail
        refine (HBK.out hts _ U9.out.below).mono ?_
        rintro e v10 ⟨rfl, b10⟩
        have U10 := Go.Lib.hid (U9.out.step b10)
        clear fq3a fq3b fq3l
        clear b10 U9
        have fq3a := U10.out.c0 (r := q3) (x := a) (y := b) (by simp)
        have fq3b := U10.out.c1 (r := q3) (x := a) (y := b) (by simp)
        have fq3l := U10.out.lt (r := q3) (x := a) (y := b) (by simp)
        go_wp2_with fail
        go_ret
        exact ⟨rfl, (U10.out.var (x := a) (y := b) 31).below⟩

set_option maxRecDepth 100000 in
theorem contract (H : Type) (enc : TypeId × Value → H) (W : World) (base : Nat) (args : Array Value) (ds gs : List (DataW H)) (before : List MemPlace)
    (hval : ∀ (j : Nat) t v, Tryd.f4.params[j]? = some t → args[j]? = some v → Value.okWide Tryd.prog W .any base t v)
    (hW : DataW.Whole enc Tryd.prog Tryd.f4.params.toList Rows.fnIntervalTextsSpec.vars false W args.toList ds gs before) (hsz : (DataW.weightsEach Tryd.prog (Tryd.f4.params.toList ++ Rows.fnIntervalTextsSpec.plain.varTypes Tryd.prog) (ds ++ gs)).all (· ≤ reachBytes) = true) (hL : laidMetH Tryd.prog Rows.fnIntervalTextsRow.laid W) (hsh : W.ShapedOpen Tryd.prog) :
    Calls Tryd.prog 4 args W fun e W' => ∃ v, e = .returned v ∧ Rows.fnIntervalTextsSpec.post enc Tryd.prog Tryd.f4 false true false false W args v W' := by
  have hW' := hW
  obtain ⟨p, q, hA0, hV, rfl, hfz, hnd⟩ := hW
  have hA : DataW.TrodAll enc Tryd.prog W 0 (fun _ => true) true Tryd.f4.params.toList args.toList ds p := hA0
  rw [Tryd.params4] at hA hval hsz
  obtain ⟨v0, vs0, d0, ds0, p0, q0, hargs, rfl, rfl, h0, r0⟩ := trodAll_cons hA
  obtain ⟨rfl, rfl, rfl⟩ := trodAll_nil r0
  obtain rfl : args = #[v0] := by cases args; simp_all
  obtain ⟨rfl, rfl⟩ := trodVars_none hV
  obtain ⟨a0, len0, cap0, rfl⟩ := okWide_slice Tryd.underlying22 (hval 0 22 v0 rfl rfl)
  have k0 := h0
  have lt0 : ∀ x ∈ p0, x.block < W.heap.size := by obtain ⟨m, hm⟩ := k0; exact DataW.trod_lt m _ _ _ hm
  obtain ⟨⟨z0, rd0, sz0⟩, hlc0, hp0⟩ := open_list_bytes h0
  have reach0 : len0 * 1 ≤ 140737488351232 := by
    rcases hp0 with hp0 | ⟨E0, S0, rfl, hl0⟩
    · omega
    · have := sized_slice hsz (j := 0) (t := 22) (e := 5) rfl rfl Tryd.underlying22
      rw [show Tryd.prog.bytesOf 5 = 1 by kernel_rfl] at this
      simp only [reachBytes] at this
      omega
  clear hA0
  refine (walk a0 len0 cap0 z0 W rd0 reach0 sz0 hL hsh).mono fun e W' ⟨he, bel⟩ => ?_
  subst he
  exact ⟨_, rfl, _, _, _, [], _, [], hW', trodAll_mk1 (shut_bool Tryd.underlying4 _), (trodAll_cons_mk (Below.trod laidOut (by kernel_rfl) (of_decide_eq_true (by kernel_rfl)) k0 bel lt0) trodAll_mk0), rfl, bel.frame _, fun h => by cases h⟩

theorem laid_met (os : Os) (args : Array Value) : laidMetH Tryd.prog Rows.fnIntervalTextsRow.laid ((World.laidAll Tryd.prog os Rows.fnIntervalTextsRow.laid).forCall (fun _ _ => 0) ⟨#[], args, []⟩).memory := by
  rw [MakeChecks.laidMetH_plain _ _ _ (by kernel_rfl)]
  exact laidMet_laidAll _ (by kernel_rfl) (by kernel_rfl)
theorem reads (os : Os) {H : Type} (enc : TypeId × Value → H) : ∃ places, DataW.whole enc Tryd.prog ((World.laidAll Tryd.prog os Rows.fnIntervalTextsRow.laid).forCall (fun _ _ => 0) ⟨#[], #[.slice none 0 0], []⟩).memory Tryd.f4.params.toList Rows.fnIntervalTextsSpec.vars false #[Value.slice none 0 0].toList 8 = some ([.nil], [], places) :=
  ⟨[], by kernel_rfl⟩

set_option maxRecDepth 100000 in
theorem lifted (os : Os) (started : os.Started) (H : Type) (enc : TypeId × Value → H) (F : Stop.Interp) :
    ReturnsInHanded {} Tryd.checked os 4 .any ((OpenSpec.ofChange Rows.fnIntervalTextsSpec).preRow enc Tryd.prog Tryd.f4 Rows.fnIntervalTextsRow.domain false Rows.fnIntervalTextsRow.laid) (((OpenSpec.ofChange Rows.fnIntervalTextsSpec).at F).post enc Tryd.prog Tryd.f4 false true false false) := by
  obtain ⟨places, hx⟩ := reads os enc
  refine returnsInHanded_of_row (C := Tryd.checked) (s := OpenSpec.ofChange Rows.fnIntervalTextsSpec) own started (by kernel_rfl) Tryd.func4
    (witness_row_atRef (enc := enc) (C := Tryd.checked) false (World.laidAll Tryd.prog os Rows.fnIntervalTextsRow.laid) #[.slice none 0 0] rfl (by kernel_rfl) (by kernel_rfl) (by kernel_rfl)
      (OpenSpec.preRow_of_cond 8 hx (by kernel_rfl) (fun k hk => by cases hk) (by kernel_rfl) (laid_met os _))) ?_
  intro W base args ds gs before hval hW _ _ hsz hL hsh _
  exact contract H enc W base args ds gs before hval hW hsz hL hsh

theorem said : Rows.FnIntervalTextsSaid :=
  OpenClaim.holds_of_cond 4 Tryd.f4 rfl rfl rfl rfl rfl rfl rfl ⟨rfl, rfl, rfl, rfl, rfl⟩ rfl rfl rfl rfl rfl (by kernel_rfl) Tryd.func4 (by kernel_rfl)
    (of_decide_eq_true (by kernel_rfl)) (by unfold Func.isWrapper; first | (rw [if_pos (by decide +kernel)]; kernel_rfl) | (rw [if_neg (by decide +kernel)]; exact ⟨rfl, rfl⟩))
    (fun os started H enc _ F => by rw [OpenClaim.pre_eq_preRow]; exact lifted os started H enc F)

theorem plain (f : FuncId) (fn : Func) (hf : Tryd.pinned.checked.prog.funcNamed "loop.example/g01050/laws.FnIntervalTexts" = some f) (hfn : Tryd.pinned.checked.prog.funcs[f]? = some fn) :
    true = Tryd.pinned.checked.prog.looks [] ∧ ∀ (j : Nat) t, fn.params[j]? = some t → Tryd.pinned.checked.prog.wantsStandIn t = false := by
  obtain rfl : f = 4 := Option.some.inj ((show Tryd.prog.funcNamed "loop.example/g01050/laws.FnIntervalTexts" = some 4 by kernel_rfl).symm.trans hf) |>.symm
  obtain rfl : fn = Tryd.f4 := (Option.some.inj (Tryd.func4.symm.trans hfn)).symm
  refine ⟨by kernel_rfl, fun j t ht => ?_⟩
  rw [Tryd.params4] at ht
  have hm : t ∈ [22] := by simpa using Array.mem_of_getElem? ht
  have hall : ([22].all fun u => !Tryd.prog.wantsStandIn u) = true := by kernel_rfl
  exact (show Tryd.prog.wantsStandIn t = false by simpa using List.all_eq_true.1 hall t hm)

theorem proved : Rows.FnIntervalTextsCardSaid :=
  Claim7.holds_tied_plain_at .later [] _ _ _ _ said (fun _ h => by cases h) (by kernel_rfl) (fun _ h => by cases h) fnIntervalTexts_row_tie rfl ⟨rfl, rfl⟩ (by kernel_rfl) rfl plain (by kernel_rfl)
end Go.Proofs.YtcknknicknolaabDoor.fnIntervalTexts
