/- laws.FnHubTexts answers true for every list of bytes: a hub is recovered from its text. Condition: the listed package-level variables hold what the text of the program lays in them. -/
import Derived.Test.YtcphhcnomaociabDoorCards
import Derived.Test.YtcphhcnomaociabDoorTie
import Derived.Test.YtcphhcnomaociabDoorHubTImpl
import Derived.Test.YtcphhcnomaociabDoorDrawHubT
import Derived.Test.YtcphhcnomaociabDoorBig
import Derived.Test.YtcphhcnomaociabDoorOpenB
import Derived.Test.YtcphhcnomaociabDoorBox
import Derived.WalkKit
import Derived.ProofKit
import Derived.OpenShut
import Derived.ShutString
import Derived.SizedLaws
import Derived.Lay
import Derived.Deep.DeepHandedRow
import Derived.Deep.DeepWitnessRowRef
import Derived.SevenTiedAt
import Derived.MakeChecks
namespace Go.Proofs.YtcphhcnomaociabDoor.fnHubTexts
open Go.ChangeShapes Go.WideShapes Go.ChangeAt Go.RowKit
open Go.ChangeMaps (open_string shut_string)
set_option linter.unusedVariables false

theorem isErr_S : (Rows.fnHubTextsRow.laid.filter isErrS) = [("strconv.ErrSyntax", Rows.laid_strconv_ErrSyntax)] := by kernel_rfl
theorem isErr_R : (Rows.fnHubTextsRow.laid.filter isErrR) = [("strconv.ErrRange", Rows.laid_strconv_ErrRange)] := by kernel_rfl
theorem errs {w : World} (hL : laidMetH Tryd.prog Rows.fnHubTextsRow.laid w) : HasErrs w := by
  rw [MakeChecks.laidMetH_plain _ _ _ (by kernel_rfl)] at hL
  refine ⟨err_cell (List.mem_filter.1 (by rw [isErr_S]; exact List.mem_cons_self)).1 rfl (by kernel_rfl) (by kernel_rfl) Tryd.underlying67 hL, err_cell (List.mem_filter.1 (by rw [isErr_R]; exact List.mem_cons_self)).1 rfl (by kernel_rfl) (by kernel_rfl) Tryd.underlying67 hL⟩
theorem ht_is {w : World} {h : Hb} {e : Ending} {w' : World} {t : ByteArray} {c : Int} (hv : (if hubB h then #[Value.string ⟨(hubT h).toArray⟩, .int .i64 0] else #[.string ⟨#[]⟩, .int .i64 1]) = #[.string t, .int .i64 c]) (h1 : HubTEnd w h e w') : IsV w (.tuple #[.string t, .int .i64 c]) e w' := by
  obtain ⟨hb, he⟩ := h1
  exact ⟨by rw [he, hv], hb⟩
set_option maxRecDepth 100000 in
set_option maxHeartbeats 16000000 in
theorem walk (A : Option Addr) (n cap : Nat) (bs : List Int) (w : World) (h : Rd w 0 w.heap.size A n (byts bs)) (hn : n * 1 ≤ 140737488351232) (hs : ∀ z ∈ bs, 0 ≤ z ∧ z ≤ 255) (hL : laidMetH Tryd.prog Rows.fnHubTextsRow.laid w) (hsh : w.ShapedOpen Tryd.prog) :
    Calls Tryd.prog 3 #[.slice A n cap] w fun e w' => e = .returned (.bool true) ∧ Below w.heap.size w w' := by
  have hm := HasMax.of_shape hsh
  have ht : Tab w := tab_of_laid (by kernel_rfl) (by kernel_rfl) hL
  have he := errs hL
  clear hL hsh
  have HB := Go.Lib.hid (big_ A n cap w)
  by_cases hbig : (4096 : Int) < n
  · go_enter Tryd.func3, Tryd.ntmps3
    go_wp2_with fail
    refine HB.out.mono ?_
    rintro e w' ⟨rfl, rfl⟩
    go_wp2_with fail
    go_ret
    exact ⟨rfl, Below.refl _ _⟩
  · have hb2 := big_ A n cap w
    rw [decide_eq_false hbig] at hb2
    have HB2 := Go.Lib.hid hb2
    have HRD := Go.Lib.hid (fun w1 (hb : Below w.heap.size w w1) => (h.below hb (Nat.le_refl _)).mono (Nat.le_refl _) hb.size)
    clear hb2 HB hbig
    have HIT := Go.Lib.hid (fun x w0 (hb : Below w.heap.size w w0) => implHubText x w0 (ht.below hb))
    have HST := Go.Lib.hid (fun x w0 => specHubText x w0)
    have HIR := Go.Lib.hid (fun (s : ByteArray) (hs : s.size ≤ 1048576) w0 (hb : Below w.heap.size w w0) => implReadHub s w0 hs (hm.below hb hm.lt) (ht.below hb) (he.below hb))
    have HSR := Go.Lib.hid (fun (s : ByteArray) (hs : s.size ≤ 1048576) w0 => specReadHub s w0 hs)
    clear hm ht he h
    go_enter Tryd.func3, Tryd.ntmps3
    go_wp2_with fail
    refine HB2.out.mono ?_
    rintro e w' ⟨rfl, rfl⟩
    have B0 : Below w.heap.size w w := Below.refl _ _
    go_wp2_with fail
    refine (drawHubText A n cap bs _ (HRD.out _ B0) hs (by omega)).mono ?_
    rintro _ W1 ⟨x, rfl, b1⟩
    have B1 := upB B0 b1
    clear b1  B0
    go_upto_region 4 with fail
    refine wp_gen (R := fun w' => Box w' W1.heap.size [.int .i64 x.n, .int .i64 x.l, .int .i64 x.r, .int .i64 x.a, .int .i64 x.b] ∧ Below w.heap.size w w') ⟨Box.new rfl rfl, B1.alloc B1.size _⟩ ?_
    rintro W2 ⟨K2_0, B2⟩
    clear B1
    cases hbx : hubB x
    · skip
      have HIW := Go.Lib.hid (fun w0 => implIsHub x w0)
      rw [hbx] at HIW
      have hv : (if hubB x then #[Value.string ⟨(hubT x).toArray⟩, .int .i64 0] else #[.string ⟨#[]⟩, .int .i64 1]) = #[.string ⟨#[]⟩, .int .i64 1] := by rw [hbx]; rfl
      have HI1 := Go.Lib.hid (fun w0 hb => (HIT.out x w0 hb).mono fun _ _ q => ht_is hv q)
      have HS1 := Go.Lib.hid (fun w0 => (HST.out x w0).mono fun _ _ q => ht_is hv q)
      clear hv hbx
      have k2_0_0 := K2_0.at_ 0 _ rfl
      have k2_0_1 := K2_0.at_ 1 _ rfl
      have k2_0_2 := K2_0.at_ 2 _ rfl
      have k2_0_3 := K2_0.at_ 3 _ rfl
      have k2_0_4 := K2_0.at_ 4 _ rfl
      have k2_0_f := K2_0.fr
      have k2_0_l := K2_0.lt
      go_wp2_with fail
      refine (HI1.out _ B2).mono ?_
      rintro _ W3 ⟨rfl, b3⟩
      have K3_0 := K2_0.below b3
      clear k2_0_0 k2_0_1 k2_0_2 k2_0_3 k2_0_4 k2_0_f k2_0_l
      have B3 := upB B2 b3
      clear b3 K2_0 B2
      have k3_0_0 := K3_0.at_ 0 _ rfl
      have k3_0_1 := K3_0.at_ 1 _ rfl
      have k3_0_2 := K3_0.at_ 2 _ rfl
      have k3_0_3 := K3_0.at_ 3 _ rfl
      have k3_0_4 := K3_0.at_ 4 _ rfl
      have k3_0_f := K3_0.fr
      have k3_0_l := K3_0.lt
      go_wp2_with fail
      refine (HS1.out _).mono ?_
      rintro _ W4 ⟨rfl, b4⟩
      have K4_0 := K3_0.below b4
      clear k3_0_0 k3_0_1 k3_0_2 k3_0_3 k3_0_4 k3_0_f k3_0_l
      have B4 := upB B3 b4
      clear b4 K3_0 B3
      go_wp2_with fail
      refine (drawReadHub A n cap bs _ (HRD.out _ B4) hs (by omega)).mono ?_
      rintro _ W5 ⟨s, rfl, hsz, b5⟩
      have K5_0 := K4_0.below b5
      have B5 := upB B4 b5
      clear b5 K4_0 B4
      have hs1 : s.size ≤ 1048576 := by omega
      clear HI1 HS1
      cases hr : readsH s.data.toList with
      | none =>
        have hra : readA s.data.toList = (zeroH, 6) := by unfold readA; rw [hr]
        obtain ⟨y, hy⟩ : ∃ y, y = zeroH := ⟨_, rfl⟩
        rw [← hy] at hra
        clear hy
        have HI2 := Go.Lib.hid (fun w0 hb => HIR.out s hs1 w0 hb)
        have HS2 := Go.Lib.hid (fun w0 => HSR.out s hs1 w0)
        rw [hra] at HI2 HS2
        clear hra hr
        go_wp2_with fail
        refine (HI2.out _ B5).mono ?_
        rintro _ W6 ⟨rfl, b6⟩
        have K6_0 := K5_0.below b6
        have B6 := upB B5 b6
        clear b6 K5_0 B5
        go_upto_region 8 with fail
        refine wp_gen (R := fun w' => Box w' W1.heap.size [.int .i64 x.n, .int .i64 x.l, .int .i64 x.r, .int .i64 x.a, .int .i64 x.b] ∧ Box w' W6.heap.size [.int .i64 y.n, .int .i64 y.l, .int .i64 y.r, .int .i64 y.a, .int .i64 y.b] ∧ Below w.heap.size w w') ⟨K6_0.alloc _, Box.new rfl rfl, B6.alloc B6.size _⟩ ?_
        rintro W7 ⟨K7_0, K7_1, B7⟩
        clear K6_0 B6
        go_wp2_with fail
        refine (HS2.out _).mono ?_
        rintro _ W8 ⟨rfl, b8⟩
        have K8_0 := K7_0.below b8
        have K8_1 := K7_1.below b8
        have B8 := upB B7 b8
        clear b8 K7_0 K7_1 B7
        go_upto_region 9 with fail
        refine wp_gen (R := fun w' => Box w' W1.heap.size [.int .i64 x.n, .int .i64 x.l, .int .i64 x.r, .int .i64 x.a, .int .i64 x.b] ∧ Box w' W6.heap.size [.int .i64 y.n, .int .i64 y.l, .int .i64 y.r, .int .i64 y.a, .int .i64 y.b] ∧ Box w' W8.heap.size [.int .i64 y.n, .int .i64 y.l, .int .i64 y.r, .int .i64 y.a, .int .i64 y.b] ∧ Below w.heap.size w w') ⟨K8_0.alloc _, K8_1.alloc _, Box.new rfl rfl, B8.alloc B8.size _⟩ ?_
        rintro W9 ⟨K9_0, K9_1, K9_2, B9⟩
        clear K8_0 K8_1 B8
        have k9_0_0 := K9_0.at_ 0 _ rfl
        have k9_0_1 := K9_0.at_ 1 _ rfl
        have k9_0_2 := K9_0.at_ 2 _ rfl
        have k9_0_3 := K9_0.at_ 3 _ rfl
        have k9_0_4 := K9_0.at_ 4 _ rfl
        have k9_0_f := K9_0.fr
        have k9_0_l := K9_0.lt
        have k9_1_0 := K9_1.at_ 0 _ rfl
        have k9_1_1 := K9_1.at_ 1 _ rfl
        have k9_1_2 := K9_1.at_ 2 _ rfl
        have k9_1_3 := K9_1.at_ 3 _ rfl
        have k9_1_4 := K9_1.at_ 4 _ rfl
        have k9_1_f := K9_1.fr
        have k9_1_l := K9_1.lt
        have k9_2_0 := K9_2.at_ 0 _ rfl
        have k9_2_1 := K9_2.at_ 1 _ rfl
        have k9_2_2 := K9_2.at_ 2 _ rfl
        have k9_2_3 := K9_2.at_ 3 _ rfl
        have k9_2_4 := K9_2.at_ 4 _ rfl
        have k9_2_f := K9_2.fr
        have k9_2_l := K9_2.lt
        go_wp2_with fail
        refine (HIW.out _).mono ?_
        rintro _ W10 ⟨rfl, b10⟩
        have K10_0 := K9_0.below b10
        have K10_1 := K9_1.below b10
        have K10_2 := K9_2.below b10
        clear k9_0_0 k9_0_1 k9_0_2 k9_0_3 k9_0_4 k9_0_f k9_0_l k9_1_0 k9_1_1 k9_1_2 k9_1_3 k9_1_4 k9_1_f k9_1_l k9_2_0 k9_2_1 k9_2_2 k9_2_3 k9_2_4 k9_2_f k9_2_l
        have B10 := upB B9 b10
        clear b10 K9_0 K9_1 K9_2 B9
        go_wp2_with fail
        go_ret
        exact ⟨rfl, B10⟩
      | some y =>
        obtain ⟨hy1, hy2⟩ := readsH_spec hr
        have hra : readA s.data.toList = (y, 0) := by unfold readA; rw [hr]
        have hv : (if hubB y then #[Value.string ⟨(hubT y).toArray⟩, .int .i64 0] else #[.string ⟨#[]⟩, .int .i64 1]) = #[.string s, .int .i64 0] := by rw [hy1, hy2]; rfl
        have HAG := Go.Lib.hid (fun w0 hb => (HIT.out y w0 hb).mono fun _ _ q => ht_is hv q)
        clear hv hy1 hy2
        have HI2 := Go.Lib.hid (fun w0 hb => HIR.out s hs1 w0 hb)
        have HS2 := Go.Lib.hid (fun w0 => HSR.out s hs1 w0)
        rw [hra] at HI2 HS2
        clear hra hr
        go_wp2_with fail
        refine (HI2.out _ B5).mono ?_
        rintro _ W6 ⟨rfl, b6⟩
        have K6_0 := K5_0.below b6
        have B6 := upB B5 b6
        clear b6 K5_0 B5
        go_upto_region 8 with fail
        refine wp_gen (R := fun w' => Box w' W1.heap.size [.int .i64 x.n, .int .i64 x.l, .int .i64 x.r, .int .i64 x.a, .int .i64 x.b] ∧ Box w' W6.heap.size [.int .i64 y.n, .int .i64 y.l, .int .i64 y.r, .int .i64 y.a, .int .i64 y.b] ∧ Below w.heap.size w w') ⟨K6_0.alloc _, Box.new rfl rfl, B6.alloc B6.size _⟩ ?_
        rintro W7 ⟨K7_0, K7_1, B7⟩
        clear K6_0 B6
        go_wp2_with fail
        refine (HS2.out _).mono ?_
        rintro _ W8 ⟨rfl, b8⟩
        have K8_0 := K7_0.below b8
        have K8_1 := K7_1.below b8
        have B8 := upB B7 b8
        clear b8 K7_0 K7_1 B7
        go_upto_region 9 with fail
        refine wp_gen (R := fun w' => Box w' W1.heap.size [.int .i64 x.n, .int .i64 x.l, .int .i64 x.r, .int .i64 x.a, .int .i64 x.b] ∧ Box w' W6.heap.size [.int .i64 y.n, .int .i64 y.l, .int .i64 y.r, .int .i64 y.a, .int .i64 y.b] ∧ Box w' W8.heap.size [.int .i64 y.n, .int .i64 y.l, .int .i64 y.r, .int .i64 y.a, .int .i64 y.b] ∧ Below w.heap.size w w') ⟨K8_0.alloc _, K8_1.alloc _, Box.new rfl rfl, B8.alloc B8.size _⟩ ?_
        rintro W9 ⟨K9_0, K9_1, K9_2, B9⟩
        clear K8_0 K8_1 B8
        have k9_0_0 := K9_0.at_ 0 _ rfl
        have k9_0_1 := K9_0.at_ 1 _ rfl
        have k9_0_2 := K9_0.at_ 2 _ rfl
        have k9_0_3 := K9_0.at_ 3 _ rfl
        have k9_0_4 := K9_0.at_ 4 _ rfl
        have k9_0_f := K9_0.fr
        have k9_0_l := K9_0.lt
        have k9_1_0 := K9_1.at_ 0 _ rfl
        have k9_1_1 := K9_1.at_ 1 _ rfl
        have k9_1_2 := K9_1.at_ 2 _ rfl
        have k9_1_3 := K9_1.at_ 3 _ rfl
        have k9_1_4 := K9_1.at_ 4 _ rfl
        have k9_1_f := K9_1.fr
        have k9_1_l := K9_1.lt
        have k9_2_0 := K9_2.at_ 0 _ rfl
        have k9_2_1 := K9_2.at_ 1 _ rfl
        have k9_2_2 := K9_2.at_ 2 _ rfl
        have k9_2_3 := K9_2.at_ 3 _ rfl
        have k9_2_4 := K9_2.at_ 4 _ rfl
        have k9_2_f := K9_2.fr
        have k9_2_l := K9_2.lt
        go_wp2_with fail
        refine (HIW.out _).mono ?_
        rintro _ W10 ⟨rfl, b10⟩
        have K10_0 := K9_0.below b10
        have K10_1 := K9_1.below b10
        have K10_2 := K9_2.below b10
        clear k9_0_0 k9_0_1 k9_0_2 k9_0_3 k9_0_4 k9_0_f k9_0_l k9_1_0 k9_1_1 k9_1_2 k9_1_3 k9_1_4 k9_1_f k9_1_l k9_2_0 k9_2_1 k9_2_2 k9_2_3 k9_2_4 k9_2_f k9_2_l
        have B10 := upB B9 b10
        clear b10 K9_0 K9_1 K9_2 B9
        have k10_1_0 := K10_1.at_ 0 _ rfl
        have k10_1_1 := K10_1.at_ 1 _ rfl
        have k10_1_2 := K10_1.at_ 2 _ rfl
        have k10_1_3 := K10_1.at_ 3 _ rfl
        have k10_1_4 := K10_1.at_ 4 _ rfl
        have k10_1_f := K10_1.fr
        have k10_1_l := K10_1.lt
        go_wp2_with fail
        refine (HAG.out _ B10).mono ?_
        rintro _ W11 ⟨rfl, b11⟩
        have K11_0 := K10_0.below b11
        have K11_1 := K10_1.below b11
        have K11_2 := K10_2.below b11
        clear k10_1_0 k10_1_1 k10_1_2 k10_1_3 k10_1_4 k10_1_f k10_1_l
        have B11 := upB B10 b11
        clear b11 K10_0 K10_1 K10_2 B10
        go_wp2_with fail
        go_ret
        exact ⟨rfl, B11⟩
    · skip
      have HIW := Go.Lib.hid (fun w0 => implIsHub x w0)
      rw [hbx] at HIW
      obtain ⟨t, htx⟩ : ∃ t : ByteArray, t = ⟨(hubT x).toArray⟩ := ⟨_, rfl⟩
      have hv : (if hubB x then #[Value.string ⟨(hubT x).toArray⟩, .int .i64 0] else #[.string ⟨#[]⟩, .int .i64 1]) = #[.string t, .int .i64 0] := by rw [hbx, htx]; rfl
      have hts : t.size ≤ 1048576 := by have h2 := hubT_len hbx; rw [htx]; show (hubT x).length ≤ _; omega
      have hrt : readA t.data.toList = (x, 0) := by rw [htx]; show readA (hubT x) = _; unfold readA; rw [readsH_text hbx]
      have HBK := Go.Lib.hid (fun w0 hb => HIR.out t hts w0 hb)
      rw [hrt] at HBK
      clear hrt htx hts
      have HI1 := Go.Lib.hid (fun w0 hb => (HIT.out x w0 hb).mono fun _ _ q => ht_is hv q)
      have HS1 := Go.Lib.hid (fun w0 => (HST.out x w0).mono fun _ _ q => ht_is hv q)
      clear hv hbx
      have k2_0_0 := K2_0.at_ 0 _ rfl
      have k2_0_1 := K2_0.at_ 1 _ rfl
      have k2_0_2 := K2_0.at_ 2 _ rfl
      have k2_0_3 := K2_0.at_ 3 _ rfl
      have k2_0_4 := K2_0.at_ 4 _ rfl
      have k2_0_f := K2_0.fr
      have k2_0_l := K2_0.lt
      go_wp2_with fail
      refine (HI1.out _ B2).mono ?_
      rintro _ W3 ⟨rfl, b3⟩
      have K3_0 := K2_0.below b3
      clear k2_0_0 k2_0_1 k2_0_2 k2_0_3 k2_0_4 k2_0_f k2_0_l
      have B3 := upB B2 b3
      clear b3 K2_0 B2
      have k3_0_0 := K3_0.at_ 0 _ rfl
      have k3_0_1 := K3_0.at_ 1 _ rfl
      have k3_0_2 := K3_0.at_ 2 _ rfl
      have k3_0_3 := K3_0.at_ 3 _ rfl
      have k3_0_4 := K3_0.at_ 4 _ rfl
      have k3_0_f := K3_0.fr
      have k3_0_l := K3_0.lt
      go_wp2_with fail
      refine (HS1.out _).mono ?_
      rintro _ W4 ⟨rfl, b4⟩
      have K4_0 := K3_0.below b4
      clear k3_0_0 k3_0_1 k3_0_2 k3_0_3 k3_0_4 k3_0_f k3_0_l
      have B4 := upB B3 b4
      clear b4 K3_0 B3
      go_wp2_with fail
      refine (drawReadHub A n cap bs _ (HRD.out _ B4) hs (by omega)).mono ?_
      rintro _ W5 ⟨s, rfl, hsz, b5⟩
      have K5_0 := K4_0.below b5
      have B5 := upB B4 b5
      clear b5 K4_0 B4
      have hs1 : s.size ≤ 1048576 := by omega
      clear HI1 HS1
      cases hr : readsH s.data.toList with
      | none =>
        have hra : readA s.data.toList = (zeroH, 6) := by unfold readA; rw [hr]
        obtain ⟨y, hy⟩ : ∃ y, y = zeroH := ⟨_, rfl⟩
        rw [← hy] at hra
        clear hy
        have HI2 := Go.Lib.hid (fun w0 hb => HIR.out s hs1 w0 hb)
        have HS2 := Go.Lib.hid (fun w0 => HSR.out s hs1 w0)
        rw [hra] at HI2 HS2
        clear hra hr
        go_wp2_with fail
        refine (HI2.out _ B5).mono ?_
        rintro _ W6 ⟨rfl, b6⟩
        have K6_0 := K5_0.below b6
        have B6 := upB B5 b6
        clear b6 K5_0 B5
        go_upto_region 8 with fail
        refine wp_gen (R := fun w' => Box w' W1.heap.size [.int .i64 x.n, .int .i64 x.l, .int .i64 x.r, .int .i64 x.a, .int .i64 x.b] ∧ Box w' W6.heap.size [.int .i64 y.n, .int .i64 y.l, .int .i64 y.r, .int .i64 y.a, .int .i64 y.b] ∧ Below w.heap.size w w') ⟨K6_0.alloc _, Box.new rfl rfl, B6.alloc B6.size _⟩ ?_
        rintro W7 ⟨K7_0, K7_1, B7⟩
        clear K6_0 B6
        go_wp2_with fail
        refine (HS2.out _).mono ?_
        rintro _ W8 ⟨rfl, b8⟩
        have K8_0 := K7_0.below b8
        have K8_1 := K7_1.below b8
        have B8 := upB B7 b8
        clear b8 K7_0 K7_1 B7
        go_upto_region 9 with fail
        refine wp_gen (R := fun w' => Box w' W1.heap.size [.int .i64 x.n, .int .i64 x.l, .int .i64 x.r, .int .i64 x.a, .int .i64 x.b] ∧ Box w' W6.heap.size [.int .i64 y.n, .int .i64 y.l, .int .i64 y.r, .int .i64 y.a, .int .i64 y.b] ∧ Box w' W8.heap.size [.int .i64 y.n, .int .i64 y.l, .int .i64 y.r, .int .i64 y.a, .int .i64 y.b] ∧ Below w.heap.size w w') ⟨K8_0.alloc _, K8_1.alloc _, Box.new rfl rfl, B8.alloc B8.size _⟩ ?_
        rintro W9 ⟨K9_0, K9_1, K9_2, B9⟩
        clear K8_0 K8_1 B8
        have k9_0_0 := K9_0.at_ 0 _ rfl
        have k9_0_1 := K9_0.at_ 1 _ rfl
        have k9_0_2 := K9_0.at_ 2 _ rfl
        have k9_0_3 := K9_0.at_ 3 _ rfl
        have k9_0_4 := K9_0.at_ 4 _ rfl
        have k9_0_f := K9_0.fr
        have k9_0_l := K9_0.lt
        have k9_1_0 := K9_1.at_ 0 _ rfl
        have k9_1_1 := K9_1.at_ 1 _ rfl
        have k9_1_2 := K9_1.at_ 2 _ rfl
        have k9_1_3 := K9_1.at_ 3 _ rfl
        have k9_1_4 := K9_1.at_ 4 _ rfl
        have k9_1_f := K9_1.fr
        have k9_1_l := K9_1.lt
        have k9_2_0 := K9_2.at_ 0 _ rfl
        have k9_2_1 := K9_2.at_ 1 _ rfl
        have k9_2_2 := K9_2.at_ 2 _ rfl
        have k9_2_3 := K9_2.at_ 3 _ rfl
        have k9_2_4 := K9_2.at_ 4 _ rfl
        have k9_2_f := K9_2.fr
        have k9_2_l := K9_2.lt
        go_wp2_with fail
        refine (HIW.out _).mono ?_
        rintro _ W10 ⟨rfl, b10⟩
        have K10_0 := K9_0.below b10
        have K10_1 := K9_1.below b10
        have K10_2 := K9_2.below b10
        clear k9_0_0 k9_0_1 k9_0_2 k9_0_3 k9_0_4 k9_0_f k9_0_l k9_1_0 k9_1_1 k9_1_2 k9_1_3 k9_1_4 k9_1_f k9_1_l k9_2_0 k9_2_1 k9_2_2 k9_2_3 k9_2_4 k9_2_f k9_2_l
        have B10 := upB B9 b10
        clear b10 K9_0 K9_1 K9_2 B9
        go_wp2_with fail
        refine (HBK.out _ B10).mono ?_
        rintro _ W11 ⟨rfl, b11⟩
        have K11_0 := K10_0.below b11
        have K11_1 := K10_1.below b11
        have K11_2 := K10_2.below b11
        have B11 := upB B10 b11
        clear b11 K10_0 K10_1 K10_2 B10
        go_upto_region 18 with fail
        refine wp_gen (R := fun w' => Box w' W1.heap.size [.int .i64 x.n, .int .i64 x.l, .int .i64 x.r, .int .i64 x.a, .int .i64 x.b] ∧ Box w' W6.heap.size [.int .i64 y.n, .int .i64 y.l, .int .i64 y.r, .int .i64 y.a, .int .i64 y.b] ∧ Box w' W8.heap.size [.int .i64 y.n, .int .i64 y.l, .int .i64 y.r, .int .i64 y.a, .int .i64 y.b] ∧ Box w' W11.heap.size [.int .i64 x.n, .int .i64 x.l, .int .i64 x.r, .int .i64 x.a, .int .i64 x.b] ∧ Below w.heap.size w w') ⟨K11_0.alloc _, K11_1.alloc _, K11_2.alloc _, Box.new rfl rfl, B11.alloc B11.size _⟩ ?_
        rintro W12 ⟨K12_0, K12_1, K12_2, K12_3, B12⟩
        clear K11_0 K11_1 K11_2 B11
        have k12_0_0 := K12_0.at_ 0 _ rfl
        have k12_0_1 := K12_0.at_ 1 _ rfl
        have k12_0_2 := K12_0.at_ 2 _ rfl
        have k12_0_3 := K12_0.at_ 3 _ rfl
        have k12_0_4 := K12_0.at_ 4 _ rfl
        have k12_0_f := K12_0.fr
        have k12_0_l := K12_0.lt
        have k12_3_0 := K12_3.at_ 0 _ rfl
        have k12_3_1 := K12_3.at_ 1 _ rfl
        have k12_3_2 := K12_3.at_ 2 _ rfl
        have k12_3_3 := K12_3.at_ 3 _ rfl
        have k12_3_4 := K12_3.at_ 4 _ rfl
        have k12_3_f := K12_3.fr
        have k12_3_l := K12_3.lt
        go_wp2_with fail
        go_ret
        exact ⟨rfl, B12⟩
      | some y =>
        obtain ⟨hy1, hy2⟩ := readsH_spec hr
        have hra : readA s.data.toList = (y, 0) := by unfold readA; rw [hr]
        have hv : (if hubB y then #[Value.string ⟨(hubT y).toArray⟩, .int .i64 0] else #[.string ⟨#[]⟩, .int .i64 1]) = #[.string s, .int .i64 0] := by rw [hy1, hy2]; rfl
        have HAG := Go.Lib.hid (fun w0 hb => (HIT.out y w0 hb).mono fun _ _ q => ht_is hv q)
        clear hv hy1 hy2
        have HI2 := Go.Lib.hid (fun w0 hb => HIR.out s hs1 w0 hb)
        have HS2 := Go.Lib.hid (fun w0 => HSR.out s hs1 w0)
        rw [hra] at HI2 HS2
        clear hra hr
        go_wp2_with fail
        refine (HI2.out _ B5).mono ?_
        rintro _ W6 ⟨rfl, b6⟩
        have K6_0 := K5_0.below b6
        have B6 := upB B5 b6
        clear b6 K5_0 B5
        go_upto_region 8 with fail
        refine wp_gen (R := fun w' => Box w' W1.heap.size [.int .i64 x.n, .int .i64 x.l, .int .i64 x.r, .int .i64 x.a, .int .i64 x.b] ∧ Box w' W6.heap.size [.int .i64 y.n, .int .i64 y.l, .int .i64 y.r, .int .i64 y.a, .int .i64 y.b] ∧ Below w.heap.size w w') ⟨K6_0.alloc _, Box.new rfl rfl, B6.alloc B6.size _⟩ ?_
        rintro W7 ⟨K7_0, K7_1, B7⟩
        clear K6_0 B6
        go_wp2_with fail
        refine (HS2.out _).mono ?_
        rintro _ W8 ⟨rfl, b8⟩
        have K8_0 := K7_0.below b8
        have K8_1 := K7_1.below b8
        have B8 := upB B7 b8
        clear b8 K7_0 K7_1 B7
        go_upto_region 9 with fail
        refine wp_gen (R := fun w' => Box w' W1.heap.size [.int .i64 x.n, .int .i64 x.l, .int .i64 x.r, .int .i64 x.a, .int .i64 x.b] ∧ Box w' W6.heap.size [.int .i64 y.n, .int .i64 y.l, .int .i64 y.r, .int .i64 y.a, .int .i64 y.b] ∧ Box w' W8.heap.size [.int .i64 y.n, .int .i64 y.l, .int .i64 y.r, .int .i64 y.a, .int .i64 y.b] ∧ Below w.heap.size w w') ⟨K8_0.alloc _, K8_1.alloc _, Box.new rfl rfl, B8.alloc B8.size _⟩ ?_
        rintro W9 ⟨K9_0, K9_1, K9_2, B9⟩
        clear K8_0 K8_1 B8
        have k9_0_0 := K9_0.at_ 0 _ rfl
        have k9_0_1 := K9_0.at_ 1 _ rfl
        have k9_0_2 := K9_0.at_ 2 _ rfl
        have k9_0_3 := K9_0.at_ 3 _ rfl
        have k9_0_4 := K9_0.at_ 4 _ rfl
        have k9_0_f := K9_0.fr
        have k9_0_l := K9_0.lt
        have k9_1_0 := K9_1.at_ 0 _ rfl
        have k9_1_1 := K9_1.at_ 1 _ rfl
        have k9_1_2 := K9_1.at_ 2 _ rfl
        have k9_1_3 := K9_1.at_ 3 _ rfl
        have k9_1_4 := K9_1.at_ 4 _ rfl
        have k9_1_f := K9_1.fr
        have k9_1_l := K9_1.lt
        have k9_2_0 := K9_2.at_ 0 _ rfl
        have k9_2_1 := K9_2.at_ 1 _ rfl
        have k9_2_2 := K9_2.at_ 2 _ rfl
        have k9_2_3 := K9_2.at_ 3 _ rfl
        have k9_2_4 := K9_2.at_ 4 _ rfl
        have k9_2_f := K9_2.fr
        have k9_2_l := K9_2.lt
        go_wp2_with fail
        refine (HIW.out _).mono ?_
        rintro _ W10 ⟨rfl, b10⟩
        have K10_0 := K9_0.below b10
        have K10_1 := K9_1.below b10
        have K10_2 := K9_2.below b10
        clear k9_0_0 k9_0_1 k9_0_2 k9_0_3 k9_0_4 k9_0_f k9_0_l k9_1_0 k9_1_1 k9_1_2 k9_1_3 k9_1_4 k9_1_f k9_1_l k9_2_0 k9_2_1 k9_2_2 k9_2_3 k9_2_4 k9_2_f k9_2_l
        have B10 := upB B9 b10
        clear b10 K9_0 K9_1 K9_2 B9
        have k10_1_0 := K10_1.at_ 0 _ rfl
        have k10_1_1 := K10_1.at_ 1 _ rfl
        have k10_1_2 := K10_1.at_ 2 _ rfl
        have k10_1_3 := K10_1.at_ 3 _ rfl
        have k10_1_4 := K10_1.at_ 4 _ rfl
        have k10_1_f := K10_1.fr
        have k10_1_l := K10_1.lt
        go_wp2_with fail
        refine (HAG.out _ B10).mono ?_
        rintro _ W11 ⟨rfl, b11⟩
        have K11_0 := K10_0.below b11
        have K11_1 := K10_1.below b11
        have K11_2 := K10_2.below b11
        clear k10_1_0 k10_1_1 k10_1_2 k10_1_3 k10_1_4 k10_1_f k10_1_l
        have B11 := upB B10 b11
        clear b11 K10_0 K10_1 K10_2 B10
        go_wp2_with fail
        refine (HBK.out _ B11).mono ?_
        rintro _ W12 ⟨rfl, b12⟩
        have K12_0 := K11_0.below b12
        have K12_1 := K11_1.below b12
        have K12_2 := K11_2.below b12
        have B12 := upB B11 b12
        clear b12 K11_0 K11_1 K11_2 B11
        go_upto_region 18 with fail
        refine wp_gen (R := fun w' => Box w' W1.heap.size [.int .i64 x.n, .int .i64 x.l, .int .i64 x.r, .int .i64 x.a, .int .i64 x.b] ∧ Box w' W6.heap.size [.int .i64 y.n, .int .i64 y.l, .int .i64 y.r, .int .i64 y.a, .int .i64 y.b] ∧ Box w' W8.heap.size [.int .i64 y.n, .int .i64 y.l, .int .i64 y.r, .int .i64 y.a, .int .i64 y.b] ∧ Box w' W12.heap.size [.int .i64 x.n, .int .i64 x.l, .int .i64 x.r, .int .i64 x.a, .int .i64 x.b] ∧ Below w.heap.size w w') ⟨K12_0.alloc _, K12_1.alloc _, K12_2.alloc _, Box.new rfl rfl, B12.alloc B12.size _⟩ ?_
        rintro W13 ⟨K13_0, K13_1, K13_2, K13_3, B13⟩
        clear K12_0 K12_1 K12_2 B12
        have k13_0_0 := K13_0.at_ 0 _ rfl
        have k13_0_1 := K13_0.at_ 1 _ rfl
        have k13_0_2 := K13_0.at_ 2 _ rfl
        have k13_0_3 := K13_0.at_ 3 _ rfl
        have k13_0_4 := K13_0.at_ 4 _ rfl
        have k13_0_f := K13_0.fr
        have k13_0_l := K13_0.lt
        have k13_3_0 := K13_3.at_ 0 _ rfl
        have k13_3_1 := K13_3.at_ 1 _ rfl
        have k13_3_2 := K13_3.at_ 2 _ rfl
        have k13_3_3 := K13_3.at_ 3 _ rfl
        have k13_3_4 := K13_3.at_ 4 _ rfl
        have k13_3_f := K13_3.fr
        have k13_3_l := K13_3.lt
        go_wp2_with fail
        go_ret
        exact ⟨rfl, B13⟩

set_option maxRecDepth 100000 in
theorem contract (H : Type) (enc : TypeId × Value → H) (W : World) (base : Nat) (args : Array Value) (ds gs : List (DataW H)) (before : List MemPlace)
    (hval : ∀ (j : Nat) t v, Tryd.f3.params[j]? = some t → args[j]? = some v → Value.okWide Tryd.prog W .any base t v)
    (hW : DataW.Whole enc Tryd.prog Tryd.f3.params.toList Rows.fnHubTextsSpec.vars false W args.toList ds gs before) (hsz : (DataW.weightsEach Tryd.prog (Tryd.f3.params.toList ++ Rows.fnHubTextsSpec.plain.varTypes Tryd.prog) (ds ++ gs)).all (· ≤ reachBytes) = true) (hL : laidMetH Tryd.prog Rows.fnHubTextsRow.laid W) (hsh : W.ShapedOpen Tryd.prog) :
    Calls Tryd.prog 3 args W fun e W' => ∃ v, e = .returned v ∧ Rows.fnHubTextsSpec.post enc Tryd.prog Tryd.f3 false true false false W args v W' := by
  have hW' := hW
  obtain ⟨p, q, hA0, hV, rfl, hfz, hnd⟩ := hW
  have hA : DataW.TrodAll enc Tryd.prog W 0 (fun _ => true) true Tryd.f3.params.toList args.toList ds p := hA0
  rw [Tryd.params3] at hA hval hsz
  obtain ⟨v0, vs0, d0, ds0, p0, q0, hargs, rfl, rfl, h0, r0⟩ := trodAll_cons hA
  obtain ⟨rfl, rfl, rfl⟩ := trodAll_nil r0
  obtain rfl : args = #[v0] := by cases args; simp_all
  obtain ⟨rfl, rfl⟩ := trodVars_none hV
  obtain ⟨a0, len0, cap0, rfl⟩ := okWide_slice Tryd.underlying22 (hval 0 22 v0 rfl rfl)
  have k0 := h0
  have lt0 : ∀ x ∈ p0, x.block < W.heap.size := by obtain ⟨m, hm⟩ := k0; exact DataW.trod_lt m _ _ _ hm
  obtain ⟨⟨z0, rd0, sz0⟩, hlc0, hp0⟩ := open_list_bytes h0
  have reach0 : len0 * 1 ≤ 140737488351232 := by
    rcases hp0 with hp0 | ⟨E0, S0, rfl, hl0⟩
    · omega
    · have := sized_slice hsz (j := 0) (t := 22) (e := 5) rfl rfl Tryd.underlying22
      rw [show Tryd.prog.bytesOf 5 = 1 by kernel_rfl] at this
      simp only [reachBytes] at this
      omega
  clear hA0
  refine (walk a0 len0 cap0 z0 W rd0 reach0 sz0 hL hsh).mono fun e W' ⟨he, bel⟩ => ?_
  subst he
  exact ⟨_, rfl, _, _, _, [], _, [], hW', trodAll_mk1 (shut_bool Tryd.underlying4 _), (trodAll_cons_mk (Below.trod laidOut (by kernel_rfl) (of_decide_eq_true (by kernel_rfl)) k0 bel lt0) trodAll_mk0), rfl, bel.frame _, fun h => by cases h⟩

theorem laid_met (os : Os) (args : Array Value) : laidMetH Tryd.prog Rows.fnHubTextsRow.laid ((World.laidAll Tryd.prog os Rows.fnHubTextsRow.laid).forCall (fun _ _ => 0) ⟨#[], args, []⟩).memory := by
  rw [MakeChecks.laidMetH_plain _ _ _ (by kernel_rfl)]
  exact laidMet_laidAll _ (by kernel_rfl) (by kernel_rfl)
theorem reads (os : Os) {H : Type} (enc : TypeId × Value → H) : ∃ places, DataW.whole enc Tryd.prog ((World.laidAll Tryd.prog os Rows.fnHubTextsRow.laid).forCall (fun _ _ => 0) ⟨#[], #[.slice none 0 0], []⟩).memory Tryd.f3.params.toList Rows.fnHubTextsSpec.vars false #[Value.slice none 0 0].toList 8 = some ([.nil], [], places) :=
  ⟨[], by kernel_rfl⟩

set_option maxRecDepth 100000 in
theorem lifted (os : Os) (started : os.Started) (H : Type) (enc : TypeId × Value → H) (F : Stop.Interp) :
    ReturnsInHanded {} Tryd.checked os 3 .any ((OpenSpec.ofChange Rows.fnHubTextsSpec).preRow enc Tryd.prog Tryd.f3 Rows.fnHubTextsRow.domain false Rows.fnHubTextsRow.laid) (((OpenSpec.ofChange Rows.fnHubTextsSpec).at F).post enc Tryd.prog Tryd.f3 false true false false) := by
  obtain ⟨places, hx⟩ := reads os enc
  refine returnsInHanded_of_row (C := Tryd.checked) (s := OpenSpec.ofChange Rows.fnHubTextsSpec) own started (by kernel_rfl) Tryd.func3
    (witness_row_atRef (enc := enc) (C := Tryd.checked) false (World.laidAll Tryd.prog os Rows.fnHubTextsRow.laid) #[.slice none 0 0] rfl (by kernel_rfl) (by kernel_rfl) (by kernel_rfl)
      (OpenSpec.preRow_of_cond 8 hx (by kernel_rfl) (fun k hk => by cases hk) (by kernel_rfl) (laid_met os _))) ?_
  intro W base args ds gs before hval hW _ _ hsz hL hsh _
  exact contract H enc W base args ds gs before hval hW hsz hL hsh

theorem said : Rows.FnHubTextsSaid :=
  OpenClaim.holds_of_cond 3 Tryd.f3 rfl rfl rfl rfl rfl rfl rfl ⟨rfl, rfl, rfl, rfl, rfl⟩ rfl rfl rfl rfl rfl (by kernel_rfl) Tryd.func3 (by kernel_rfl)
    (of_decide_eq_true (by kernel_rfl)) (by unfold Func.isWrapper; first | (rw [if_pos (by decide +kernel)]; kernel_rfl) | (rw [if_neg (by decide +kernel)]; exact ⟨rfl, rfl⟩))
    (fun os started H enc _ F => by rw [OpenClaim.pre_eq_preRow]; exact lifted os started H enc F)

theorem plain (f : FuncId) (fn : Func) (hf : Tryd.pinned.checked.prog.funcNamed "loop.example/g01050/laws.FnHubTexts" = some f) (hfn : Tryd.pinned.checked.prog.funcs[f]? = some fn) :
    true = Tryd.pinned.checked.prog.looks [] ∧ ∀ (j : Nat) t, fn.params[j]? = some t → Tryd.pinned.checked.prog.wantsStandIn t = false := by
  obtain rfl : f = 3 := Option.some.inj ((show Tryd.prog.funcNamed "loop.example/g01050/laws.FnHubTexts" = some 3 by kernel_rfl).symm.trans hf) |>.symm
  obtain rfl : fn = Tryd.f3 := (Option.some.inj (Tryd.func3.symm.trans hfn)).symm
  refine ⟨by kernel_rfl, fun j t ht => ?_⟩
  rw [Tryd.params3] at ht
  have hm : t ∈ [22] := by simpa using Array.mem_of_getElem? ht
  have hall : ([22].all fun u => !Tryd.prog.wantsStandIn u) = true := by kernel_rfl
  exact (show Tryd.prog.wantsStandIn t = false by simpa using List.all_eq_true.1 hall t hm)

theorem proved : Rows.FnHubTextsCardSaid :=
  Claim7.holds_tied_plain_at .later [] _ _ _ _ said (fun _ h => by cases h) (by kernel_rfl) (fun _ h => by cases h) fnHubTexts_row_tie rfl ⟨rfl, rfl⟩ (by kernel_rfl) rfl plain (by kernel_rfl)
end Go.Proofs.YtcphhcnomaociabDoor.fnHubTexts
