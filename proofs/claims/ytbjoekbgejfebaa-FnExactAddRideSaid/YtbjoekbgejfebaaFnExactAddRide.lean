/- Whatever the rides and the ride: the program's AddRide answers as the model's, keeps what came in, and hands back memory of its own. -/
import Derived.Test.YtbjoekbgejfebaaRows
import Derived.Test.YtbjoekbgejfebaaWearI2
import Derived.Test.YtbjoekbgejfebaaInts
import Derived.Test.YtbjoekbgejfebaaOpen
import Derived.Test.YtbjoekbgejfebaaOpenI
import Derived.Test.YtbjoekbgejfebaaOpenRi
import Derived.Test.YtbjoekbgejfebaaOpenRide
import Derived.WalkKit
import Derived.ProofKit
import Derived.OpenShut
import Derived.ShutString
import Derived.SizedLaws
namespace Go.Proofs.Ytbjoekbgejfebaa.fnExactAddRide
open Go.ChangeShapes Go.WideShapes Go.ChangeAt Go.RowKit
open Go.ChangeMaps (open_string shut_string)
set_option linter.unusedVariables false

set_option maxRecDepth 100000 in
set_option maxHeartbeats 16000000 in
theorem walk (zList : List Rid) (AaList : Option Addr) (caList : Nat) (aR : Rid) (w : World) (haList : RdR w 0 w.heap.size AaList zList) (hnaList : zList.length * 24 ≤ 140737488351232) (_hlaList : zList.length ≤ caList) (_hwaList : ∀ r ∈ zList, (Lit.int .i64 r.day).wf = true ∧ (Lit.int .i64 r.tens).wf = true) (_wr : (Lit.int .i64 aR.day).wf = true) (_wt : (Lit.int .i64 aR.tens).wf = true) :
    Calls Try.prog 6 #[.slice AaList zList.length caList, ridV aR] w fun e w' => e = .returned (.bool true) ∧ Below w.heap.size w w' := by
  clear _hlaList _hwaList _wr _wt
  have HSZ := Go.Lib.hid (fun w0 => law_szRides AaList zList.length caList 1048576 w0 (by omega) (by omega) (by unfold maxLen; omega))
  have HX0 := Go.Lib.hid (show Box (w.alloc (.cells #[.int .i64 aR.day, .int .i64 aR.tens, .bool aR.wet] 45)) w.heap.size (ridC aR) from Box.new rfl rfl)
  have HB0 := Go.Lib.hid (show Below w.heap.size w (w.alloc (.cells #[.int .i64 aR.day, .int .i64 aR.tens, .bool aR.wet] 45)) from (Below.refl _ _).alloc (Nat.le_refl _) _)
  have HTR := Go.Lib.hid (fun w0 => law_toRide aR w0)
  obtain ⟨V0, V1, hv⟩ : ∃ V0 V1, addR zList aR = (V0, V1) := ⟨_, _, rfl⟩
  by_cases hb : (1048576 : Int) - zList.length < 0
  · rw [if_pos hb] at HSZ
    clear hb
    unfold ridV
    go_enter Try.func6, Try.ntmps6
    go_upto_region 1 with fail
    refine wp_gen (R := fun W => Below w.heap.size w W) HB0.out ?_
    rintro W hb0
    have HBW := Go.Lib.hid hb0
    clear hb0
    go_wp2_with fail
    refine (HSZ.out _).mono ?_
    rintro _ w1 ⟨rfl, b1⟩
    have HB1 := Go.Lib.hid (upB HBW.out b1)
    clear b1
    go_wp2_with fail
    go_ret
    exact ⟨rfl, HB1.out⟩
  · skip
    rw [if_neg hb] at HSZ
    have hb2 : ¬ (1048576 : Int) - zList.length < 0 := hb
    have hzzList : zList.length ≤ 1048576 := by omega
    have hlen : V0.length ≤ 1048576 := by
      have hx := addR_few zList aR hzzList
      rw [hv] at hx
      exact hx
    clear hb hnaList
    have Hspec := Go.Lib.hid (fun (B : Option Addr) (d : Nat) (w0 : World) (lo hi : Nat) (h0 : OwR w0 lo hi 34 B d zList) => specAddRide zList aR B d w0 lo hi h0 hzzList)
    have Himpl := Go.Lib.hid (fun (B : Option Addr) (d : Nat) (w0 : World) (lo hi : Nat) (h0 : OwR w0 lo hi 34 B d zList) => implAddRide zList aR B d w0 lo hi h0 hzzList)
    rw [hv] at Hspec Himpl
    try dsimp only [GivesRN] at Hspec Himpl
    unfold ridV at Hspec Himpl HTR ⊢
    clear hv
    have hne1 : (V1 != V1) = false := by simp
    go_enter Try.func6, Try.ntmps6
    go_upto_region 1 with fail
    refine wp_gen (R := fun W => Box W w.heap.size (ridC aR) ∧ Below w.heap.size w W) ⟨HX0.out, HB0.out⟩ ?_
    rintro W ⟨hx, hb0⟩
    have C := Go.Lib.hid ((Ctx.start w).push (BoxI.loc w.heap.size (ridC aR)) ⟨⟨Nat.le_refl _, hx.lt⟩, hx⟩ hb0)
    clear hx hb0 HX0 HB0
    go_wp2_with fail
    refine (HSZ.out _).mono ?_
    rintro _ w101 ⟨rfl, b101⟩
    have C := Go.Lib.hid (C.out.below b101)
    clear b101
    go_upto_region 5 with fail
    have hbx := C.out.box (i := 0) rfl
    have a0 := hbx.at_ 0 _ rfl
    have a1 := hbx.at_ 1 _ rfl
    have a2 := hbx.at_ 2 _ rfl
    clear hbx
    refine wp_region_held_drew (S := fun w' => w'.cell? ⟨w.heap.size, 0, none⟩ = some (.int .i64 aR.day) ∧ w'.cell? ⟨w.heap.size, 1, none⟩ = some (.int .i64 aR.tens) ∧ w'.cell? ⟨w.heap.size, 2, none⟩ = some (.bool aR.wet)) (by kernel_rfl) (by exact ⟨a0, a1, a2⟩) (fun hHeld => ?_)
    have C := Go.Lib.hid (C.out.drewN 1)
    clear a0 a1 a2
    refine wpAnyH_take (i := 0) (v := ?vs1) rfl (by kernel_rfl) (by kernel_rfl) (by kernel_rfl) (fun _ _ _ h => h) (Or.inl ⟨by rfl, ?hys1⟩) (by assumption) ?rests1
    case hys1 => (intro w hSw; (try dsimp only at hSw); go_simp; try with_reducible rfl)
    try simp only [List.getElem_toArray, List.getElem_cons_succ, List.getElem_cons_zero, Act.put, List.setIfInBounds_toArray, List.set_cons_zero, List.set_cons_succ]
    refine wpAnyH_take (i := 2) (v := ?vs2) rfl (by kernel_rfl) (by kernel_rfl) (by kernel_rfl) (fun _ _ _ h => h) (Or.inl ⟨by rfl, ?hys2⟩) (by assumption) ?rests2
    case hys2 => (intro w hSw; (try dsimp only at hSw); go_simp; try with_reducible rfl)
    try simp only [List.getElem_toArray, List.getElem_cons_succ, List.getElem_cons_zero, Act.put, List.setIfInBounds_toArray, List.set_cons_zero, List.set_cons_succ]
    refine wpAnyH_ready (rs := [1]) (by kernel_rfl) (by simp) ?_
    refine AllReadyH.cons rfl (fun K hK => ?_) AllReadyH.nil
    (first | go_at_call 39 | (go_simp; go_at_call 39))
    refine (toRides zList AaList caList _ (C.out.rdR haList) (by omega)).mono ?_
    rintro _ w102 ⟨E102, f102, rfl, q102, b102⟩
    have C := Go.Lib.hid (C.out.push (OwnRi.loc _ _ _) q102 b102)
    clear q102 b102
    refine hK.out _ _ ?_ (fun hHeld => ?_)
    · exact ⟨(C.out.box (i := 1) rfl).at_ 0 _ rfl, (C.out.box (i := 1) rfl).at_ 1 _ rfl, (C.out.box (i := 1) rfl).at_ 2 _ rfl⟩
    clear hK K
    try simp only [List.getElem_toArray, List.getElem_cons_succ, List.getElem_cons_zero, Act.put, List.setIfInBounds_toArray, List.set_cons_zero, List.set_cons_succ]
    refine wpAnyH_ready (rs := [3]) (by kernel_rfl) (by simp) ?_
    refine AllReadyH.cons rfl (fun K hK => ?_) AllReadyH.nil
    (first | go_at_call 41 | (go_simp; go_at_call 41))
    (skip; refine (HTR.out _).mono ?_; rintro _ w103 ⟨rfl, b103⟩)
    have C := Go.Lib.hid (C.out.below b103)
    clear b103
    refine hK.out _ _ ?_ (fun hHeld => ?_)
    · exact ⟨(C.out.box (i := 1) rfl).at_ 0 _ rfl, (C.out.box (i := 1) rfl).at_ 1 _ rfl, (C.out.box (i := 1) rfl).at_ 2 _ rfl⟩
    clear hK K
    try simp only [List.getElem_toArray, List.getElem_cons_succ, List.getElem_cons_zero, Act.put, List.setIfInBounds_toArray, List.set_cons_zero, List.set_cons_succ]
    refine wpAnyH_ready (rs := [4]) (by kernel_rfl) (by simp) ?_
    refine AllReadyH.cons rfl (fun K hK => ?_) AllReadyH.nil
    obtain ⟨l105, t105, -, -, -, p105, u105⟩ := C.out.pick 0 rfl
    (first | go_at_call 26 | (go_simp; go_at_call 26))
    refine (Hspec.out E102 f102 _ l105 t105 p105).mono ?_
    rintro _ w104 ⟨E104, f104, rfl, q104, b104⟩
    have C := Go.Lib.hid (C.out.push (OwnRi.loc _ _ _) q104 b104)
    clear q104 b104 p105 u105
    refine hK.out _ _ ?_ (fun hHeld => ?_)
    · exact ⟨(C.out.box (i := 2) rfl).at_ 0 _ rfl, (C.out.box (i := 2) rfl).at_ 1 _ rfl, (C.out.box (i := 2) rfl).at_ 2 _ rfl⟩
    clear hK K
    try simp only [List.getElem_toArray, List.getElem_cons_succ, List.getElem_cons_zero, Act.put, List.setIfInBounds_toArray, List.set_cons_zero, List.set_cons_succ]
    refine wpAnyH_take (i := 5) (v := ?vs3) rfl (by kernel_rfl) (by kernel_rfl) (by kernel_rfl) (fun _ _ _ h => h) (Or.inl ⟨by rfl, ?hys3⟩) (by assumption) ?rests3
    case hys3 => (intro w hSw; (try dsimp only at hSw); go_simp; try with_reducible rfl)
    try simp only [List.getElem_toArray, List.getElem_cons_succ, List.getElem_cons_zero, Act.put, List.setIfInBounds_toArray, List.set_cons_zero, List.set_cons_succ]
    refine wpAnyH_take (i := 6) (v := ?vs4) rfl (by kernel_rfl) (by kernel_rfl) (by kernel_rfl) (fun _ _ _ h => h) (Or.inl ⟨by rfl, ?hys4⟩) (by assumption) ?rests4
    case hys4 => (intro w hSw; (try dsimp only at hSw); go_simp; try with_reducible rfl)
    try simp only [List.getElem_toArray, List.getElem_cons_succ, List.getElem_cons_zero, Act.put, List.setIfInBounds_toArray, List.set_cons_zero, List.set_cons_succ]
    refine wpAnyH_take (i := 7) (v := ?vs5) rfl (by kernel_rfl) (by kernel_rfl) (by kernel_rfl) (fun _ _ _ h => h) (Or.inl ⟨by rfl, ?hys5⟩) (by assumption) ?rests5
    case hys5 => (intro w hSw; (try dsimp only at hSw); go_simp; try with_reducible rfl)
    try simp only [List.getElem_toArray, List.getElem_cons_succ, List.getElem_cons_zero, Act.put, List.setIfInBounds_toArray, List.set_cons_zero, List.set_cons_succ]
    refine wpAnyH_take (i := 8) (v := ?vs6) rfl (by kernel_rfl) (by kernel_rfl) (by kernel_rfl) (fun _ _ _ h => h) (Or.inl ⟨by rfl, ?hys6⟩) (by assumption) ?rests6
    case hys6 => (intro w hSw; (try dsimp only at hSw); go_simp; try with_reducible rfl)
    try simp only [List.getElem_toArray, List.getElem_cons_succ, List.getElem_cons_zero, Act.put, List.setIfInBounds_toArray, List.set_cons_zero, List.set_cons_succ]
    refine wpAnyH_take (i := 9) (v := ?vs7) rfl (by kernel_rfl) (by kernel_rfl) (by kernel_rfl) (fun _ _ _ h => h) (Or.inl ⟨by rfl, ?hys7⟩) (by assumption) ?rests7
    case hys7 => (intro w hSw; (try dsimp only at hSw); go_simp; try with_reducible rfl)
    try simp only [List.getElem_toArray, List.getElem_cons_succ, List.getElem_cons_zero, Act.put, List.setIfInBounds_toArray, List.set_cons_zero, List.set_cons_succ]
    refine wpAnyH_done (by kernel_rfl) ?_ _
    go_wp2_with fail
    refine (toRides zList AaList caList _ (C.out.rdR haList) (by omega)).mono ?_
    rintro _ w106 ⟨E106, f106, rfl, q106, b106⟩
    have C := Go.Lib.hid (C.out.push (OwnRi.loc _ _ _) q106 b106)
    clear q106 b106
    have hbx := C.out.box (i := 3) rfl
    have a0 := hbx.at_ 0 _ rfl
    have a1 := hbx.at_ 1 _ rfl
    have a2 := hbx.at_ 2 _ rfl
    clear hbx
    go_wp2_with fail
    refine (HTR.out _).mono ?_
    rintro _ w107 ⟨rfl, b107⟩
    have C := Go.Lib.hid (C.out.below b107)
    clear b107 a0 a1 a2
    obtain ⟨l108, t108, -, -, -, p108, u108⟩ := C.out.pick 0 rfl
    go_wp2_with fail
    refine (Himpl.out E106 f106 _ l108 t108 p108).mono ?_
    rintro _ w109 ⟨E109, f109, rfl, q109, b109⟩
    have C := Go.Lib.hid (C.out.push (OwnRi.loc _ _ _) q109 b109)
    clear q109 b109 p108 u108
    obtain ⟨l110, t110, -, -, -, p110, u110⟩ := C.out.pick 0 rfl
    obtain ⟨l111, t111, -, -, -, p111, u111⟩ := C.out.pick 2 rfl
    have HE := Go.Lib.hid (eqRides V0 E109 E104 f109 f104 _ _ _ _ _ p110.rd p111.rd (by omega))
    clear p110 u110 p111 u111
    go_wp2_with fail
    refine HE.out.mono ?_
    rintro _ w112 ⟨rfl, b112⟩
    have C := Go.Lib.hid (C.out.below b112)
    clear HE b112
    go_wp2_with fail
    refine (toRides zList AaList caList _ (C.out.rdR haList) (by omega)).mono ?_
    rintro _ w113 ⟨E113, f113, rfl, q113, b113⟩
    have C := Go.Lib.hid (C.out.push (OwnRi.loc _ _ _) q113 b113)
    clear q113 b113
    obtain ⟨l114, t114, -, -, -, p114, u114⟩ := C.out.pick 2 rfl
    obtain ⟨l115, t115, -, -, -, p115, u115⟩ := C.out.pick 0 rfl
    have HE := Go.Lib.hid (eqRides zList E106 E113 f106 f113 _ _ _ _ _ p114.rd p115.rd (by omega))
    clear p114 u114 p115 u115
    go_wp2_with fail
    refine HE.out.mono ?_
    rintro _ w116 ⟨rfl, b116⟩
    have C := Go.Lib.hid (C.out.below b116)
    clear HE b116
    obtain ⟨l117, t117, -, -, -, p117, u117⟩ := C.out.pick 2 rfl
    have HM := Go.Lib.hid (markRides _ E106 zList.length f106 (1) l117 t117 _ p117 rfl (by omega) (by omega))
    clear p117
    go_wp2_with fail
    refine HM.out.mono ?_
    rintro _ w118 ⟨rfl, q118, k118⟩
    have C := Go.Lib.hid (u117 _ _ (OwnRi.loc _ _ _) q118 k118)
    clear q118 k118 HM u117
    try dsimp only [List.set] at C
    have hk118 : ¬ ((1 + 3 * zList.length : Nat) : Int) < 0 := by omega
    have hm118 : (((1 + 3 * zList.length : Nat) : Int) != ((1 + 3 * zList.length : Nat) : Int)) = false := by simp
    obtain ⟨l119, t119, -, -, -, p119, u119⟩ := C.out.pick 1 rfl
    obtain ⟨l120, t120, -, -, -, p120, u120⟩ := C.out.pick 3 rfl
    have HE := Go.Lib.hid (eqRides V0 E109 E104 f109 f104 _ _ _ _ _ p119.rd p120.rd (by omega))
    clear p119 u119 p120 u120
    go_wp2_with fail
    refine HE.out.mono ?_
    rintro _ w121 ⟨rfl, b121⟩
    have C := Go.Lib.hid (C.out.below b121)
    clear HE b121
    obtain ⟨l122, t122, -, -, -, p122, u122⟩ := C.out.pick 1 rfl
    have HM := Go.Lib.hid (markRides _ E109 V0.length f109 (1) l122 t122 _ p122 rfl (by omega) (by omega))
    clear p122
    go_wp2_with fail
    refine HM.out.mono ?_
    rintro _ w123 ⟨rfl, q123, k123⟩
    have C := Go.Lib.hid (u122 _ _ (OwnRi.loc _ _ _) q123 k123)
    clear q123 k123 HM u122
    try dsimp only [List.set] at C
    have hk123 : ¬ ((1 + 3 * V0.length : Nat) : Int) < 0 := by omega
    have hm123 : (((1 + 3 * V0.length : Nat) : Int) != ((1 + 3 * V0.length : Nat) : Int)) = false := by simp
    obtain ⟨l124, t124, -, -, -, p124, u124⟩ := C.out.pick 1 rfl
    have HH := Go.Lib.hid (heldRides E109 V0.length f109 (1) l124 t124 _ p124.rd (by omega) (by omega))
    clear p124 u124
    go_wp2_with fail
    refine HH.out.mono ?_
    rintro _ _ ⟨rfl, rfl⟩
    clear HH
    go_upto_region 24 with fail
    have hbx := C.out.box (i := 5) rfl
    have a0 := hbx.at_ 0 _ rfl
    have a1 := hbx.at_ 1 _ rfl
    have a2 := hbx.at_ 2 _ rfl
    clear hbx
    refine wp_region_held_drew (S := fun w' => w'.cell? ⟨w.heap.size, 0, none⟩ = some (.int .i64 aR.day) ∧ w'.cell? ⟨w.heap.size, 1, none⟩ = some (.int .i64 aR.tens) ∧ w'.cell? ⟨w.heap.size, 2, none⟩ = some (.bool aR.wet)) (by kernel_rfl) (by exact ⟨a0, a1, a2⟩) (fun hHeld => ?_)
    have C := Go.Lib.hid (C.out.drewN 1)
    clear a0 a1 a2
    refine wpAnyH_take (i := 0) (v := ?vt1251) rfl (by kernel_rfl) (by kernel_rfl) (by kernel_rfl) (fun _ _ _ h => h) (Or.inl ⟨by rfl, ?hyt1251⟩) (by assumption) ?restt1251
    case hyt1251 => (intro w hSw; (try dsimp only at hSw); go_simp; try with_reducible rfl)
    try simp only [List.getElem_toArray, List.getElem_cons_succ, List.getElem_cons_zero, Act.put, List.setIfInBounds_toArray, List.set_cons_zero, List.set_cons_succ]
    refine wpAnyH_take (i := 2) (v := ?vt1252) rfl (by kernel_rfl) (by kernel_rfl) (by kernel_rfl) (fun _ _ _ h => h) (Or.inl ⟨by rfl, ?hyt1252⟩) (by assumption) ?restt1252
    case hyt1252 => (intro w hSw; (try dsimp only at hSw); go_simp; try with_reducible rfl)
    try simp only [List.getElem_toArray, List.getElem_cons_succ, List.getElem_cons_zero, Act.put, List.setIfInBounds_toArray, List.set_cons_zero, List.set_cons_succ]
    refine wpAnyH_ready (rs := [1]) (by kernel_rfl) (by simp) ?_
    refine AllReadyH.cons rfl (fun K hK => ?_) AllReadyH.nil
    (first | go_at_call 39 | (go_simp; go_at_call 39))
    refine (toRides zList AaList caList _ (C.out.rdR haList) (by omega)).mono ?_
    rintro _ w126 ⟨E126, f126, rfl, q126, b126⟩
    have C := Go.Lib.hid (C.out.push (OwnRi.loc _ _ _) q126 b126)
    clear q126 b126
    refine hK.out _ _ ?_ (fun hHeld => ?_)
    · exact ⟨(C.out.box (i := 6) rfl).at_ 0 _ rfl, (C.out.box (i := 6) rfl).at_ 1 _ rfl, (C.out.box (i := 6) rfl).at_ 2 _ rfl⟩
    clear hK K
    try simp only [List.getElem_toArray, List.getElem_cons_succ, List.getElem_cons_zero, Act.put, List.setIfInBounds_toArray, List.set_cons_zero, List.set_cons_succ]
    refine wpAnyH_ready (rs := [3]) (by kernel_rfl) (by simp) ?_
    refine AllReadyH.cons rfl (fun K hK => ?_) AllReadyH.nil
    (first | go_at_call 41 | (go_simp; go_at_call 41))
    (skip; refine (HTR.out _).mono ?_; rintro _ w127 ⟨rfl, b127⟩)
    have C := Go.Lib.hid (C.out.below b127)
    clear b127
    refine hK.out _ _ ?_ (fun hHeld => ?_)
    · exact ⟨(C.out.box (i := 6) rfl).at_ 0 _ rfl, (C.out.box (i := 6) rfl).at_ 1 _ rfl, (C.out.box (i := 6) rfl).at_ 2 _ rfl⟩
    clear hK K
    try simp only [List.getElem_toArray, List.getElem_cons_succ, List.getElem_cons_zero, Act.put, List.setIfInBounds_toArray, List.set_cons_zero, List.set_cons_succ]
    refine wpAnyH_ready (rs := [4]) (by kernel_rfl) (by simp) ?_
    refine AllReadyH.cons rfl (fun K hK => ?_) AllReadyH.nil
    obtain ⟨l129, t129, -, -, -, p129, u129⟩ := C.out.pick 0 rfl
    (first | go_at_call 25 | (go_simp; go_at_call 25))
    refine (Himpl.out E126 f126 _ l129 t129 p129).mono ?_
    rintro _ w128 ⟨E128, f128, rfl, q128, b128⟩
    have C := Go.Lib.hid (C.out.push (OwnRi.loc _ _ _) q128 b128)
    clear q128 b128 p129 u129
    refine hK.out _ _ ?_ (fun hHeld => ?_)
    · exact ⟨(C.out.box (i := 7) rfl).at_ 0 _ rfl, (C.out.box (i := 7) rfl).at_ 1 _ rfl, (C.out.box (i := 7) rfl).at_ 2 _ rfl⟩
    clear hK K
    try simp only [List.getElem_toArray, List.getElem_cons_succ, List.getElem_cons_zero, Act.put, List.setIfInBounds_toArray, List.set_cons_zero, List.set_cons_succ]
    refine wpAnyH_take (i := 5) (v := ?vt1253) rfl (by kernel_rfl) (by kernel_rfl) (by kernel_rfl) (fun _ _ _ h => h) (Or.inl ⟨by rfl, ?hyt1253⟩) (by assumption) ?restt1253
    case hyt1253 => (intro w hSw; (try dsimp only at hSw); go_simp; try with_reducible rfl)
    try simp only [List.getElem_toArray, List.getElem_cons_succ, List.getElem_cons_zero, Act.put, List.setIfInBounds_toArray, List.set_cons_zero, List.set_cons_succ]
    refine wpAnyH_take (i := 6) (v := ?vt1254) rfl (by kernel_rfl) (by kernel_rfl) (by kernel_rfl) (fun _ _ _ h => h) (Or.inl ⟨by rfl, ?hyt1254⟩) (by assumption) ?restt1254
    case hyt1254 => (intro w hSw; (try dsimp only at hSw); go_simp; try with_reducible rfl)
    try simp only [List.getElem_toArray, List.getElem_cons_succ, List.getElem_cons_zero, Act.put, List.setIfInBounds_toArray, List.set_cons_zero, List.set_cons_succ]
    refine wpAnyH_take (i := 7) (v := ?vt1255) rfl (by kernel_rfl) (by kernel_rfl) (by kernel_rfl) (fun _ _ _ h => h) (Or.inl ⟨by rfl, ?hyt1255⟩) (by assumption) ?restt1255
    case hyt1255 => (intro w hSw; (try dsimp only at hSw); go_simp; try with_reducible rfl)
    try simp only [List.getElem_toArray, List.getElem_cons_succ, List.getElem_cons_zero, Act.put, List.setIfInBounds_toArray, List.set_cons_zero, List.set_cons_succ]
    refine wpAnyH_take (i := 8) (v := ?vt1256) rfl (by kernel_rfl) (by kernel_rfl) (by kernel_rfl) (fun _ _ _ h => h) (Or.inl ⟨by rfl, ?hyt1256⟩) (by assumption) ?restt1256
    case hyt1256 => (intro w hSw; (try dsimp only at hSw); go_simp; try with_reducible rfl)
    try simp only [List.getElem_toArray, List.getElem_cons_succ, List.getElem_cons_zero, Act.put, List.setIfInBounds_toArray, List.set_cons_zero, List.set_cons_succ]
    refine wpAnyH_take (i := 9) (v := ?vt1257) rfl (by kernel_rfl) (by kernel_rfl) (by kernel_rfl) (fun _ _ _ h => h) (Or.inl ⟨by rfl, ?hyt1257⟩) (by assumption) ?restt1257
    case hyt1257 => (intro w hSw; (try dsimp only at hSw); go_simp; try with_reducible rfl)
    try simp only [List.getElem_toArray, List.getElem_cons_succ, List.getElem_cons_zero, Act.put, List.setIfInBounds_toArray, List.set_cons_zero, List.set_cons_succ]
    refine wpAnyH_done (by kernel_rfl) ?_ _
    obtain ⟨l130, t130, -, -, -, p130, u130⟩ := C.out.pick 0 rfl
    obtain ⟨l131, t131, -, -, -, p131, u131⟩ := C.out.pick 5 rfl
    have HE := Go.Lib.hid (eqRides V0 E128 E104 f128 f104 _ _ _ _ _ p130.rd p131.rd (by omega))
    clear p130 u130 p131 u131
    go_wp2_with fail
    refine HE.out.mono ?_
    rintro _ w132 ⟨rfl, b132⟩
    have C := Go.Lib.hid (C.out.below b132)
    clear HE b132
    obtain ⟨l133, t133, -, -, -, p133, u133⟩ := C.out.pick 3 rfl
    have HH := Go.Lib.hid (heldRides E109 V0.length f109 (1) l133 t133 _ p133.rd (by omega) (by omega))
    clear p133 u133
    go_wp2_with fail
    refine HH.out.mono ?_
    rintro _ _ ⟨rfl, rfl⟩
    clear HH
    go_wp2_with fail
    go_ret
    exact ⟨rfl, C.out.b⟩

set_option maxRecDepth 100000 in
theorem lifted (os : Os) (started : os.Started) (H : Type) (enc : TypeId × Value → H) :
    ReturnsInHanded {} Try.checked os 6 .any (Rows.fnExactAddRideSpec.pre6 enc Try.prog Try.f6 Rows.fnExactAddRideRow.domain false) (Rows.fnExactAddRideSpec.post enc Try.prog Try.f6 false true false false) := by
  refine returnsInHanded_of_change_sized (C := Try.checked) own started (by kernel_rfl) Try.func6
    (ChangeSpec.witness6 (enc := enc) (C := Try.checked) false ⟨#[], #[.slice none 0 0, .agg #[.int .i64 0, .int .i64 0, .bool false]], []⟩ 8 (by kernel_rfl) (by kernel_rfl) (by kernel_rfl) (by kernel_rfl)) ?_
  intro W base args ds gs before hval0 hW hcnd hsz0 _
  have hsz : (DataW.weightsEach Try.prog (Try.f6.params.toList ++ Rows.fnExactAddRideSpec.plain.varTypes Try.prog) (ds ++ gs)).all (· ≤ reachBytes) = true := hsz0
  clear hsz0
  have hval : ∀ (j : Nat) t v, Try.f6.params[j]? = some t → args[j]? = some v → Value.okWide Try.prog W .any base t v := hval0
  clear hval0
  have hW' := hW
  obtain ⟨p, q, hA0, hV, rfl, hfz, hnd⟩ := hW
  have hA : DataW.TrodAll enc Try.prog W 0 (fun _ => true) true Try.f6.params.toList args.toList ds p := hA0
  rw [Try.params6] at hA hval hsz
  obtain ⟨v0, vs0, d0, ds0, p0, q0, hargs, rfl, rfl, h0, r0⟩ := trodAll_cons hA
  obtain ⟨v1, vs1, d1, ds1, p1, q1, rfl, rfl, rfl, h1, r1⟩ := trodAll_cons r0
  obtain ⟨rfl, rfl, rfl⟩ := trodAll_nil r1
  obtain rfl : args = #[v0, v1] := by cases args; simp_all
  obtain ⟨rfl, rfl⟩ := trodVars_none hV
  obtain ⟨a0, len0, cap0, rfl⟩ := okWide_slice Try.underlying41 (hval 0 41 v0 rfl rfl)
  have k0 := h0
  have lt0 : ∀ x ∈ p0, x.block < W.heap.size := by obtain ⟨m, hm⟩ := k0; exact DataW.trod_lt m _ _ _ hm
  obtain ⟨⟨z0, zl0, rd0, wz0⟩, hlc0, hp0⟩ := open_rides h0
  have reach0 : len0 * 24 ≤ 140737488351232 := by
    rcases hp0 with hp0 | ⟨E0, S0, rfl, hl0⟩
    · omega
    · have := sized_slice hsz (j := 0) (t := 41) (e := 45) rfl rfl Try.underlying41
      rw [show Try.prog.bytesOf 45 = 24 by kernel_rfl] at this
      simp only [reachBytes] at this
      omega
  subst zl0
  have k1 := h1
  have lt1 : ∀ x ∈ p1, x.block < W.heap.size := by obtain ⟨m, hm⟩ := k1; exact DataW.trod_lt m _ _ _ hm
  obtain ⟨r1z, rfl, wr1, wt1⟩ := open_ride (hval 1 45 v1 rfl rfl) h1
  clear hA0
  refine (walk z0 a0 cap0 r1z W rd0 reach0 hlc0 wz0 wr1 wt1).mono fun e W' ⟨he, bel⟩ => ?_
  subst he
  exact ⟨_, rfl, _, _, _, [], _, [], hW', trodAll_mk1 (shut_bool Try.underlying4 _), (trodAll_cons_mk (Below.trod laidOut (by kernel_rfl) (of_decide_eq_true (by kernel_rfl)) k0 bel lt0) (trodAll_cons_mk (Below.trod laidOut (by kernel_rfl) (of_decide_eq_true (by kernel_rfl)) k1 bel lt1) trodAll_mk0)), rfl, bel.frame _, fun h => by cases h⟩

theorem over : Rows.fnExactAddRideRow.holds Try.pinned (OpenSpec.ofChange Rows.fnExactAddRideSpec) :=
  OpenClaim.holds_of_wide 6 Try.f6 rfl rfl rfl rfl rfl rfl rfl ⟨rfl, rfl, rfl, rfl, rfl⟩ rfl rfl rfl rfl rfl (by kernel_rfl) Try.func6 (by kernel_rfl)
    (of_decide_eq_true (by kernel_rfl)) (by unfold Func.isWrapper; first | (rw [if_pos (by decide +kernel)]; kernel_rfl) | (rw [if_neg (by decide +kernel)]; exact ⟨rfl, rfl⟩))
    (fun os started H enc _ => lifted os started H enc)

theorem proved : Rows.FnExactAddRideSaid := over
end Go.Proofs.Ytbjoekbgejfebaa.fnExactAddRide
