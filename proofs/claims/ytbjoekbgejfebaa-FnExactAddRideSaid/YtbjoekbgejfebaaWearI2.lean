/- A ride added: the model and the program. -/
import Derived.Test.YtbjoekbgejfebaaWearA
import Derived.Test.YtbjoekbgejfebaaWearS0
import Derived.Test.YtbjoekbgejfebaaWearI1
import Derived.Test.YtbjoekbgejfebaaPlainWear2
namespace Go.Proofs.Ytbjoekbgejfebaa
open Go.RowKit
set_option linter.unusedSimpArgs false
set_option linter.unusedVariables false

theorem addR_few (xs : List Rid) (r : Rid) (h : xs.length ≤ 1048576) : (addR xs r).1.length ≤ 1048576 := by
  unfold addR
  split
  · have := rides_len ‹_›
    split
    · simp
    · split
      · simp; omega
      · simp
  · simp
theorem box_blk {w w1 : World} {q : Nat} {cs : List Value} (h : Box w q cs) (hb : w1.heap[q]? = w.heap[q]?) (hs : q < w1.heap.size) : Box w1 q cs :=
  ⟨fun k v hv => (World.cell?_of_block hb).trans (h.at_ k v hv), fun j => (World.frozen?_of_block hb).trans (h.fr j), hs⟩
theorem box_lo {w w1 : World} {q lo : Nat} {cs : List Value} (h : Box w q cs) (hq : q < lo) (hb : Below lo w w1) : Box w1 q cs :=
  ⟨fun k v hv => (hb.cell (p := ⟨q, k, none⟩) hq).trans (h.at_ k v hv), fun j => (hb.frozen (p := ⟨q, j, none⟩) hq).trans (h.fr j), Nat.lt_of_lt_of_le h.lt hb.size⟩
set_option maxRecDepth 100000 in
set_option maxHeartbeats 8000000 in
theorem implAddRide (xs : List Rid) (r : Rid) (A : Option Addr) (c : Nat) (w : World) (lo hi : Nat) (h : OwR w lo hi 34 A c xs) (hz : xs.length ≤ 1048576) :
    Calls Try.prog 25 #[.slice A xs.length c, ridV r] w (GivesRN (addR xs r) w) := by
  have hA : A = none → c = 0 ∧ xs = [] := by
    intro e
    subst e
    rcases h.1.2 with ⟨hv, h0⟩ | ⟨g, cap', cur, hv, r⟩
    · injection hv with _ _ e3
      exact ⟨e3, List.length_eq_zero_iff.1 h0⟩
    · cases hv
  have HL := Go.Lib.hid (show Lr xs A c w from Lr.of h.rd h.le hz)
  have HX0 := Go.Lib.hid (show Box (w.alloc (.cells #[.int .i64 r.day, .int .i64 r.tens, .bool r.wet] 34)) w.heap.size (ridC r) from Box.new rfl rfl)
  have HB0 := Go.Lib.hid (show Below w.heap.size w (w.alloc (.cells #[.int .i64 r.day, .int .i64 r.tens, .bool r.wet] 34)) from (Below.refl _ _).alloc (Nat.le_refl _) _)
  have HAR := Go.Lib.hid (fun w0 L0 => implAreRides xs A c w0 L0)
  have HV := Go.Lib.hid (show addR xs r = if ridesB xs then if xs.length = 40 then ([], 3) else if ridesB (xs ++ [r]) then (xs ++ [r], 0) else ([], 5) else ([], 1) from rfl)
  have HA := Go.Lib.hid hA
  have h40 : ridesB xs = true → xs.length ≤ 40 := fun e => rides_len e
  clear h hA
  unfold ridV
  generalize ridesB xs = u at *
  go_enter Try.func25, Try.ntmps25
  go_upto_region 1 with fail
  refine wp_gen (R := fun W => Box W w.heap.size (ridC r) ∧ Below w.heap.size w W) ⟨HX0.out, HB0.out⟩ ?_
  rintro W ⟨hx, hb⟩
  clear HX0 HB0
  have HX := Go.Lib.hid hx
  have HBW := Go.Lib.hid hb
  have HARW := Go.Lib.hid (HAR.out W (HL.out.below hb))
  clear hx hb HAR
  cases u
  case false =>
    clear h40
    go_wp2_with fail
    refine HARW.out.mono ?_
    rintro _ W1 ⟨rfl, b1⟩
    have HB1 := Go.Lib.hid (upB HBW.out b1)
    clear b1
    go_wp2_with fail
    go_ret2
    rw [HV.out]
    exact ⟨none, 0, rfl, OwR.nil _ _ _ _, HB1.out⟩
  case true =>
    have h40 := h40 rfl
    by_cases hq : xs.length = 40
    case pos =>
      have hqi : (xs.length : Int) = 40 := by omega
      rw [if_pos rfl, if_pos hq] at HV
      clear h40 hq
      go_wp2_with fail
      refine HARW.out.mono ?_
      rintro _ W1 ⟨rfl, b1⟩
      have HB1 := Go.Lib.hid (upB HBW.out b1)
      clear b1
      go_wp2_with fail
      go_ret2
      rw [HV.out]
      exact ⟨none, 0, rfl, OwR.nil _ _ _ _, HB1.out⟩
    case neg =>
      have hqi : ((xs.length : Int) == 40) = false := by simp; omega
      rw [if_pos rfl, if_neg hq] at HV
      have hlt0' : w.heap.size < W.heap.size := HX.out.lt
      go_wp2_with fail
      refine HARW.out.mono ?_
      rintro _ W1 ⟨rfl, b1⟩
      have HB1 := Go.Lib.hid (upB HBW.out b1)
      have hx1 := HX.out.below b1
      have HL1 := Go.Lib.hid (HL.out.below (upB HBW.out b1))
      have a0 := hx1.at_ 0 _ rfl
      have a1 := hx1.at_ 1 _ rfl
      have a2 := hx1.at_ 2 _ rfl
      have hlt0 : w.heap.size < W1.heap.size := hx1.lt
      clear b1 hx1 HARW
      have HCL := Go.Lib.hid (fun V (hb : Below W1.heap.size W1 V) => implCloneR A c xs V (HL1.out.below hb) HA.out)
      go_upto_region 5 with fail
      refine wp_region_held_drew (S := fun w' => w'.cell? ⟨w.heap.size, 0, none⟩ = some (.int .i64 r.day) ∧ w'.cell? ⟨w.heap.size, 1, none⟩ = some (.int .i64 r.tens) ∧ w'.cell? ⟨w.heap.size, 2, none⟩ = some (.bool r.wet)) (by kernel_rfl) (by exact ⟨a0, a1, a2⟩) (fun hHeld => ?_)
      refine wpAnyH_take (i := 0) (v := ?vi1) rfl (by kernel_rfl) (by kernel_rfl) (by kernel_rfl) (fun _ _ _ h => h) (Or.inl ⟨by rfl, ?hyi1⟩) (by assumption) ?resti1
      case hyi1 => (intro w hSw; (try dsimp only at hSw); go_simp; try with_reducible rfl)
      try simp only [List.getElem_toArray, List.getElem_cons_succ, List.getElem_cons_zero, Act.put, List.setIfInBounds_toArray, List.set_cons_zero, List.set_cons_succ]
      refine wpAnyH_take (i := 2) (v := ?vi2) rfl (by kernel_rfl) (by kernel_rfl) (by kernel_rfl) (fun _ _ _ h => h) (Or.inl ⟨by rfl, ?hyi2⟩) (by assumption) ?resti2
      case hyi2 => (intro w hSw; (try dsimp only at hSw); go_simp; try with_reducible rfl)
      try simp only [List.getElem_toArray, List.getElem_cons_succ, List.getElem_cons_zero, Act.put, List.setIfInBounds_toArray, List.set_cons_zero, List.set_cons_succ]
      refine wpAnyH_ready (rs := [1, 3]) (by kernel_rfl) (by simp) ?_
      refine AllReadyH.cons rfl (fun K hK => ?_) (AllReadyH.cons rfl (fun K hK => ?_) AllReadyH.nil)
      · (first | go_at_call 61 | (go_simp; go_at_call 61))
        (skip; refine (HCL.out _ (Below.refl W1.heap.size W1).drew).mono ?_; rintro _ w2 ⟨A2, c2, rfl, o2, b2⟩)
        have HO2 := Go.Lib.hid (show OwR w2 W1.drew.heap.size w2.heap.size 34 A2 c2 xs from o2)
        have HW2 := Go.Lib.hid (show Below W1.heap.size W1 w2 from (Below.refl W1.heap.size W1).drew.trans (b2.mono (by simp)))
        have HS2 := Go.Lib.hid (show W1.drew.heap.size ≤ w2.heap.size from b2.size)
        clear o2 b2
        refine hK.out _ _ ?_ (fun hHeld => ?_)
        · exact ⟨((HW2.out).cell (p := ⟨w.heap.size, 0, none⟩) hlt0).trans a0, ((HW2.out).cell (p := ⟨w.heap.size, 1, none⟩) hlt0).trans a1, ((HW2.out).cell (p := ⟨w.heap.size, 2, none⟩) hlt0).trans a2⟩
        clear hK K
        try simp only [List.getElem_toArray, List.getElem_cons_succ, List.getElem_cons_zero, Act.put, List.setIfInBounds_toArray, List.set_cons_zero, List.set_cons_succ]
        refine wpAnyH_ready (rs := [3]) (by kernel_rfl) (by simp) ?_
        refine AllReadyH.cons rfl (fun K hK => ?_) AllReadyH.nil
        go_simp
        refine hK.out _ _ ?_ (fun hHeld => ?_)
        · exact ⟨(((HW2.out.alloc HW2.out.size (.cells #[.int .i64 r.day, .int .i64 r.tens, .bool r.wet] 34))).cell (p := ⟨w.heap.size, 0, none⟩) hlt0).trans a0, (((HW2.out.alloc HW2.out.size (.cells #[.int .i64 r.day, .int .i64 r.tens, .bool r.wet] 34))).cell (p := ⟨w.heap.size, 1, none⟩) hlt0).trans a1, (((HW2.out.alloc HW2.out.size (.cells #[.int .i64 r.day, .int .i64 r.tens, .bool r.wet] 34))).cell (p := ⟨w.heap.size, 2, none⟩) hlt0).trans a2⟩
        clear hK K
        try simp only [List.getElem_toArray, List.getElem_cons_succ, List.getElem_cons_zero, Act.put, List.setIfInBounds_toArray, List.set_cons_zero, List.set_cons_succ]
        refine wpAnyH_ready (rs := [4]) (by kernel_rfl) (by simp) ?_
        refine AllReadyH.cons rfl (fun K hK => ?_) AllReadyH.nil
        refine op_appR (xs := xs) (ys := [r]) (.tmp 14) (.tmp 16) rfl rfl rfl rfl rfl (HO2.out.below ((Below.refl w2.heap.size w2).alloc (Nat.le_refl _) (.cells #[.int .i64 r.day, .int .i64 r.tens, .bool r.wet] 34)) (Nat.le_refl _)) (Nat.le_trans HS2.out (by simp)) (RdR.one (Box.new rfl rfl)) (fun e => by cases e) (by simp; omega) ?_
        intro A5 c5 n5 w5 e5 o5 b5 k5
        have HN5 := Go.Lib.hid e5
        have HO5 := Go.Lib.hid o5
        have HW5 := Go.Lib.hid (show Below W1.heap.size W1 w5 from (HW2.out.trans ((((Below.refl w2.heap.size w2).alloc (Nat.le_refl _) (.cells #[.int .i64 r.day, .int .i64 r.tens, .bool r.wet] 34))).mono (by have := HW2.out.size; exact this))).trans (b5.mono (by simp)))
        have HLO := Go.Lib.hid (show w.heap.size ≤ W1.drew.heap.size by have := HB1.out.size; simpa using this)
        clear o5 b5 e5 k5
        refine hK.out _ _ ?_ (fun hHeld => ?_)
        · exact ⟨((HW5.out).cell (p := ⟨w.heap.size, 0, none⟩) hlt0).trans a0, ((HW5.out).cell (p := ⟨w.heap.size, 1, none⟩) hlt0).trans a1, ((HW5.out).cell (p := ⟨w.heap.size, 2, none⟩) hlt0).trans a2⟩
        clear hK K
        try simp only [List.getElem_toArray, List.getElem_cons_succ, List.getElem_cons_zero, Act.put, List.setIfInBounds_toArray, List.set_cons_zero, List.set_cons_succ]
        refine wpAnyH_take (i := 5) (v := ?vi3) rfl (by kernel_rfl) (by kernel_rfl) (by kernel_rfl) (fun _ _ _ h => h) (Or.inl ⟨by rfl, ?hyi3⟩) (by assumption) ?resti3
        case hyi3 => (intro w hSw; (try dsimp only at hSw); go_simp; try with_reducible rfl)
        try simp only [List.getElem_toArray, List.getElem_cons_succ, List.getElem_cons_zero, Act.put, List.setIfInBounds_toArray, List.set_cons_zero, List.set_cons_succ]
        refine wpAnyH_done (by kernel_rfl) ?_ _
        have HB5 := Go.Lib.hid (upB HB1.out HW5.out)
        have HA5 := Go.Lib.hid (HN5.out ▸ implAreRides (xs ++ [r]) A5 c5 w5 (Lr.of HO5.out.rd HO5.out.le (by simp; omega)) : Calls Try.prog 29 #[.slice A5 n5 c5] w5 (IsB w5 (ridesB (xs ++ [r]))))
        have HOF := Go.Lib.hid (fun (w6 : World) (hb : Below w5.heap.size w5 w6) => (HO5.out.below hb (Nat.le_refl _)).raise hb.size |>.lower HLO.out)
        clear a0 a1 a2
        generalize xs ++ [r] = ys at *
        generalize ridesB ys = v at *
        cases v
        case false =>
          go_wp2_with fail
          refine HA5.out.mono ?_
          rintro _ w6 ⟨rfl, b6⟩
          have HB6 := Go.Lib.hid (upB HB5.out b6)
          clear b6
          go_wp2_with fail
          go_ret2
          rw [HV.out]
          exact ⟨none, 0, rfl, OwR.nil _ _ _ _, HB6.out⟩
        case true =>
          go_wp2_with fail
          refine HA5.out.mono ?_
          rintro _ w6 ⟨rfl, b6⟩
          have HB6 := Go.Lib.hid (upB HB5.out b6)
          have HO6 := Go.Lib.hid (HOF.out w6 b6)
          clear b6
          go_wp2_with fail
          go_ret2
          rw [HV.out]
          exact ⟨A5, c5, by rw [HN5.out]; rfl, HO6.out, HB6.out⟩
      · go_simp
        refine hK.out _ _ ?_ (fun hHeld => ?_)
        · exact ⟨((((Below.refl W1.heap.size W1).drew.alloc (Nat.le_refl W1.heap.size) (.cells #[.int .i64 r.day, .int .i64 r.tens, .bool r.wet] 34))).cell (p := ⟨w.heap.size, 0, none⟩) hlt0).trans a0, ((((Below.refl W1.heap.size W1).drew.alloc (Nat.le_refl W1.heap.size) (.cells #[.int .i64 r.day, .int .i64 r.tens, .bool r.wet] 34))).cell (p := ⟨w.heap.size, 1, none⟩) hlt0).trans a1, ((((Below.refl W1.heap.size W1).drew.alloc (Nat.le_refl W1.heap.size) (.cells #[.int .i64 r.day, .int .i64 r.tens, .bool r.wet] 34))).cell (p := ⟨w.heap.size, 2, none⟩) hlt0).trans a2⟩
        clear hK K
        try simp only [List.getElem_toArray, List.getElem_cons_succ, List.getElem_cons_zero, Act.put, List.setIfInBounds_toArray, List.set_cons_zero, List.set_cons_succ]
        refine wpAnyH_ready (rs := [1]) (by kernel_rfl) (by simp) ?_
        refine AllReadyH.cons rfl (fun K hK => ?_) AllReadyH.nil
        (first | go_at_call 61 | (go_simp; go_at_call 61))
        (skip; refine (HCL.out _ ((Below.refl W1.heap.size W1).drew.alloc (Nat.le_refl W1.heap.size) (.cells #[.int .i64 r.day, .int .i64 r.tens, .bool r.wet] 34))).mono ?_; rintro _ w2 ⟨A2, c2, rfl, o2, b2⟩)
        have HO2 := Go.Lib.hid (show OwR w2 (W1.drew.alloc (.cells #[.int .i64 r.day, .int .i64 r.tens, .bool r.wet] 34)).heap.size w2.heap.size 34 A2 c2 xs from o2)
        have HW2 := Go.Lib.hid (show Below W1.heap.size W1 w2 from ((Below.refl W1.heap.size W1).drew.alloc (Nat.le_refl W1.heap.size) (.cells #[.int .i64 r.day, .int .i64 r.tens, .bool r.wet] 34)).trans (b2.mono (by simp)))
        have HS2 := Go.Lib.hid (show (W1.drew.alloc (.cells #[.int .i64 r.day, .int .i64 r.tens, .bool r.wet] 34)).heap.size ≤ w2.heap.size from b2.size)
        have HN2 := Go.Lib.hid (show Box w2 W1.heap.size (ridC r) from (Box.new (w := W1.drew) (cs := #[.int .i64 r.day, .int .i64 r.tens, .bool r.wet]) (t := 34) rfl rfl).below b2)
        clear o2 b2
        refine hK.out _ _ ?_ (fun hHeld => ?_)
        · exact ⟨((HW2.out).cell (p := ⟨w.heap.size, 0, none⟩) hlt0).trans a0, ((HW2.out).cell (p := ⟨w.heap.size, 1, none⟩) hlt0).trans a1, ((HW2.out).cell (p := ⟨w.heap.size, 2, none⟩) hlt0).trans a2⟩
        clear hK K
        try simp only [List.getElem_toArray, List.getElem_cons_succ, List.getElem_cons_zero, Act.put, List.setIfInBounds_toArray, List.set_cons_zero, List.set_cons_succ]
        refine wpAnyH_ready (rs := [4]) (by kernel_rfl) (by simp) ?_
        refine AllReadyH.cons rfl (fun K hK => ?_) AllReadyH.nil
        refine op_appR (xs := xs) (ys := [r]) (.tmp 14) (.tmp 16) rfl rfl rfl rfl rfl HO2.out HS2.out (RdR.one HN2.out) (fun e => by cases e) (by simp; omega) ?_
        intro A5 c5 n5 w5 e5 o5 b5 k5
        have HN5 := Go.Lib.hid e5
        have HO5 := Go.Lib.hid o5
        have HW5 := Go.Lib.hid (show Below W1.heap.size W1 w5 from HW2.out.trans (b5.mono (by simp)))
        have HLO := Go.Lib.hid (show w.heap.size ≤ (W1.drew.alloc (.cells #[.int .i64 r.day, .int .i64 r.tens, .bool r.wet] 34)).heap.size by have := HB1.out.size; simp; omega)
        clear o5 b5 e5 k5
        refine hK.out _ _ ?_ (fun hHeld => ?_)
        · exact ⟨((HW5.out).cell (p := ⟨w.heap.size, 0, none⟩) hlt0).trans a0, ((HW5.out).cell (p := ⟨w.heap.size, 1, none⟩) hlt0).trans a1, ((HW5.out).cell (p := ⟨w.heap.size, 2, none⟩) hlt0).trans a2⟩
        clear hK K
        try simp only [List.getElem_toArray, List.getElem_cons_succ, List.getElem_cons_zero, Act.put, List.setIfInBounds_toArray, List.set_cons_zero, List.set_cons_succ]
        refine wpAnyH_take (i := 5) (v := ?vi4) rfl (by kernel_rfl) (by kernel_rfl) (by kernel_rfl) (fun _ _ _ h => h) (Or.inl ⟨by rfl, ?hyi4⟩) (by assumption) ?resti4
        case hyi4 => (intro w hSw; (try dsimp only at hSw); go_simp; try with_reducible rfl)
        try simp only [List.getElem_toArray, List.getElem_cons_succ, List.getElem_cons_zero, Act.put, List.setIfInBounds_toArray, List.set_cons_zero, List.set_cons_succ]
        refine wpAnyH_done (by kernel_rfl) ?_ _
        have HB5 := Go.Lib.hid (upB HB1.out HW5.out)
        have HA5 := Go.Lib.hid (HN5.out ▸ implAreRides (xs ++ [r]) A5 c5 w5 (Lr.of HO5.out.rd HO5.out.le (by simp; omega)) : Calls Try.prog 29 #[.slice A5 n5 c5] w5 (IsB w5 (ridesB (xs ++ [r]))))
        have HOF := Go.Lib.hid (fun (w6 : World) (hb : Below w5.heap.size w5 w6) => (HO5.out.below hb (Nat.le_refl _)).raise hb.size |>.lower HLO.out)
        clear a0 a1 a2
        generalize xs ++ [r] = ys at *
        generalize ridesB ys = v at *
        cases v
        case false =>
          go_wp2_with fail
          refine HA5.out.mono ?_
          rintro _ w6 ⟨rfl, b6⟩
          have HB6 := Go.Lib.hid (upB HB5.out b6)
          clear b6
          go_wp2_with fail
          go_ret2
          rw [HV.out]
          exact ⟨none, 0, rfl, OwR.nil _ _ _ _, HB6.out⟩
        case true =>
          go_wp2_with fail
          refine HA5.out.mono ?_
          rintro _ w6 ⟨rfl, b6⟩
          have HB6 := Go.Lib.hid (upB HB5.out b6)
          have HO6 := Go.Lib.hid (HOF.out w6 b6)
          clear b6
          go_wp2_with fail
          go_ret2
          rw [HV.out]
          exact ⟨A5, c5, by rw [HN5.out]; rfl, HO6.out, HB6.out⟩
set_option maxRecDepth 100000 in
set_option maxHeartbeats 8000000 in
theorem specAddRide (xs : List Rid) (r : Rid) (A : Option Addr) (c : Nat) (w : World) (lo hi : Nat) (h : OwR w lo hi 34 A c xs) (hz : xs.length ≤ 1048576) :
    Calls Try.prog 26 #[.slice A xs.length c, ridV r] w (GivesRN (addR xs r) w) := by
  have hA : A = none → c = 0 ∧ xs = [] := by
    intro e
    subst e
    rcases h.1.2 with ⟨hv, h0⟩ | ⟨g, cap', cur, hv, r⟩
    · injection hv with _ _ e3
      exact ⟨e3, List.length_eq_zero_iff.1 h0⟩
    · cases hv
  have HL := Go.Lib.hid (show Lr xs A c w from Lr.of h.rd h.le hz)
  have HX0 := Go.Lib.hid (show Box (w.alloc (.cells #[.int .i64 r.day, .int .i64 r.tens, .bool r.wet] 34)) w.heap.size (ridC r) from Box.new rfl rfl)
  have HB0 := Go.Lib.hid (show Below w.heap.size w (w.alloc (.cells #[.int .i64 r.day, .int .i64 r.tens, .bool r.wet] 34)) from (Below.refl _ _).alloc (Nat.le_refl _) _)
  have HAR := Go.Lib.hid (fun w0 L0 => specAreRides xs A c w0 L0)
  have HV := Go.Lib.hid (show addR xs r = if ridesB xs then if xs.length = 40 then ([], 3) else if ridesB (xs ++ [r]) then (xs ++ [r], 0) else ([], 5) else ([], 1) from rfl)
  have HA := Go.Lib.hid hA
  have h40 : ridesB xs = true → xs.length ≤ 40 := fun e => rides_len e
  clear h hA
  unfold ridV
  generalize ridesB xs = u at *
  go_enter Try.func26, Try.ntmps26
  go_upto_region 1 with fail
  refine wp_gen (R := fun W => Box W w.heap.size (ridC r) ∧ Below w.heap.size w W) ⟨HX0.out, HB0.out⟩ ?_
  rintro W ⟨hx, hb⟩
  clear HX0 HB0
  have HX := Go.Lib.hid hx
  have HBW := Go.Lib.hid hb
  have HARW := Go.Lib.hid (HAR.out W (HL.out.below hb))
  clear hx hb HAR
  cases u
  case false =>
    clear h40
    go_wp2_with fail
    refine HARW.out.mono ?_
    rintro _ W1 ⟨rfl, b1⟩
    have HB1 := Go.Lib.hid (upB HBW.out b1)
    clear b1
    go_wp2_with fail
    go_ret2
    rw [HV.out]
    exact ⟨none, 0, rfl, OwR.nil _ _ _ _, HB1.out⟩
  case true =>
    have h40 := h40 rfl
    by_cases hq : xs.length = 40
    case pos =>
      have hqi : (xs.length : Int) = 40 := by omega
      rw [if_pos rfl, if_pos hq] at HV
      clear h40 hq
      go_wp2_with fail
      refine HARW.out.mono ?_
      rintro _ W1 ⟨rfl, b1⟩
      have HB1 := Go.Lib.hid (upB HBW.out b1)
      clear b1
      go_wp2_with fail
      go_ret2
      rw [HV.out]
      exact ⟨none, 0, rfl, OwR.nil _ _ _ _, HB1.out⟩
    case neg =>
      have hqi : ((xs.length : Int) == 40) = false := by simp; omega
      rw [if_pos rfl, if_neg hq] at HV
      have hlt0' : w.heap.size < W.heap.size := HX.out.lt
      go_wp2_with fail
      refine HARW.out.mono ?_
      rintro _ W1 ⟨rfl, b1⟩
      have HB1 := Go.Lib.hid (upB HBW.out b1)
      have hx1 := HX.out.below b1
      have HL1 := Go.Lib.hid (HL.out.below (upB HBW.out b1))
      have a0 := hx1.at_ 0 _ rfl
      have a1 := hx1.at_ 1 _ rfl
      have a2 := hx1.at_ 2 _ rfl
      have hlt0 : w.heap.size < W1.heap.size := hx1.lt
      clear b1 hx1 HARW
      go_upto_region 5 with fail
      refine wp_region_held_drew (S := fun w' => w'.cell? ⟨w.heap.size, 0, none⟩ = some (.int .i64 r.day) ∧ w'.cell? ⟨w.heap.size, 1, none⟩ = some (.int .i64 r.tens) ∧ w'.cell? ⟨w.heap.size, 2, none⟩ = some (.bool r.wet)) (by kernel_rfl) (by exact ⟨a0, a1, a2⟩) (fun hHeld => ?_)
      refine wpAnyH_take (i := 1) (v := ?vs1) rfl (by kernel_rfl) (by kernel_rfl) (by kernel_rfl) (fun _ _ _ h => h) (Or.inl ⟨by rfl, ?hys1⟩) (by assumption) ?rests1
      case hys1 => (intro w hSw; (try dsimp only at hSw); go_simp; try with_reducible rfl)
      try simp only [List.getElem_toArray, List.getElem_cons_succ, List.getElem_cons_zero, Act.put, List.setIfInBounds_toArray, List.set_cons_zero, List.set_cons_succ]
      refine wpAnyH_take (i := 3) (v := ?vs2) rfl (by kernel_rfl) (by kernel_rfl) (by kernel_rfl) (fun _ _ _ h => h) (Or.inl ⟨by rfl, ?hys2⟩) (by assumption) ?rests2
      case hys2 => (intro w hSw; (try dsimp only at hSw); go_simp; try with_reducible rfl)
      try simp only [List.getElem_toArray, List.getElem_cons_succ, List.getElem_cons_zero, Act.put, List.setIfInBounds_toArray, List.set_cons_zero, List.set_cons_succ]
      refine wpAnyH_ready (rs := [0, 4]) (by kernel_rfl) (by simp) ?_
      refine AllReadyH.cons rfl (fun K hK => ?_) (AllReadyH.cons rfl (fun K hK => ?_) AllReadyH.nil)
      · go_simp
        refine hK.out _ _ ?_ (fun hHeld => ?_)
        · exact ⟨((((Below.refl W1.heap.size W1).drew.alloc (by simp) (.cells #[] 34))).cell (p := ⟨w.heap.size, 0, none⟩) hlt0).trans a0, ((((Below.refl W1.heap.size W1).drew.alloc (by simp) (.cells #[] 34))).cell (p := ⟨w.heap.size, 1, none⟩) hlt0).trans a1, ((((Below.refl W1.heap.size W1).drew.alloc (by simp) (.cells #[] 34))).cell (p := ⟨w.heap.size, 2, none⟩) hlt0).trans a2⟩
        clear hK K
        try simp only [List.getElem_toArray, List.getElem_cons_succ, List.getElem_cons_zero, Act.put, List.setIfInBounds_toArray, List.set_cons_zero, List.set_cons_succ]
        refine wpAnyH_ready (rs := [2, 4]) (by kernel_rfl) (by simp) ?_
        refine AllReadyH.cons rfl (fun K hK => ?_) (AllReadyH.cons rfl (fun K hK => ?_) AllReadyH.nil)
        · refine op_appR (xs := []) (ys := xs) (.tmp 13) (.tmp 14) rfl rfl rfl rfl rfl (OwR.freshAt (W := W1.drew) (Nat.le_refl _) (q := W1.heap.size) (by simp) 34) (by simp; try omega) ((HL1.out.below ((Below.refl W1.heap.size W1).drew.alloc (by simp) (.cells #[] 34))).rd) HA.out (by have := HL1.out.few; simpa using this) ?_
          intro A2 c2 n2 w2 e2 o2 b2 k2
          have HN2 := Go.Lib.hid (show xs.length = n2 by rw [e2]; rfl)
          have HO2 := Go.Lib.hid (show OwR w2 W1.drew.heap.size w2.heap.size 34 A2 c2 xs from o2)
          have HW2 := Go.Lib.hid (show Below W1.heap.size W1 w2 from ((Below.refl W1.heap.size W1).drew.alloc (by simp) (.cells #[] 34)).trans (b2.mono (by simp)))
          have HS2 := Go.Lib.hid (show (W1.drew.alloc (.cells #[] 34)).heap.size ≤ w2.heap.size from b2.size)
          clear o2 b2 e2 k2
          refine hK.out _ _ ?_ (fun hHeld => ?_)
          · exact ⟨((HW2.out).cell (p := ⟨w.heap.size, 0, none⟩) hlt0).trans a0, ((HW2.out).cell (p := ⟨w.heap.size, 1, none⟩) hlt0).trans a1, ((HW2.out).cell (p := ⟨w.heap.size, 2, none⟩) hlt0).trans a2⟩
          clear hK K
          try simp only [List.getElem_toArray, List.getElem_cons_succ, List.getElem_cons_zero, Act.put, List.setIfInBounds_toArray, List.set_cons_zero, List.set_cons_succ]
          refine wpAnyH_ready (rs := [4]) (by kernel_rfl) (by simp) ?_
          refine AllReadyH.cons rfl (fun K hK => ?_) AllReadyH.nil
          go_simp
          refine hK.out _ _ ?_ (fun hHeld => ?_)
          · exact ⟨(((HW2.out.alloc HW2.out.size (.cells #[.int .i64 r.day, .int .i64 r.tens, .bool r.wet] 34))).cell (p := ⟨w.heap.size, 0, none⟩) hlt0).trans a0, (((HW2.out.alloc HW2.out.size (.cells #[.int .i64 r.day, .int .i64 r.tens, .bool r.wet] 34))).cell (p := ⟨w.heap.size, 1, none⟩) hlt0).trans a1, (((HW2.out.alloc HW2.out.size (.cells #[.int .i64 r.day, .int .i64 r.tens, .bool r.wet] 34))).cell (p := ⟨w.heap.size, 2, none⟩) hlt0).trans a2⟩
          clear hK K
          try simp only [List.getElem_toArray, List.getElem_cons_succ, List.getElem_cons_zero, Act.put, List.setIfInBounds_toArray, List.set_cons_zero, List.set_cons_succ]
          refine wpAnyH_ready (rs := [5]) (by kernel_rfl) (by simp) ?_
          refine AllReadyH.cons rfl (fun K hK => ?_) AllReadyH.nil
          refine op_appR (xs := xs) (ys := [r]) (.tmp 15) (.tmp 17) rfl rfl rfl HN2.out rfl (HO2.out.below ((Below.refl w2.heap.size w2).alloc (Nat.le_refl _) (.cells #[.int .i64 r.day, .int .i64 r.tens, .bool r.wet] 34)) (Nat.le_refl _)) (Nat.le_trans (Nat.le_trans (by simp; try omega) HS2.out) (by simp)) (RdR.one (Box.new rfl rfl)) (fun e => by cases e) (by simp; omega) ?_
          intro A5 c5 n5 w5 e5 o5 b5 k5
          have HN5 := Go.Lib.hid e5
          have HO5 := Go.Lib.hid o5
          have HW5 := Go.Lib.hid (show Below W1.heap.size W1 w5 from (HW2.out.trans ((((Below.refl w2.heap.size w2).alloc (Nat.le_refl _) (.cells #[.int .i64 r.day, .int .i64 r.tens, .bool r.wet] 34))).mono HW2.out.size)).trans (b5.mono (by simp)))
          have HLO := Go.Lib.hid (show w.heap.size ≤ W1.drew.heap.size by have := HB1.out.size; simp; omega)
          clear o5 b5 e5 k5
          refine hK.out _ _ ?_ (fun hHeld => ?_)
          · exact ⟨((HW5.out).cell (p := ⟨w.heap.size, 0, none⟩) hlt0).trans a0, ((HW5.out).cell (p := ⟨w.heap.size, 1, none⟩) hlt0).trans a1, ((HW5.out).cell (p := ⟨w.heap.size, 2, none⟩) hlt0).trans a2⟩
          clear hK K
          try simp only [List.getElem_toArray, List.getElem_cons_succ, List.getElem_cons_zero, Act.put, List.setIfInBounds_toArray, List.set_cons_zero, List.set_cons_succ]
          refine wpAnyH_take (i := 6) (v := ?vs3) rfl (by kernel_rfl) (by kernel_rfl) (by kernel_rfl) (fun _ _ _ h => h) (Or.inl ⟨by rfl, ?hys3⟩) (by assumption) ?rests3
          case hys3 => (intro w hSw; (try dsimp only at hSw); go_simp; try with_reducible rfl)
          try simp only [List.getElem_toArray, List.getElem_cons_succ, List.getElem_cons_zero, Act.put, List.setIfInBounds_toArray, List.set_cons_zero, List.set_cons_succ]
          refine wpAnyH_done (by kernel_rfl) ?_ _
          have HB5 := Go.Lib.hid (upB HB1.out HW5.out)
          have HA5 := Go.Lib.hid (HN5.out ▸ specAreRides (xs ++ [r]) A5 c5 w5 (Lr.of HO5.out.rd HO5.out.le (by simp; omega)) : Calls Try.prog 38 #[.slice A5 n5 c5] w5 (IsB w5 (ridesB (xs ++ [r]))))
          have HOF := Go.Lib.hid (fun (w6 : World) (hb : Below w5.heap.size w5 w6) => (HO5.out.below hb (Nat.le_refl _)).raise hb.size |>.lower HLO.out)
          clear a0 a1 a2
          generalize xs ++ [r] = ys at *
          generalize ridesB ys = v at *
          cases v
          case false =>
            go_wp2_with fail
            refine HA5.out.mono ?_
            rintro _ w6 ⟨rfl, b6⟩
            have HB6 := Go.Lib.hid (upB HB5.out b6)
            clear b6
            go_wp2_with fail
            go_ret2
            rw [HV.out]
            exact ⟨none, 0, rfl, OwR.nil _ _ _ _, HB6.out⟩
          case true =>
            go_wp2_with fail
            refine HA5.out.mono ?_
            rintro _ w6 ⟨rfl, b6⟩
            have HB6 := Go.Lib.hid (upB HB5.out b6)
            have HO6 := Go.Lib.hid (HOF.out w6 b6)
            clear b6
            go_wp2_with fail
            go_ret2
            rw [HV.out]
            exact ⟨A5, c5, by rw [HN5.out]; rfl, HO6.out, HB6.out⟩
        · go_simp
          refine hK.out _ _ ?_ (fun hHeld => ?_)
          · exact ⟨(((((Below.refl W1.heap.size W1).drew.alloc (by simp) (.cells #[] 34)).alloc (by simp) (.cells #[.int .i64 r.day, .int .i64 r.tens, .bool r.wet] 34))).cell (p := ⟨w.heap.size, 0, none⟩) hlt0).trans a0, (((((Below.refl W1.heap.size W1).drew.alloc (by simp) (.cells #[] 34)).alloc (by simp) (.cells #[.int .i64 r.day, .int .i64 r.tens, .bool r.wet] 34))).cell (p := ⟨w.heap.size, 1, none⟩) hlt0).trans a1, (((((Below.refl W1.heap.size W1).drew.alloc (by simp) (.cells #[] 34)).alloc (by simp) (.cells #[.int .i64 r.day, .int .i64 r.tens, .bool r.wet] 34))).cell (p := ⟨w.heap.size, 2, none⟩) hlt0).trans a2⟩
          clear hK K
          try simp only [List.getElem_toArray, List.getElem_cons_succ, List.getElem_cons_zero, Act.put, List.setIfInBounds_toArray, List.set_cons_zero, List.set_cons_succ]
          refine wpAnyH_ready (rs := [2]) (by kernel_rfl) (by simp) ?_
          refine AllReadyH.cons rfl (fun K hK => ?_) AllReadyH.nil
          refine op_appR (xs := []) (ys := xs) (.tmp 13) (.tmp 14) rfl rfl rfl rfl rfl ((OwR.freshAt (W := W1.drew) (Nat.le_refl _) (q := W1.heap.size) (by simp) 34).below ((Below.refl _ _).alloc (Nat.le_refl _) (.cells #[.int .i64 r.day, .int .i64 r.tens, .bool r.wet] 34)) (Nat.le_refl _)) (by simp; try omega) ((HL1.out.below (((Below.refl W1.heap.size W1).drew.alloc (by simp) (.cells #[] 34)).alloc (by simp) (.cells #[.int .i64 r.day, .int .i64 r.tens, .bool r.wet] 34))).rd) HA.out (by have := HL1.out.few; simpa using this) ?_
          intro A2 c2 n2 w2 e2 o2 b2 k2
          have HN2 := Go.Lib.hid (show xs.length = n2 by rw [e2]; rfl)
          have HO2 := Go.Lib.hid (show OwR w2 W1.drew.heap.size w2.heap.size 34 A2 c2 xs from o2)
          have HW2 := Go.Lib.hid (show Below W1.heap.size W1 w2 from (((Below.refl W1.heap.size W1).drew.alloc (by simp) (.cells #[] 34)).alloc (by simp) (.cells #[.int .i64 r.day, .int .i64 r.tens, .bool r.wet] 34)).trans (b2.mono (by simp)))
          have HS2 := Go.Lib.hid (show ((W1.drew.alloc (.cells #[] 34)).alloc (.cells #[.int .i64 r.day, .int .i64 r.tens, .bool r.wet] 34)).heap.size ≤ w2.heap.size from b2.size)
          have HN4 := Go.Lib.hid (show Box w2 (W1.heap.size + 1) (ridC r) from box_blk (Box.new (w := (W1.drew.alloc (.cells #[] 34))) (q := W1.heap.size + 1) (cs := #[.int .i64 r.day, .int .i64 r.tens, .bool r.wet]) (t := 34) (by simp) rfl) (k2 _ (by simp; try omega) (by simp [Value.ownBlock]; try omega)) (by have := b2.size; simp at this ⊢; omega))
          clear o2 b2 e2 k2
          refine hK.out _ _ ?_ (fun hHeld => ?_)
          · exact ⟨((HW2.out).cell (p := ⟨w.heap.size, 0, none⟩) hlt0).trans a0, ((HW2.out).cell (p := ⟨w.heap.size, 1, none⟩) hlt0).trans a1, ((HW2.out).cell (p := ⟨w.heap.size, 2, none⟩) hlt0).trans a2⟩
          clear hK K
          try simp only [List.getElem_toArray, List.getElem_cons_succ, List.getElem_cons_zero, Act.put, List.setIfInBounds_toArray, List.set_cons_zero, List.set_cons_succ]
          refine wpAnyH_ready (rs := [5]) (by kernel_rfl) (by simp) ?_
          refine AllReadyH.cons rfl (fun K hK => ?_) AllReadyH.nil
          refine op_appR (xs := xs) (ys := [r]) (.tmp 15) (.tmp 17) rfl rfl rfl HN2.out rfl HO2.out (Nat.le_trans (by simp; try omega) HS2.out) (RdR.one HN4.out) (fun e => by cases e) (by simp; omega) ?_
          intro A5 c5 n5 w5 e5 o5 b5 k5
          have HN5 := Go.Lib.hid e5
          have HO5 := Go.Lib.hid o5
          have HW5 := Go.Lib.hid (show Below W1.heap.size W1 w5 from HW2.out.trans (b5.mono (by simp)))
          have HLO := Go.Lib.hid (show w.heap.size ≤ W1.drew.heap.size by have := HB1.out.size; simp; omega)
          clear o5 b5 e5 k5
          refine hK.out _ _ ?_ (fun hHeld => ?_)
          · exact ⟨((HW5.out).cell (p := ⟨w.heap.size, 0, none⟩) hlt0).trans a0, ((HW5.out).cell (p := ⟨w.heap.size, 1, none⟩) hlt0).trans a1, ((HW5.out).cell (p := ⟨w.heap.size, 2, none⟩) hlt0).trans a2⟩
          clear hK K
          try simp only [List.getElem_toArray, List.getElem_cons_succ, List.getElem_cons_zero, Act.put, List.setIfInBounds_toArray, List.set_cons_zero, List.set_cons_succ]
          refine wpAnyH_take (i := 6) (v := ?vs4) rfl (by kernel_rfl) (by kernel_rfl) (by kernel_rfl) (fun _ _ _ h => h) (Or.inl ⟨by rfl, ?hys4⟩) (by assumption) ?rests4
          case hys4 => (intro w hSw; (try dsimp only at hSw); go_simp; try with_reducible rfl)
          try simp only [List.getElem_toArray, List.getElem_cons_succ, List.getElem_cons_zero, Act.put, List.setIfInBounds_toArray, List.set_cons_zero, List.set_cons_succ]
          refine wpAnyH_done (by kernel_rfl) ?_ _
          have HB5 := Go.Lib.hid (upB HB1.out HW5.out)
          have HA5 := Go.Lib.hid (HN5.out ▸ specAreRides (xs ++ [r]) A5 c5 w5 (Lr.of HO5.out.rd HO5.out.le (by simp; omega)) : Calls Try.prog 38 #[.slice A5 n5 c5] w5 (IsB w5 (ridesB (xs ++ [r]))))
          have HOF := Go.Lib.hid (fun (w6 : World) (hb : Below w5.heap.size w5 w6) => (HO5.out.below hb (Nat.le_refl _)).raise hb.size |>.lower HLO.out)
          clear a0 a1 a2
          generalize xs ++ [r] = ys at *
          generalize ridesB ys = v at *
          cases v
          case false =>
            go_wp2_with fail
            refine HA5.out.mono ?_
            rintro _ w6 ⟨rfl, b6⟩
            have HB6 := Go.Lib.hid (upB HB5.out b6)
            clear b6
            go_wp2_with fail
            go_ret2
            rw [HV.out]
            exact ⟨none, 0, rfl, OwR.nil _ _ _ _, HB6.out⟩
          case true =>
            go_wp2_with fail
            refine HA5.out.mono ?_
            rintro _ w6 ⟨rfl, b6⟩
            have HB6 := Go.Lib.hid (upB HB5.out b6)
            have HO6 := Go.Lib.hid (HOF.out w6 b6)
            clear b6
            go_wp2_with fail
            go_ret2
            rw [HV.out]
            exact ⟨A5, c5, by rw [HN5.out]; rfl, HO6.out, HB6.out⟩
      · go_simp
        refine hK.out _ _ ?_ (fun hHeld => ?_)
        · exact ⟨((((Below.refl W1.heap.size W1).drew.alloc (by simp) (.cells #[.int .i64 r.day, .int .i64 r.tens, .bool r.wet] 34))).cell (p := ⟨w.heap.size, 0, none⟩) hlt0).trans a0, ((((Below.refl W1.heap.size W1).drew.alloc (by simp) (.cells #[.int .i64 r.day, .int .i64 r.tens, .bool r.wet] 34))).cell (p := ⟨w.heap.size, 1, none⟩) hlt0).trans a1, ((((Below.refl W1.heap.size W1).drew.alloc (by simp) (.cells #[.int .i64 r.day, .int .i64 r.tens, .bool r.wet] 34))).cell (p := ⟨w.heap.size, 2, none⟩) hlt0).trans a2⟩
        clear hK K
        try simp only [List.getElem_toArray, List.getElem_cons_succ, List.getElem_cons_zero, Act.put, List.setIfInBounds_toArray, List.set_cons_zero, List.set_cons_succ]
        refine wpAnyH_ready (rs := [0]) (by kernel_rfl) (by simp) ?_
        refine AllReadyH.cons rfl (fun K hK => ?_) AllReadyH.nil
        go_simp
        refine hK.out _ _ ?_ (fun hHeld => ?_)
        · exact ⟨(((((Below.refl W1.heap.size W1).drew.alloc (by simp) (.cells #[.int .i64 r.day, .int .i64 r.tens, .bool r.wet] 34)).alloc (by simp) (.cells #[] 34))).cell (p := ⟨w.heap.size, 0, none⟩) hlt0).trans a0, (((((Below.refl W1.heap.size W1).drew.alloc (by simp) (.cells #[.int .i64 r.day, .int .i64 r.tens, .bool r.wet] 34)).alloc (by simp) (.cells #[] 34))).cell (p := ⟨w.heap.size, 1, none⟩) hlt0).trans a1, (((((Below.refl W1.heap.size W1).drew.alloc (by simp) (.cells #[.int .i64 r.day, .int .i64 r.tens, .bool r.wet] 34)).alloc (by simp) (.cells #[] 34))).cell (p := ⟨w.heap.size, 2, none⟩) hlt0).trans a2⟩
        clear hK K
        try simp only [List.getElem_toArray, List.getElem_cons_succ, List.getElem_cons_zero, Act.put, List.setIfInBounds_toArray, List.set_cons_zero, List.set_cons_succ]
        refine wpAnyH_ready (rs := [2]) (by kernel_rfl) (by simp) ?_
        refine AllReadyH.cons rfl (fun K hK => ?_) AllReadyH.nil
        refine op_appR (xs := []) (ys := xs) (.tmp 13) (.tmp 14) rfl rfl rfl rfl rfl (OwR.freshAt (W := (W1.drew.alloc (.cells #[.int .i64 r.day, .int .i64 r.tens, .bool r.wet] 34))) (Nat.le_refl _) (q := W1.heap.size + 1) (by simp) 34) (by simp; try omega) ((HL1.out.below (((Below.refl W1.heap.size W1).drew.alloc (by simp) (.cells #[.int .i64 r.day, .int .i64 r.tens, .bool r.wet] 34)).alloc (by simp) (.cells #[] 34))).rd) HA.out (by have := HL1.out.few; simpa using this) ?_
        intro A2 c2 n2 w2 e2 o2 b2 k2
        have HN2 := Go.Lib.hid (show xs.length = n2 by rw [e2]; rfl)
        have HO2 := Go.Lib.hid (show OwR w2 (W1.drew.alloc (.cells #[.int .i64 r.day, .int .i64 r.tens, .bool r.wet] 34)).heap.size w2.heap.size 34 A2 c2 xs from o2)
        have HW2 := Go.Lib.hid (show Below W1.heap.size W1 w2 from (((Below.refl W1.heap.size W1).drew.alloc (by simp) (.cells #[.int .i64 r.day, .int .i64 r.tens, .bool r.wet] 34)).alloc (by simp) (.cells #[] 34)).trans (b2.mono (by simp)))
        have HS2 := Go.Lib.hid (show ((W1.drew.alloc (.cells #[.int .i64 r.day, .int .i64 r.tens, .bool r.wet] 34)).alloc (.cells #[] 34)).heap.size ≤ w2.heap.size from b2.size)
        have HN4 := Go.Lib.hid (show Box w2 (W1.heap.size) (ridC r) from box_lo ((Box.new (w := W1.drew) (q := W1.heap.size) (cs := #[.int .i64 r.day, .int .i64 r.tens, .bool r.wet]) (t := 34) (by simp) rfl).alloc (.cells #[] 34)) (by simp) b2)
        clear o2 b2 e2 k2
        refine hK.out _ _ ?_ (fun hHeld => ?_)
        · exact ⟨((HW2.out).cell (p := ⟨w.heap.size, 0, none⟩) hlt0).trans a0, ((HW2.out).cell (p := ⟨w.heap.size, 1, none⟩) hlt0).trans a1, ((HW2.out).cell (p := ⟨w.heap.size, 2, none⟩) hlt0).trans a2⟩
        clear hK K
        try simp only [List.getElem_toArray, List.getElem_cons_succ, List.getElem_cons_zero, Act.put, List.setIfInBounds_toArray, List.set_cons_zero, List.set_cons_succ]
        refine wpAnyH_ready (rs := [5]) (by kernel_rfl) (by simp) ?_
        refine AllReadyH.cons rfl (fun K hK => ?_) AllReadyH.nil
        refine op_appR (xs := xs) (ys := [r]) (.tmp 15) (.tmp 17) rfl rfl rfl HN2.out rfl HO2.out (Nat.le_trans (by simp; try omega) HS2.out) (RdR.one HN4.out) (fun e => by cases e) (by simp; omega) ?_
        intro A5 c5 n5 w5 e5 o5 b5 k5
        have HN5 := Go.Lib.hid e5
        have HO5 := Go.Lib.hid o5
        have HW5 := Go.Lib.hid (show Below W1.heap.size W1 w5 from HW2.out.trans (b5.mono (by simp)))
        have HLO := Go.Lib.hid (show w.heap.size ≤ (W1.drew.alloc (.cells #[.int .i64 r.day, .int .i64 r.tens, .bool r.wet] 34)).heap.size by have := HB1.out.size; simp; omega)
        clear o5 b5 e5 k5
        refine hK.out _ _ ?_ (fun hHeld => ?_)
        · exact ⟨((HW5.out).cell (p := ⟨w.heap.size, 0, none⟩) hlt0).trans a0, ((HW5.out).cell (p := ⟨w.heap.size, 1, none⟩) hlt0).trans a1, ((HW5.out).cell (p := ⟨w.heap.size, 2, none⟩) hlt0).trans a2⟩
        clear hK K
        try simp only [List.getElem_toArray, List.getElem_cons_succ, List.getElem_cons_zero, Act.put, List.setIfInBounds_toArray, List.set_cons_zero, List.set_cons_succ]
        refine wpAnyH_take (i := 6) (v := ?vs5) rfl (by kernel_rfl) (by kernel_rfl) (by kernel_rfl) (fun _ _ _ h => h) (Or.inl ⟨by rfl, ?hys5⟩) (by assumption) ?rests5
        case hys5 => (intro w hSw; (try dsimp only at hSw); go_simp; try with_reducible rfl)
        try simp only [List.getElem_toArray, List.getElem_cons_succ, List.getElem_cons_zero, Act.put, List.setIfInBounds_toArray, List.set_cons_zero, List.set_cons_succ]
        refine wpAnyH_done (by kernel_rfl) ?_ _
        have HB5 := Go.Lib.hid (upB HB1.out HW5.out)
        have HA5 := Go.Lib.hid (HN5.out ▸ specAreRides (xs ++ [r]) A5 c5 w5 (Lr.of HO5.out.rd HO5.out.le (by simp; omega)) : Calls Try.prog 38 #[.slice A5 n5 c5] w5 (IsB w5 (ridesB (xs ++ [r]))))
        have HOF := Go.Lib.hid (fun (w6 : World) (hb : Below w5.heap.size w5 w6) => (HO5.out.below hb (Nat.le_refl _)).raise hb.size |>.lower HLO.out)
        clear a0 a1 a2
        generalize xs ++ [r] = ys at *
        generalize ridesB ys = v at *
        cases v
        case false =>
          go_wp2_with fail
          refine HA5.out.mono ?_
          rintro _ w6 ⟨rfl, b6⟩
          have HB6 := Go.Lib.hid (upB HB5.out b6)
          clear b6
          go_wp2_with fail
          go_ret2
          rw [HV.out]
          exact ⟨none, 0, rfl, OwR.nil _ _ _ _, HB6.out⟩
        case true =>
          go_wp2_with fail
          refine HA5.out.mono ?_
          rintro _ w6 ⟨rfl, b6⟩
          have HB6 := Go.Lib.hid (upB HB5.out b6)
          have HO6 := Go.Lib.hid (HOF.out w6 b6)
          clear b6
          go_wp2_with fail
          go_ret2
          rw [HV.out]
          exact ⟨A5, c5, by rw [HN5.out]; rfl, HO6.out, HB6.out⟩
end Go.Proofs.Ytbjoekbgejfebaa
