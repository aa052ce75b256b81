/- The laws' own helpers on rides and lists of rides: toRide, toRideS, szRideS, eqRide, eqRideS, markRideS, heldRideS. -/
import Derived.Test.YtbjoekbgejfebaaRideM
import Derived.ChangeArms
import Derived.Deep.RegionHeld3
namespace Go.Proofs.Ytbjoekbgejfebaa
open Go.RowKit
set_option linter.unusedSimpArgs false
set_option linter.unusedVariables false

set_option maxRecDepth 100000 in
theorem law_toRide (r : Rid) (w : World) : Calls Try.prog 41 #[ridV r] w (IsV w (ridV r)) := by
  unfold ridV
  go_enter Try.func41, Try.ntmps41
  go_wp2_with fail
  refine bodyPost_ret (v := ridV r) (by simp [results, Try.results41, go_sem, ridV]) rfl ⟨rfl, by go_grown⟩
set_option maxRecDepth 100000 in
set_option maxHeartbeats 4000000 in
theorem law_szRides (A : Option Addr) (n c : Nat) (l : Int) (w : World) (h0 : 0 ≤ l) (h1 : l ≤ 1048576) (hn : n ≤ maxLen) :
    Calls Try.prog 37 #[.slice A n c, .int .i64 l] w (IsV w (.int .i64 (if l - n < 0 then -1 else l - n))) := by
  unfold maxLen at hn
  have e : IntKind.i64.wrap (l - n) = l - n := IntWalk.i64_in _ (by omega)
  by_cases hl : l - n < 0
  case pos =>
    have HV := Go.Lib.hid (show (if l - n < 0 then (-1 : Int) else l - n) = -1 from if_pos hl)
    go_enter Try.func37, Try.ntmps37
    go_wp2_with fail
    go_ret
    exact ⟨by first | rfl | (rw [HV.out]; rfl), by go_grown⟩
  case neg =>
    have HV := Go.Lib.hid (show (if l - n < 0 then (-1 : Int) else l - n) = l - n from if_neg hl)
    go_enter Try.func37, Try.ntmps37
    go_wp2_with fail
    go_ret
    exact ⟨by first | rfl | (rw [HV.out]; rfl), by go_grown⟩
theorem infoRide : (Try.prog.info? 34).map (fun i => (i.zero, i.size, i.bytes)) = some (some (ridV rid0), 3, 24) := by kernel_rfl
/-- What a call leaves that hands back a new list of rides. -/
def NewR (xs : List Rid) (w : World) (e : Ending) (w' : World) : Prop :=
  ∃ A cap, e = .returned (.slice A xs.length cap) ∧ OwR w' w.heap.size w'.heap.size 34 A cap xs ∧ Below w.heap.size w w'
/-- A copy in the making: the first k are there. -/
def AsR (w : World) (g n : Nat) (xs : List Rid) (k : Nat) (wr : World) : Prop :=
  ∃ ys : List Rid, ys.length = n ∧ OwR wr w.heap.size wr.heap.size 34 (some ⟨g, 0, none⟩) n ys ∧ (∀ j, j < k → ys.getD j rid0 = xs.getD j rid0) ∧ Below w.heap.size w wr
theorem AsR.step {w wr w2 : World} {g n k : Nat} {xs : List Rid} (h : AsR w g n xs k wr) (hk : k < n) (hb : Below wr.heap.size wr w2) : AsR w g n xs (k + 1) (put3 w2 g (k * 3) (xs.getD k rid0)) := by
  obtain ⟨ys, hl, ho, hx, hB⟩ := h
  obtain ⟨g', e, p, q, r⟩ := ho.form (by omega)
  have : g' = g := by injection e with e; injection e with e; exact e.symm
  subst this
  have ho2 := (ho.below hb (Nat.le_refl _)).raise hb.size
  refine ⟨ys.set k (xs.getD k rid0), by simp [hl], ?_, fun j hj => ?_, below_put3 (hB.trans (hb.mono hB.size)) p _⟩
  · have := ho2.put (k := k) (by omega) (xs.getD k rid0)
    exact ⟨this.1, fun g1 h1 => by
      have := this.2 g1 h1
      simpa [put3, World.setCell] using this⟩
  · by_cases he : j = k
    · subst he
      simp [List.getD, hl, hk]
    · have := hx j (by omega)
      simp only [List.getD_eq_getElem?_getD] at this ⊢
      rw [List.getElem?_set_ne (by omega)]
      exact this
theorem list_eq {xs ys : List Rid} (hl : ys.length = xs.length) (h : ∀ j, j < xs.length → ys.getD j rid0 = xs.getD j rid0) : ys = xs := by
  apply List.ext_getElem hl
  intro j h1 h2
  have := h j h2
  simpa [List.getD, h1, h2] using this
theorem AsR.done {w wr : World} {g n : Nat} {xs : List Rid} (h : AsR w g n xs n wr) (hn : xs.length = n) : NewR xs w (.returned (.slice (some ⟨g, 0, none⟩) n n)) wr := by
  obtain ⟨ys, hl, ho, hx, hb⟩ := h
  subst hn
  obtain rfl := list_eq hl hx
  exact ⟨_, _, rfl, ho, hb⟩
theorem made_rides (n : Nat) : (madeCells (ridV rid0).cells (n * 3)).toList = rids (List.replicate n rid0) := by
  refine ext_of (by rw [rids_len]; simp [madeCells]) fun j hj => ?_
  have hj2 : j < n * 3 := by simpa [madeCells] using hj
  obtain ⟨i, c, rfl, hc⟩ : ∃ i c, j = i * 3 + c ∧ c < 3 := ⟨j / 3, j % 3, by omega, by omega⟩
  have hi : i < n := by omega
  rw [rids_at (by rw [List.length_replicate]; exact hi) hc]
  have hg : (List.replicate n rid0).getD i rid0 = rid0 := by simp [List.getD, hi]
  rw [hg]
  have hm : (i * 3 + c) % 3 = c := by omega
  generalize i * 3 + c = j at hj2 hm ⊢
  clear hj hg
  have h3 : c = 0 ∨ c = 1 ∨ c = 2 := by omega
  rcases h3 with rfl | rfl | rfl <;> simp [madeCells, hj2, ridV, ridC, rid0, Value.cells, hm]
set_option maxRecDepth 100000 in
set_option maxHeartbeats 8000000 in
theorem toRides (xs : List Rid) (A : Option Addr) (cap : Nat) (w : World) (h : RdR w 0 w.heap.size A xs) (hn : xs.length ≤ 1048576) :
    Calls Try.prog 39 #[.slice A xs.length cap] w (NewR xs w) := by
  obtain ⟨i0, hi, hz0, hz1, hz2⟩ := info_parts infoRide
  have HR := Go.Lib.hid (fun w0 r => law_toRide r w0)
  unfold ridV at HR
  obtain ⟨n, hz⟩ : ∃ n, xs.length = n := ⟨_, rfl⟩
  have HZ := Go.Lib.hid hz
  rw [hz] at hn ⊢
  clear hz
  go_enter Try.func39, Try.ntmps39
  go_wp2_with (at_make; refine wpList_make_full _ rfl _ _ 24 rfl w.heap.size 34 i0 (ridV rid0) 3 Try.underlying24 hi hz0 hz1 .i64 .i64 _ _ n rfl rfl rfl rfl (by rw [hz2]; omega) (by unfold maxLen; omega) (Nat.le_refl _) ?_; intro w1 hown hg)
  have h0 : AsR w w.heap.size n xs 0 w1 := by
    have hs : w.heap.size < w1.heap.size := (hown.lt w.heap.size rfl).2
    have hown2 : w1.ownsRow w.heap.size 34 3 (.slice (some ⟨w.heap.size, 0, none⟩) n n) n (rids (List.replicate n rid0)) := by rw [← made_rides]; exact hown
    exact ⟨List.replicate n rid0, by simp, ⟨by rw [List.length_replicate]; exact hown2, fun g hg' => by rw [← show w.heap.size = g by simpa [Value.ownBlock] using hg']; exact hs⟩, fun j hj => absurd hj (by omega), (Below.refl _ _).grown hg (Nat.le_refl _) (by simp)⟩
  clear hown hg hz0 hz1 hz2
  go_wp2_with fail
  go_loopw [4] (fun i wr => ∃ k : Nat, k ≤ n ∧ i = .int .i64 k ∧ AsR w w.heap.size n xs k wr) (fun i _ => n - (intOf i).toNat)
  case atStart => exact ⟨0, Nat.zero_le _, rfl, h0⟩
  case round =>
    obtain ⟨k, hk, rfl, hk2⟩ := hrel
    clear h0
    by_cases hlt : k < n
    · obtain ⟨b, off, rfl, p, q, hc⟩ := h.at_ (k := k) (by rw [HZ.out]; exact hlt)
      have HST := Go.Lib.hid (fun w2 hb => hk2.step (w2 := w2) hlt hb)
      obtain ⟨c0, c1, c2⟩ := hc k (by rw [HZ.out]; exact hlt)
      obtain ⟨ys, hl, ho, hx, hb⟩ := hk2
      have d0 := (hb.cell (p := ⟨b, off + k * 3, none⟩) q).trans c0
      have d1 := (hb.cell (p := ⟨b, off + k * 3 + 1, none⟩) q).trans c1
      have d2 := (hb.cell (p := ⟨b, off + k * 3 + 2, none⟩) q).trans c2
      obtain ⟨g', e, hg1, hg2, hg3⟩ := ho.form (by omega)
      have : g' = w.heap.size := by injection e with e; injection e with e; exact e.symm
      subst this
      have hcells := fun j (hj : j < n * 3) => (ho.1.cellAt (g := w.heap.size) j (by first | (rw [rids_len, hl]; exact hj) | (rw [hl]; exact hj)))
      have hu : ∀ j, j < n * 3 → ∃ u, wr.cell? ⟨w.heap.size, j, none⟩ = some u := fun j hj => ⟨(rids ys)[j]'(by rw [rids_len, hl]; exact hj), (hcells j hj).trans (List.getElem?_eq_getElem (by rw [rids_len, hl]; exact hj))⟩
      obtain ⟨u0, hu0⟩ := hu (k * 3) (by omega)
      obtain ⟨u1, hu1⟩ := hu (k * 3 + 1) (by omega)
      obtain ⟨u2, hu2⟩ := hu (k * 3 + 2) (by omega)
      have hfr := fun j => ho.free (g := w.heap.size) j
      have hki : (k : Int) < n := by omega
      obtain ⟨r, hr⟩ : ∃ r, xs.getD k rid0 = r := ⟨_, rfl⟩
      rw [hr] at d0 d1 d2 HST
      clear ho hx hb hc c0 c1 c2 h hcells hu hr e
      go_wp2_with fail
      refine (HR.out _ r).mono ?_
      rintro _ w2 ⟨rfl, b2⟩
      have HS2 := Go.Lib.hid (HST.out w2 b2)
      have f0 := (b2.cell (p := ⟨w.heap.size, k * 3, none⟩) hg3).trans hu0
      have f1 := (b2.cell (p := ⟨w.heap.size, k * 3 + 1, none⟩) hg3).trans hu1
      have f2 := (b2.cell (p := ⟨w.heap.size, k * 3 + 2, none⟩) hg3).trans hu2
      have hfr2 : ∀ j, w2.frozen? ⟨w.heap.size, j, none⟩ = false := fun j => (b2.frozen (p := ⟨w.heap.size, j, none⟩) hg3).trans (hfr j)
      clear HST b2 hu0 hu1 hu2 hfr d0 d1 d2
      go_wp2_with fail
      go_roundw
      case rel => exact ⟨k + 1, by omega, by go_num, HS2.out⟩
      case measure => simp [intOf]; omega
    · obtain rfl : k = n := by omega
      have HD := Go.Lib.hid (hk2.done HZ.out)
      clear hk2
      go_wp2_with fail
      go_ret
      exact HD.out
set_option maxRecDepth 100000 in
set_option maxHeartbeats 4000000 in
theorem law_eqRide (r : Rid) (w : World) : Calls Try.prog 69 #[ridV r, ridV r] w (IsV w (.bool true)) := by
  have h0 : (r.day != r.day) = false := by simp
  have h1 : (r.tens != r.tens) = false := by simp
  have h2 : (r.wet != r.wet) = false := by simp
  have HX0 := Go.Lib.hid (show Box ((w.alloc (.cells #[.int .i64 r.day, .int .i64 r.tens, .bool r.wet] 34)).alloc (.cells #[.int .i64 r.day, .int .i64 r.tens, .bool r.wet] 34)) w.heap.size (ridC r) from (Box.new rfl rfl : Box (w.alloc (.cells #[.int .i64 r.day, .int .i64 r.tens, .bool r.wet] 34)) w.heap.size (ridC r)).alloc _)
  have HY0 := Go.Lib.hid (show Box ((w.alloc (.cells #[.int .i64 r.day, .int .i64 r.tens, .bool r.wet] 34)).alloc (.cells #[.int .i64 r.day, .int .i64 r.tens, .bool r.wet] 34)) (w.heap.size + 1) (ridC r) from Box.new (by simp) rfl)
  have HB0 := Go.Lib.hid (show Below w.heap.size w ((w.alloc (.cells #[.int .i64 r.day, .int .i64 r.tens, .bool r.wet] 34)).alloc (.cells #[.int .i64 r.day, .int .i64 r.tens, .bool r.wet] 34)) from ((Below.refl _ _).alloc (Nat.le_refl _) _).alloc (by simp) _)
  unfold ridV
  go_enter Try.func69, Try.ntmps69
  go_upto_region 1 with fail
  refine wp_gen (R := fun W => Box W w.heap.size (ridC r) ∧ Box W (w.heap.size + 1) (ridC r) ∧ Below w.heap.size w W) ⟨HX0.out, HY0.out, HB0.out⟩ ?_
  rintro W ⟨hx, hy, hb⟩
  clear HX0 HY0 HB0
  have HB := Go.Lib.hid hb
  have a0 := hx.at_ 0 _ rfl
  have a1 := hx.at_ 1 _ rfl
  have a2 := hx.at_ 2 _ rfl
  have b0 := hy.at_ 0 _ rfl
  have b1 := hy.at_ 1 _ rfl
  have b2 := hy.at_ 2 _ rfl
  clear hx hy hb
  go_wp2_with fail
  go_ret
  exact ⟨rfl, by first | exact HB.out | exact below_drewN HB.out _⟩
/-- Two rides in memory, alike, and what lies between. -/
structure At2 (r : Rid) (b1 o1 b2 o2 : Nat) (w wr : World) : Prop where
  b : Below w.heap.size w wr
  l1 : b1 < wr.heap.size
  l2 : b2 < wr.heap.size
  cells : wr.cell? ⟨b1, o1, none⟩ = some (.int .i64 r.day) ∧ wr.cell? ⟨b1, o1 + 1, none⟩ = some (.int .i64 r.tens) ∧ wr.cell? ⟨b1, o1 + 2, none⟩ = some (.bool r.wet) ∧ wr.cell? ⟨b2, o2, none⟩ = some (.int .i64 r.day) ∧ wr.cell? ⟨b2, o2 + 1, none⟩ = some (.int .i64 r.tens) ∧ wr.cell? ⟨b2, o2 + 2, none⟩ = some (.bool r.wet)
theorem At2.next {r : Rid} {b1 o1 b2 o2 : Nat} {w wr w1 : World} (h : At2 r b1 o1 b2 o2 w wr) (k : Below wr.heap.size wr w1) : At2 r b1 o1 b2 o2 w w1 := by
  obtain ⟨a, p, q, c0, c1, c2, d0, d1, d2⟩ := h
  exact ⟨upB a k, Nat.lt_of_lt_of_le p k.size, Nat.lt_of_lt_of_le q k.size, (bcell k _ _ p).trans c0, (bcell k _ _ p).trans c1, (bcell k _ _ p).trans c2, (bcell k _ _ q).trans d0, (bcell k _ _ q).trans d1, (bcell k _ _ q).trans d2⟩
theorem At2.drew {r : Rid} {b1 o1 b2 o2 : Nat} {w wr : World} (h : At2 r b1 o1 b2 o2 w wr) : At2 r b1 o1 b2 o2 w wr.drew := ⟨h.b.drew, h.l1, h.l2, h.cells⟩

set_option maxRecDepth 100000 in
set_option maxHeartbeats 8000000 in
theorem eqRides (xs : List Rid) (A B : Option Addr) (c d : Nat) (w : World) (la ha lb hb : Nat) (h1 : RdR w la ha A xs) (h2 : RdR w lb hb B xs) (hn : xs.length ≤ 1048576) :
    Calls Try.prog 40 #[.slice A xs.length c, .slice B xs.length d] w (IsV w (.bool true)) := by
  have HE := Go.Lib.hid (fun w0 r => law_eqRide r w0)
  unfold ridV at HE
  have h1 := Rd.here h1
  have h2 := Rd.here h2
  obtain ⟨n, hz⟩ : ∃ n, xs.length = n := ⟨_, rfl⟩
  have HZ := Go.Lib.hid hz
  rw [hz] at hn ⊢
  clear hz
  have hq : ((n : Int) != (n : Int)) = false := by simp
  go_enter Try.func40, Try.ntmps40
  go_wp2_with fail
  go_loopw [5] (fun i wr => ∃ k : Nat, k ≤ n ∧ i = .int .i64 k ∧ Below w.heap.size w wr) (fun i _ => n - (intOf i).toNat)
  case atStart => exact ⟨0, Nat.zero_le _, rfl, Below.refl _ _⟩
  case round =>
    obtain ⟨k, hk, rfl, hbw⟩ := hrel
    by_cases hlt : k < n
    · obtain ⟨b1, o1, rfl, -, q1, c1⟩ := RdR.at_ (lo := 0) (hi := w.heap.size) (xs := xs) h1 (k := k) (by rw [HZ.out]; exact hlt)
      obtain ⟨b2, o2, rfl, -, q2, c2⟩ := RdR.at_ (lo := 0) (hi := w.heap.size) (xs := xs) h2 (k := k) (by rw [HZ.out]; exact hlt)
      obtain ⟨x0, x1, x2⟩ := c1 k (by rw [HZ.out]; exact hlt)
      obtain ⟨y0, y1, y2⟩ := c2 k (by rw [HZ.out]; exact hlt)
      obtain ⟨r, hr⟩ : ∃ r, xs.getD k rid0 = r := ⟨_, rfl⟩
      rw [hr] at x0 x1 x2 y0 y1 y2
      have C := Go.Lib.hid (show At2 r b1 (o1 + k * 3) b2 (o2 + k * 3) w wr from ⟨hbw, Nat.lt_of_lt_of_le q1 hbw.size, Nat.lt_of_lt_of_le q2 hbw.size, (bcell hbw _ _ q1).trans x0, (bcell hbw _ _ q1).trans x1, (bcell hbw _ _ q1).trans x2, (bcell hbw _ _ q2).trans y0, (bcell hbw _ _ q2).trans y1, (bcell hbw _ _ q2).trans y2⟩)
      have hki : (k : Int) < n := by omega
      clear h1 h2 c1 c2 x0 x1 x2 y0 y1 y2 hbw hr
      go_upto_region 6 with fail
      have e9 := C.out.cells
      go_region_held3 (fun w' => w'.cell? ⟨b1, o1 + k * 3, none⟩ = some (.int .i64 r.day) ∧ w'.cell? ⟨b1, o1 + k * 3 + 1, none⟩ = some (.int .i64 r.tens) ∧ w'.cell? ⟨b1, o1 + k * 3 + 2, none⟩ = some (.bool r.wet) ∧ w'.cell? ⟨b2, o2 + k * 3, none⟩ = some (.int .i64 r.day) ∧ w'.cell? ⟨b2, o2 + k * 3 + 1, none⟩ = some (.int .i64 r.tens) ∧ w'.cell? ⟨b2, o2 + k * 3 + 2, none⟩ = some (.bool r.wet))
        (first | with_reducible exact C.out.cells | with_reducible exact C.out.drew.cells)
        (first | (go_at_call 69; refine (HE.out _ r).mono ?_; rintro _ V1 ⟨rfl, b1⟩; (first | have C := Go.Lib.hid (C.out.next b1) | have C := Go.Lib.hid (C.out.drew.next b1))))
      go_wp2_with fail
      go_roundw
      case rel => exact ⟨k + 1, by omega, by go_num, C.out.b⟩
      case measure => simp [intOf]; omega
    · obtain rfl : k = n := by omega
      go_wp2_with fail
      go_ret
      exact ⟨rfl, hbw⟩
/-- The marks of n rides from k on. -/
def markR (k j : Nat) : Rid := ⟨((k + 3 * j : Nat) : Int), ((k + 3 * j + 1 : Nat) : Int), (((k + 3 * j + 2 : Nat) : Int).tmod 3 == 0)⟩
def marksR (k n : Nat) : List Rid := (List.range n).map (markR k)
theorem marksR_len (k n : Nat) : (marksR k n).length = n := by simp [marksR]
theorem marksR_at (k n j : Nat) (h : j < n) : (marksR k n).getD j rid0 = markR k j := by simp [marksR, h]
/-- Behind markRideS: the next mark, the marks written, nothing else turned. -/
def MarkedR (w : World) (lo hi : Nat) (A : Option Addr) (n cap k : Nat) (e : Ending) (w' : World) : Prop :=
  e = .returned (.int .i64 ((k + 3 * n : Nat) : Int)) ∧ OwR w' lo hi 34 A cap (marksR k n) ∧ Keep lo hi w w'
def MkR (w : World) (lo hi : Nat) (A : Option Addr) (n cap k j : Nat) (wr : World) : Prop :=
  ∃ ys : List Rid, ys.length = n ∧ OwR wr lo hi 34 A cap ys ∧ (∀ i, i < j → ys.getD i rid0 = markR k i) ∧ Keep lo hi w wr
theorem MkR.step {w wr : World} {lo hi g n cap k j : Nat} (h : MkR w lo hi (some ⟨g, 0, none⟩) n cap k j wr) (hj : j < n) :
    MkR w lo hi (some ⟨g, 0, none⟩) n cap k (j + 1) (put3 wr g (j * 3) (markR k j)) := by
  obtain ⟨ys, hl, ho, hx, hb⟩ := h
  obtain ⟨g', e, p, q, r⟩ := ho.form (by omega)
  have : g' = g := by injection e with e; injection e with e; exact e.symm
  subst this
  refine ⟨ys.set j (markR k j), by simp [hl], ho.put (by omega) _, fun i hi2 => ?_, hb.put3 p q _⟩
  by_cases he : i = j
  · subst he
    simp [List.getD, hl, hj]
  · have := hx i (by omega)
    simp only [List.getD_eq_getElem?_getD] at this ⊢
    rw [List.getElem?_set_ne (by omega)]
    exact this
theorem MkR.done {w wr : World} {lo hi n cap k : Nat} {A : Option Addr} (h : MkR w lo hi A n cap k n wr) : MarkedR w lo hi A n cap k (.returned (.int .i64 ((k + 3 * n : Nat) : Int))) wr := by
  obtain ⟨ys, hl, ho, hx, hb⟩ := h
  obtain rfl : ys = marksR k n := list_eq (by rw [marksR_len, hl]) fun j hj => by
    rw [marksR_len] at hj
    rw [hx j hj, marksR_at k n j hj]
  exact ⟨rfl, ho, hb⟩
theorem mark_steps (k j : Nat) (hk : k + 3 * j ≤ 140737488355328) : ∃ m0 m1 m2 m3 : Int, markR k j = ⟨m0, m1, m2.tmod 3 == 0⟩ ∧ ((k + 3 * j : Nat) : Int) = m0 ∧ IntKind.i64.wrap (m0 + 1) = m1 ∧ IntKind.i64.wrap (m1 + 1) = m2 ∧ IntKind.i64.wrap (m2 + 1) = m3 ∧ ((k + 3 * (j + 1) : Nat) : Int) = m3 ∧ IntKind.i64.wrap (m2.tmod 3) = m2.tmod 3 := by
  refine ⟨((k + 3 * j : Nat) : Int), ((k + 3 * j + 1 : Nat) : Int), ((k + 3 * j + 2 : Nat) : Int), ((k + 3 * j + 3 : Nat) : Int), rfl, rfl, ?_, ?_, ?_, by omega, ?_⟩
  · rw [IntWalk.i64_in _ (by omega)]; omega
  · rw [IntWalk.i64_in _ (by omega)]; omega
  · rw [IntWalk.i64_in _ (by omega)]; omega
  · rw [Int.tmod_eq_emod_of_nonneg (by omega)]
    exact IntWalk.i64_in _ (by omega)

set_option maxRecDepth 100000 in
set_option maxHeartbeats 8000000 in
theorem markRides (xs : List Rid) (A : Option Addr) (n cap k : Nat) (lo hi : Nat) (w : World) (h : OwR w lo hi 34 A cap xs) (hl : xs.length = n) (hn : n ≤ 1048576) (hk : k ≤ 1048576) :
    Calls Try.prog 42 #[.slice A n cap, .int .i64 k] w (MarkedR w lo hi A n cap k) := by
  have h0 : MkR w lo hi A n cap k 0 w := ⟨xs, hl, h, fun i hi2 => absurd hi2 (by omega), Keep.refl _ _ _⟩
  clear h hl
  go_enter Try.func42, Try.ntmps42
  go_wp2_with fail
  go_loopw [1, 5] (fun c i wr => ∃ j : Nat, j ≤ n ∧ i = .int .i64 j ∧ c = .int .i64 ((k + 3 * j : Nat) : Int) ∧ MkR w lo hi A n cap k j wr) (fun _ i _ => n - (intOf i).toNat)
  case atStart => exact ⟨0, Nat.zero_le _, rfl, rfl, h0⟩
  case round =>
    obtain ⟨j, hj, rfl, rfl, hm⟩ := hrel
    clear h0
    by_cases hlt : j < n
    · have hst : ∃ g, A = some ⟨g, 0, none⟩ := by obtain ⟨ys, hl, ho, _⟩ := hm; obtain ⟨g, e, _⟩ := ho.form (by omega); exact ⟨g, e⟩
      obtain ⟨g, rfl⟩ := hst
      have HS := Go.Lib.hid (hm.step hlt)
      obtain ⟨ys, hl, ho, hx, hb⟩ := hm
      have hu : ∀ i, i < n * 3 → ∃ u, wr.cell? ⟨g, i, none⟩ = some u := fun i hi2 => ⟨(rids ys)[i]'(by rw [rids_len, hl]; exact hi2), (ho.1.cellAt (g := g) i (by first | (rw [rids_len, hl]; exact hi2) | (rw [hl]; exact hi2))).trans (List.getElem?_eq_getElem (by rw [rids_len, hl]; exact hi2))⟩
      obtain ⟨u0, hu0⟩ := hu (j * 3) (by omega)
      obtain ⟨u1, hu1⟩ := hu (j * 3 + 1) (by omega)
      obtain ⟨u2, hu2⟩ := hu (j * 3 + 2) (by omega)
      have hfr : ∀ i, wr.frozen? ⟨g, i, none⟩ = false := fun i => ho.free (g := g) i
      have hji : (j : Int) < n := by omega
      obtain ⟨m0, m1, m2, m3, hmk, e0, e1, e2, e3, e4, e5⟩ := mark_steps k j (by omega)
      rw [hmk] at HS
      rw [e0]
      have HE := Go.Lib.hid e4
      clear ho hx hb hu hl hmk e0 e4
      go_wp2_with fail
      go_roundw
      case rel => exact ⟨j + 1, by omega, by go_num, by rw [HE.out], HS.out⟩
      case measure => simp [intOf]; omega
    · obtain rfl : j = n := by omega
      have HD := Go.Lib.hid hm.done
      clear hm
      go_wp2_with fail
      go_ret
      exact HD.out
set_option maxRecDepth 100000 in
set_option maxHeartbeats 8000000 in
theorem heldRides (A : Option Addr) (n cap k : Nat) (lo hi : Nat) (w : World) (h : RdR w lo hi A (marksR k n)) (hn : n ≤ 1048576) (hk : k ≤ 1048576) :
    Calls Try.prog 43 #[.slice A n cap, .int .i64 k] w fun e w' => e = .returned (.int .i64 ((k + 3 * n : Nat) : Int)) ∧ w = w' := by
  go_enter Try.func43, Try.ntmps43
  go_wp2_with fail
  go_loop [1, 5] (fun c i => ∃ j : Nat, j ≤ n ∧ i = .int .i64 j ∧ c = .int .i64 ((k + 3 * j : Nat) : Int)) (fun _ i => n - (intOf i).toNat)
  case atStart => exact ⟨0, Nat.zero_le _, rfl, rfl⟩
  case round =>
    obtain ⟨j, hj, rfl, rfl⟩ := hrel
    by_cases hlt : j < n
    · obtain ⟨b, o, rfl, p, q, c⟩ := h.at_ (k := j) (by rw [marksR_len]; exact hlt)
      obtain ⟨c0, c1, c2⟩ := c j (by rw [marksR_len]; exact hlt)
      rw [marksR_at k n j hlt] at c0 c1 c2
      obtain ⟨m0, m1, m2, m3, hmk, e0, e1, e2, e3, e4, e5⟩ := mark_steps k j (by omega)
      rw [hmk] at c0 c1 c2
      dsimp only at c0 c1 c2
      have hji : (j : Int) < n := by omega
      have z0 : (m0 != m0) = false := by simp
      have z1 : (m1 != m1) = false := by simp
      have z2 : ((m2.tmod 3 == 0) != (m2.tmod 3 == 0)) = false := by simp
      rw [e0]
      have HE := Go.Lib.hid e4
      clear c h hmk e0 e4
      go_wp2_with fail
      go_round
      case rel => exact ⟨j + 1, by omega, by go_num, by rw [HE.out]⟩
      case measure => simp [intOf]; omega
    · obtain rfl : j = n := by omega
      go_wp2_with fail
      go_ret
      exact ⟨rfl, rfl⟩
/-- A list of rides of the call's own. -/
def OwnRi (A : Option Addr) (cap : Nat) (xs : List Rid) : Item := fun W lo hi => OwR W lo hi 34 A cap xs
theorem OwnRi.loc (A : Option Addr) (cap : Nat) (xs : List Rid) : Loc (OwnRi A cap xs) := fun _ _ _ _ k h => OwR.of_blocks h k
theorem Ctx.rdR {w W : World} {L : List Item} {A : Option Addr} {xs : List Rid} (c : Ctx w W L) (h : RdR w 0 w.heap.size A xs) : RdR W 0 W.heap.size A xs := (Rd.below h c.b (Nat.le_refl _)).mono (Nat.le_refl _) c.b.size
/-- A call's answer: a list of rides of its own, and a number. -/
def GivesRN (p : List Rid × Int) (w : World) (e : Ending) (w' : World) : Prop :=
  ∃ A cap, e = .returned (.tuple #[.slice A p.1.length cap, .int .i64 p.2]) ∧ OwR w' w.heap.size w'.heap.size 34 A cap p.1 ∧ Below w.heap.size w w'

end Go.Proofs.Ytbjoekbgejfebaa
