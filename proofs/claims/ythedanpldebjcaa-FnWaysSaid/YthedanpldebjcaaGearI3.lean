/- The program: gears gathered, and sorted by an insertion. -/
import Derived.Test.YthedanpldebjcaaGearI2
import Derived.OrdersHeld
import Derived.Maps.AppendAt
namespace Go.Proofs.Ythedanpldebjcaa
open Go.RowKit
set_option linter.unusedSimpArgs false
set_option linter.unusedVariables false

theorem infoGear : (Try.prog.info? 76).map (fun i => (i.zero, i.size, i.bytes)) = some (some (gV 0 0 0 0), 4, 32) := by kernel_rfl
def gearV (x : Trn) (g : Gr) : Value := gV g.1 g.2 (fI x g.1) (rI x g.2)
theorem gbox_at {w : World} {g : Nat} {x : Trn} {gs : List Gr} (h : Box w g (cellsG x gs)) {k : Nat} (hk : k < gs.length) :
    w.cell? ⟨g, k * 4, none⟩ = some (.int .i64 ((gs.getD k (0, 0)).1 : Nat)) ∧ w.cell? ⟨g, k * 4 + 1, none⟩ = some (.int .i64 ((gs.getD k (0, 0)).2 : Nat)) ∧ w.cell? ⟨g, k * 4 + 2, none⟩ = some (.int .i64 (fI x (gs.getD k (0, 0)).1)) ∧ w.cell? ⟨g, k * 4 + 3, none⟩ = some (.int .i64 (rI x (gs.getD k (0, 0)).2)) := by
  refine ⟨h.at_ (k * 4) _ ?_, h.at_ (k * 4 + 1) _ ?_, h.at_ (k * 4 + 2) _ ?_, h.at_ (k * 4 + 3) _ ?_⟩
  · have := cellsG_at (x := x) hk (show 0 < 4 by decide)
    rwa [Nat.add_zero] at this
  · exact cellsG_at hk (by decide)
  · exact cellsG_at hk (by decide)
  · exact cellsG_at hk (by decide)
theorem put4_gears {w : World} {g k : Nat} {x : Trn} {gs : List Gr} (h : Box w g (cellsG x gs)) (hk : k < gs.length) (p : Gr) : Box (put4 w g (k * 4) p.1 p.2 (fI x p.1) (rI x p.2)) g (cellsG x (gs.set k p)) := by
  rw [← cellsG_set hk]
  have hl := cellsG_len x gs
  exact (((h.set (k := k * 4) (.int .i64 p.1) (by omega)).set (k := k * 4 + 1) (.int .i64 p.2) (by simp only [List.length_set]; omega)).set (k := k * 4 + 2) (.int .i64 (fI x p.1)) (by simp only [List.length_set]; omega)).set (k := k * 4 + 3) (.int .i64 (rI x p.2)) (by simp only [List.length_set]; omega)
theorem Box.of_own {w : World} {base g n cap sz : Nat} {t : TypeId} {xs : List Value} (h : w.ownsRow base t sz (.slice (some ⟨g, 0, none⟩) n cap) n xs) : Box w g xs := by
  have hlt := (h.lt g rfl).2
  have hl := h.1
  refine ⟨fun k v hv => ?_, fun j => h.frozenAt j, hlt⟩
  have hk : k < xs.length := (List.getElem?_eq_some_iff.1 hv).1
  rw [h.cellAt k (by omega), hv]
theorem news4 (w : World) (p a b : Value) (c : Value) (t : TypeId) : ∀ j u, [p, a, b, c][j]? = some u → (w.alloc (.cells #[p, a, b, c] t)).cell? ((⟨w.heap.size, 0, none⟩ : Addr).add j) = some u := fun j u hu => by
  have hb : Box (w.alloc (.cells #[p, a, b, c] t)) w.heap.size [p, a, b, c] := Box.new rfl rfl
  rw [Addr.add_mid, Nat.zero_add]
  exact hb.at_ j u hu
theorem keep_drew {lo hi : Nat} {w w1 : World} (h : Keep lo hi w w1) : Keep lo hi w w1.drew := h.drewN 1
/-- A list of gears in the making. -/
structure GatS (x : Trn) (w : World) (gs : List Gr) (v : Value) (wr : World) : Prop where
  row : wr.ownsRow w.heap.size 76 4 v gs.length (cellsG x gs)
  b : Below w.heap.size w wr
theorem GatS.nil (x : Trn) (w : World) : GatS x w [] (.slice none 0 0) w := ⟨World.ownsRow_nil _ _ _ _, Below.refl _ _⟩
theorem GatS.step {x : Trn} {w wr w3 : World} {gs : List Gr} {v v' : Value} {g : Gr} {o : Obj} (h : GatS x w gs v wr) (hown : w3.ownsRow w.heap.size 76 4 v' (gs.length + 1) (cellsG x gs ++ gearC x g)) (hgrow : (wr.alloc o).grownBy w3 v.ownBlock) : GatS x w (gs ++ [g]) v' w3 := by
  have e : cellsG x (gs ++ [g]) = cellsG x gs ++ gearC x g := by rw [cellsG_app]; simp [cellsG]
  refine ⟨by rw [e, List.length_append]; exact hown, h.b.trans ((((Below.refl w.heap.size wr).alloc h.b.size o).grown hgrow (by simp; have := h.b.size; omega) fun j ej => ?_))⟩
  rcases h.row.2 with ⟨rfl, _⟩ | ⟨g, cap, cur, rfl, hb, _, _⟩
  · simp [Value.ownBlock] at ej
  · obtain rfl : g = j := by simpa [Value.ownBlock] using ej
    exact hb
theorem GatS.form {x : Trn} {w wr : World} {gs : List Gr} {v : Value} (h : GatS x w gs v wr) (h0 : 0 < gs.length) : ∃ g cap, v = .slice (some ⟨g, 0, none⟩) gs.length cap ∧ Box wr g (cellsG x gs) ∧ w.heap.size ≤ g ∧ gs.length ≤ cap := by
  rcases h.row.2 with ⟨rfl, e⟩ | ⟨g, cap, cur, rfl, hb, _, hle, _⟩
  · omega
  · exact ⟨g, cap, rfl, Box.of_own h.row, hb, hle⟩
set_option maxRecDepth 100000 in
set_option maxHeartbeats 16000000 in
theorem implSort (x : Trn) (g m cap : Nat) (w : World) (hx : Train x) (hm : m = x.f.length * x.r.length) (hm2 : m ≤ 36) (hb0 : Box w g (cellsG x (allG x m))) :
    Calls Try.prog 97 #[.slice (some ⟨g, 0, none⟩) m cap, .func (.func 98) #[] #[]] w (fun e w' => (∃ v, e = .returned v) ∧ Box w' g (cellsG x (ordI x)) ∧ Keep g (g + 1) w w') := by
  have HX := Go.Lib.hid hx
  have HBX := Go.Lib.hid hb0
  have HME := Go.Lib.hid hm
  have HOI := Go.Lib.hid (show ordI x = sortTo x m m by rw [sortTo_end, hm]; rfl)
  have HAE := Go.Lib.hid (sortTo_zero x m)
  clear hx hb0 hm
  go_enter Try.func97, Try.ntmps97
  go_wp2_with fail
  go_loopw [8] (fun i wr => ∃ k : Nat, k ≤ m ∧ i = .int .i64 k ∧ Box wr g (cellsG x (sortTo x m k)) ∧ Keep g (g + 1) w wr) (fun i _ => m - (intOf i).toNat)
  case atStart => exact ⟨0, Nat.zero_le _, rfl, by rw [HAE.out]; exact HBX.out, Keep.refl _ _ _⟩
  case round =>
    obtain ⟨i, hi, rfl, hbx, hkp⟩ := hrel
    have HKP := Go.Lib.hid hkp
    have HB0 := Go.Lib.hid hbx
    clear hkp hbx HBX
    by_cases hlt : i < m
    case neg =>
      obtain rfl : i = m := by omega
      have HF := Go.Lib.hid (show Box wr g (cellsG x (ordI x)) by rw [HOI.out]; exact HB0.out)
      go_wp2_with fail
      go_returns
      exact ⟨⟨_, rfl⟩, HF.out, HKP.out⟩
    case pos =>
      have hil : (i : Int) < m := by omega
      have HIN := Go.Lib.hid (sortTo_in (x := x) hlt)
      have HNX := Go.Lib.hid (fun k gs => sortTo_next HX.out (m := m) (i := i) (k := k) (Nat.le_of_eq HME.out) hlt (gs := gs))
      have HPO := Go.Lib.hid (fun p (hp : p ∈ ordTo x i) => (⟨ordTo_ok (x := x) (k := i) (by have := HME.out; omega) hp, ordTo_before hp⟩ : GOk x p ∧ p.1 ≤ (nthG x i).1))
      have HGO := Go.Lib.hid (nthG_ok (x := x) (k := i) (by have := HME.out; omega))
      have HLN := Go.Lib.hid (fun k gs (h : InS x (ordTo x i) ((allG x m).drop (i + 1)) (nthG x i) k gs) => (⟨by have := h.len.1; rw [ordTo_len, List.length_drop, allG_len] at this; omega, by have := h.len.2; rw [ordTo_len] at this; exact this⟩ : gs.length = m ∧ k ≤ i))
      generalize ordTo x i = P at *
      generalize (allG x m).drop (i + 1) = R at *
      generalize nthG x i = q at *
      go_wp2_with fail
      go_loopw [5] (fun u wr => ∃ (k : Nat) (gs : List Gr), u = .int .i64 k ∧ k ≤ i ∧ InS x P R q k gs ∧ Box wr g (cellsG x gs) ∧ Keep g (g + 1) w wr) (fun u _ => (intOf u).toNat)
      case atStart => exact ⟨i, _, rfl, Nat.le_refl _, HIN.out, HB0.out, HKP.out⟩
      case round =>
        obtain ⟨k, gs, rfl, hki, hin, hbx, hkp⟩ := hrel
        have HI := Go.Lib.hid hin
        have HB := Go.Lib.hid hbx
        have HK := Go.Lib.hid hkp
        obtain ⟨hgl, -⟩ := HLN.out k gs hin
        clear hin hkp HIN HB0 HKP
        by_cases h0 : k = 0
        case pos =>
          subst h0
          have HN := Go.Lib.hid (HNX.out 0 gs HI.out (fun h => absurd h (by omega)))
          clear hbx
          have HB1 := Go.Lib.hid (show Box wr.drew g (cellsG x (sortTo x m (i + 1))) by rw [← HN.out]; exact HB.out.drew)
          have HK1 := Go.Lib.hid (keep_drew HK.out)
          go_upto_region 4 with fail
          refine wp_region_held_drew (S := fun _ => True) (by kernel_rfl) trivial (fun hHeld => ?_)
          refine wpAnyH_take (i := 0) (v := ?vz0) rfl (by kernel_rfl) (by kernel_rfl) (by kernel_rfl) (fun _ _ _ h => h) (Or.inl ⟨by rfl, ?hyz0⟩) (by assumption) ?restz0
          case hyz0 => (intro w hSw; (try dsimp only at hSw); go_simp; try with_reducible rfl)
          try simp only [List.getElem_toArray, List.getElem_cons_succ, List.getElem_cons_zero, Act.put, List.setIfInBounds_toArray, List.set_cons_zero, List.set_cons_succ]
          refine wpAnyH_take (i := 1) (v := ?vz1) rfl (by kernel_rfl) (by kernel_rfl) (by kernel_rfl) (fun _ _ _ h => h) (Or.inl ⟨by rfl, ?hyz1⟩) (by assumption) ?restz1
          case hyz1 => (intro w hSw; (try dsimp only at hSw); go_simp; try with_reducible rfl)
          try simp only [List.getElem_toArray, List.getElem_cons_succ, List.getElem_cons_zero, Act.put, List.setIfInBounds_toArray, List.set_cons_zero, List.set_cons_succ]
          refine wpAnyH_take (i := 2) (v := ?vz2) rfl (by kernel_rfl) (by kernel_rfl) (by kernel_rfl) (fun _ _ _ h => h) (Or.inl ⟨by rfl, ?hyz2⟩) (by assumption) ?restz2
          case hyz2 => (intro w hSw; (try dsimp only at hSw); go_simp; try with_reducible rfl)
          try simp only [List.getElem_toArray, List.getElem_cons_succ, List.getElem_cons_zero, Act.put, List.setIfInBounds_toArray, List.set_cons_zero, List.set_cons_succ]
          refine wpAnyH_take (i := 3) (v := undef) rfl (by kernel_rfl) (by kernel_rfl) (by kernel_rfl) (fun _ _ _ h => h) (Or.inr ⟨by rfl, rfl⟩) (by assumption) ?restz3
          try simp only [List.getElem_toArray, List.getElem_cons_succ, List.getElem_cons_zero, Act.put, List.setIfInBounds_toArray, List.set_cons_zero, List.set_cons_succ]
          refine wpAnyH_take (i := 4) (v := undef) rfl (by kernel_rfl) (by kernel_rfl) (by kernel_rfl) (fun _ _ _ h => h) (Or.inr ⟨by rfl, rfl⟩) (by assumption) ?restz4
          try simp only [List.getElem_toArray, List.getElem_cons_succ, List.getElem_cons_zero, Act.put, List.setIfInBounds_toArray, List.set_cons_zero, List.set_cons_succ]
          refine wpAnyH_take (i := 5) (v := undef) rfl (by kernel_rfl) (by kernel_rfl) (by kernel_rfl) (fun _ _ _ h => h) (Or.inr ⟨by rfl, rfl⟩) (by assumption) ?restz5
          try simp only [List.getElem_toArray, List.getElem_cons_succ, List.getElem_cons_zero, Act.put, List.setIfInBounds_toArray, List.set_cons_zero, List.set_cons_succ]
          refine wpAnyH_take (i := 6) (v := undef) rfl (by kernel_rfl) (by kernel_rfl) (by kernel_rfl) (fun _ _ _ h => h) (Or.inr ⟨by rfl, rfl⟩) (by assumption) ?restz6
          try simp only [List.getElem_toArray, List.getElem_cons_succ, List.getElem_cons_zero, Act.put, List.setIfInBounds_toArray, List.set_cons_zero, List.set_cons_succ]
          refine wpAnyH_take (i := 7) (v := undef) rfl (by kernel_rfl) (by kernel_rfl) (by kernel_rfl) (fun _ _ _ h => h) (Or.inr ⟨by rfl, rfl⟩) (by assumption) ?restz7
          try simp only [List.getElem_toArray, List.getElem_cons_succ, List.getElem_cons_zero, Act.put, List.setIfInBounds_toArray, List.set_cons_zero, List.set_cons_succ]
          refine wpAnyH_take (i := 8) (v := undef) rfl (by kernel_rfl) (by kernel_rfl) (by kernel_rfl) (fun _ _ _ h => h) (Or.inr ⟨by rfl, rfl⟩) (by assumption) ?restz8
          try simp only [List.getElem_toArray, List.getElem_cons_succ, List.getElem_cons_zero, Act.put, List.setIfInBounds_toArray, List.set_cons_zero, List.set_cons_succ]
          refine wpAnyH_take (i := 9) (v := undef) rfl (by kernel_rfl) (by kernel_rfl) (by kernel_rfl) (fun _ _ _ h => h) (Or.inr ⟨by rfl, rfl⟩) (by assumption) ?restz9
          try simp only [List.getElem_toArray, List.getElem_cons_succ, List.getElem_cons_zero, Act.put, List.setIfInBounds_toArray, List.set_cons_zero, List.set_cons_succ]
          refine wpAnyH_take (i := 10) (v := undef) rfl (by kernel_rfl) (by kernel_rfl) (by kernel_rfl) (fun _ _ _ h => h) (Or.inr ⟨by rfl, rfl⟩) (by assumption) ?restz10
          try simp only [List.getElem_toArray, List.getElem_cons_succ, List.getElem_cons_zero, Act.put, List.setIfInBounds_toArray, List.set_cons_zero, List.set_cons_succ]
          refine wpAnyH_take (i := 11) (v := undef) rfl (by kernel_rfl) (by kernel_rfl) (by kernel_rfl) (fun _ _ _ h => h) (Or.inr ⟨by rfl, rfl⟩) (by assumption) ?restz11
          try simp only [List.getElem_toArray, List.getElem_cons_succ, List.getElem_cons_zero, Act.put, List.setIfInBounds_toArray, List.set_cons_zero, List.set_cons_succ]
          refine wpAnyH_take (i := 12) (v := undef) rfl (by kernel_rfl) (by kernel_rfl) (by kernel_rfl) (fun _ _ _ h => h) (Or.inr ⟨by rfl, rfl⟩) (by assumption) ?restz12
          try simp only [List.getElem_toArray, List.getElem_cons_succ, List.getElem_cons_zero, Act.put, List.setIfInBounds_toArray, List.set_cons_zero, List.set_cons_succ]
          refine wpAnyH_take (i := 13) (v := undef) rfl (by kernel_rfl) (by kernel_rfl) (by kernel_rfl) (fun _ _ _ h => h) (Or.inr ⟨by rfl, rfl⟩) (by assumption) ?restz13
          try simp only [List.getElem_toArray, List.getElem_cons_succ, List.getElem_cons_zero, Act.put, List.setIfInBounds_toArray, List.set_cons_zero, List.set_cons_succ]
          refine wpAnyH_take (i := 14) (v := ?vz14) rfl (by kernel_rfl) (by kernel_rfl) (by kernel_rfl) (fun _ _ _ h => h) (Or.inl ⟨by rfl, ?hyz14⟩) (by assumption) ?restz14
          case hyz14 => (intro w hSw; (try dsimp only at hSw); go_simp; try with_reducible rfl)
          try simp only [List.getElem_toArray, List.getElem_cons_succ, List.getElem_cons_zero, Act.put, List.setIfInBounds_toArray, List.set_cons_zero, List.set_cons_succ]
          refine wpAnyH_done (by kernel_rfl) ?_ _
          go_wp2_with fail
          go_roundw
          case rel => exact ⟨i + 1, by omega, by go_num, HB1.out, HK1.out⟩
          case measure => simp [intOf]; omega
        case neg =>
          obtain ⟨j, hj⟩ : ∃ j, k = j + 1 := ⟨k - 1, by omega⟩
          have hk0 : (0 : Int) < k := by omega
          have hk00 : 0 < k := by omega
          have ek : IntKind.i64.wrap ((k : Int) - 1) = (j : Int) := (IntWalk.i64_in _ (by omega)).trans (by omega)
          have hj0 : (0 : Int) ≤ (j : Int) := by omega
          have hjm : (j : Int) < m := by omega
          have hkm : (k : Int) < m := by omega
          have HJ := Go.Lib.hid hj
          have HMP := Go.Lib.hid (HI.out.prev (by omega))
          have HAT := Go.Lib.hid HI.out.at_
          have HST := Go.Lib.hid (HI.out.step (by omega))
          have HN := Go.Lib.hid (HNX.out k gs HI.out)
          rw [show k - 1 = j by omega] at HMP HST HN
          obtain ⟨p0, p1, p2, p3⟩ := gbox_at hbx (show j < gs.length by omega)
          obtain ⟨q0, q1, q2, q3⟩ := gbox_at hbx (show k < gs.length by omega)
          rw [HAT.out] at q0 q1 q2 q3
          have HGS := Go.Lib.hid hgl
          generalize hpp : gs.getD j (0, 0) = pp at *
          obtain ⟨hok, hbf⟩ := HPO.out pp HMP.out
          have hpf := HX.out.fb hok
          have hpr := HX.out.rb hok
          have hqf := HX.out.fb HGO.out
          have hqr := HX.out.rb HGO.out
          have m1 := mul_bd (show 0 ≤ fI x q.1 by omega) hqf.2 (show 0 ≤ rI x pp.2 by omega) hpr.2
          have m2 := mul_bd (show 0 ≤ rI x q.2 by omega) hqr.2 (show 0 ≤ fI x pp.1 by omega) hpf.2
          have HBF := Go.Lib.hid (fun w0 => implBefore q.1 q.2 (fI x q.1) (rI x q.2) pp.1 pp.2 (fI x pp.1) (rI x pp.2) w0 (IntWalk.i64_in _ (by omega)) (IntWalk.i64_in _ (by omega)))
          have HIF := Go.Lib.hid (beforeB_iff (x := x) hbf)
          unfold beforeB at HIF
          have hgw : g < wr.heap.size := HB.out.lt
          have HG1 := Go.Lib.hid (fun (W : World) (h : Box W g (cellsG x gs)) => put4_gears h (k := k) (by have := HGS.out; omega) pp)
          have HG2 := Go.Lib.hid (fun (W : World) (h : Box W g (cellsG x (gs.set k pp))) => put4_gears h (k := j) (by rw [List.length_set]; have := HGS.out; omega) q)
          clear hok hbf hpf hpr hqf hqr m1 m2 hbx hgl
          generalize fI x pp.1 = pf at *
          generalize rI x pp.2 = pr at *
          generalize fI x q.1 = qf at *
          generalize rI x q.2 = qr at *
          generalize (decide (qf * pr < qr * pf) || (decide (qf * pr = qr * pf) && decide ((q.1 : Int) < pp.1))) = bb at *
          clear hj h0
          go_upto_region 4 with fail
          refine wp_region_held_drew (S := fun w' => w'.cell? ⟨g, j * 4, none⟩ = some (.int .i64 (pp.1 : Nat)) ∧ w'.cell? ⟨g, j * 4 + 1, none⟩ = some (.int .i64 (pp.2 : Nat)) ∧ w'.cell? ⟨g, j * 4 + 2, none⟩ = some (.int .i64 pf) ∧ w'.cell? ⟨g, j * 4 + 3, none⟩ = some (.int .i64 pr) ∧ w'.cell? ⟨g, k * 4, none⟩ = some (.int .i64 (q.1 : Nat)) ∧ w'.cell? ⟨g, k * 4 + 1, none⟩ = some (.int .i64 (q.2 : Nat)) ∧ w'.cell? ⟨g, k * 4 + 2, none⟩ = some (.int .i64 qf) ∧ w'.cell? ⟨g, k * 4 + 3, none⟩ = some (.int .i64 qr)) (by kernel_rfl) (by exact ⟨p0, p1, p2, p3, q0, q1, q2, q3⟩) (fun hHeld => ?_)
          refine wpAnyH_take (i := 0) (v := ?vs1) rfl (by kernel_rfl) (by kernel_rfl) (by kernel_rfl) (fun _ _ _ h => h) (Or.inl ⟨by rfl, ?hys1⟩) (by assumption) ?rests1
          case hys1 => (intro w hSw; (try dsimp only at hSw); go_simp; try with_reducible rfl)
          try simp only [List.getElem_toArray, List.getElem_cons_succ, List.getElem_cons_zero, Act.put, List.setIfInBounds_toArray, List.set_cons_zero, List.set_cons_succ]
          refine wpAnyH_take (i := 1) (v := ?vs2) rfl (by kernel_rfl) (by kernel_rfl) (by kernel_rfl) (fun _ _ _ h => h) (Or.inl ⟨by rfl, ?hys2⟩) (by assumption) ?rests2
          case hys2 => (intro w hSw; (try dsimp only at hSw); go_simp; try with_reducible rfl)
          try simp only [List.getElem_toArray, List.getElem_cons_succ, List.getElem_cons_zero, Act.put, List.setIfInBounds_toArray, List.set_cons_zero, List.set_cons_succ]
          refine wpAnyH_take (i := 2) (v := ?vs3) rfl (by kernel_rfl) (by kernel_rfl) (by kernel_rfl) (fun _ _ _ h => h) (Or.inl ⟨by rfl, ?hys3⟩) (by assumption) ?rests3
          case hys3 => (intro w hSw; (try dsimp only at hSw); go_simp; try with_reducible rfl)
          try simp only [List.getElem_toArray, List.getElem_cons_succ, List.getElem_cons_zero, Act.put, List.setIfInBounds_toArray, List.set_cons_zero, List.set_cons_succ]
          refine wpAnyH_take (i := 3) (v := ?vs4) rfl (by kernel_rfl) (by kernel_rfl) (by kernel_rfl) (fun _ _ _ h => h) (Or.inl ⟨by rfl, ?hys4⟩) (by assumption) ?rests4
          case hys4 => (intro w hSw; (try dsimp only at hSw); go_simp; try with_reducible rfl)
          try simp only [List.getElem_toArray, List.getElem_cons_succ, List.getElem_cons_zero, Act.put, List.setIfInBounds_toArray, List.set_cons_zero, List.set_cons_succ]
          refine wpAnyH_take (i := 4) (v := ?vs5) rfl (by kernel_rfl) (by kernel_rfl) (by kernel_rfl) (fun _ _ _ h => h) (Or.inl ⟨by rfl, ?hys5⟩) (by assumption) ?rests5
          case hys5 => (intro w hSw; (try dsimp only at hSw); go_simp; try with_reducible rfl)
          try simp only [List.getElem_toArray, List.getElem_cons_succ, List.getElem_cons_zero, Act.put, List.setIfInBounds_toArray, List.set_cons_zero, List.set_cons_succ]
          refine wpAnyH_take (i := 5) (v := ?vs6) rfl (by kernel_rfl) (by kernel_rfl) (by kernel_rfl) (fun _ _ _ h => h) (Or.inl ⟨by rfl, ?hys6⟩) (by assumption) ?rests6
          case hys6 => (intro w hSw; (try dsimp only at hSw); go_simp; try with_reducible rfl)
          try simp only [List.getElem_toArray, List.getElem_cons_succ, List.getElem_cons_zero, Act.put, List.setIfInBounds_toArray, List.set_cons_zero, List.set_cons_succ]
          refine wpAnyH_take (i := 6) (v := ?vs7) rfl (by kernel_rfl) (by kernel_rfl) (by kernel_rfl) (fun _ _ _ h => h) (Or.inl ⟨by rfl, ?hys7⟩) (by assumption) ?rests7
          case hys7 => (intro w hSw; (try dsimp only at hSw); go_simp; try with_reducible rfl)
          try simp only [List.getElem_toArray, List.getElem_cons_succ, List.getElem_cons_zero, Act.put, List.setIfInBounds_toArray, List.set_cons_zero, List.set_cons_succ]
          refine wpAnyH_take (i := 7) (v := ?vs8) rfl (by kernel_rfl) (by kernel_rfl) (by kernel_rfl) (fun _ _ _ h => h) (Or.inl ⟨by rfl, ?hys8⟩) (by assumption) ?rests8
          case hys8 => (intro w hSw; (try dsimp only at hSw); go_simp; try with_reducible rfl)
          try simp only [List.getElem_toArray, List.getElem_cons_succ, List.getElem_cons_zero, Act.put, List.setIfInBounds_toArray, List.set_cons_zero, List.set_cons_succ]
          refine wpAnyH_take (i := 8) (v := ?vs9) rfl (by kernel_rfl) (by kernel_rfl) (by kernel_rfl) (fun _ _ _ h => h) (Or.inl ⟨by rfl, ?hys9⟩) (by assumption) ?rests9
          case hys9 => (intro w hSw; (try dsimp only at hSw); go_simp; try with_reducible rfl)
          try simp only [List.getElem_toArray, List.getElem_cons_succ, List.getElem_cons_zero, Act.put, List.setIfInBounds_toArray, List.set_cons_zero, List.set_cons_succ]
          refine wpAnyH_take (i := 9) (v := ?vs10) rfl (by kernel_rfl) (by kernel_rfl) (by kernel_rfl) (fun _ _ _ h => h) (Or.inl ⟨by rfl, ?hys10⟩) (by assumption) ?rests10
          case hys10 => (intro w hSw; (try dsimp only at hSw); go_simp; try with_reducible rfl)
          try simp only [List.getElem_toArray, List.getElem_cons_succ, List.getElem_cons_zero, Act.put, List.setIfInBounds_toArray, List.set_cons_zero, List.set_cons_succ]
          refine wpAnyH_take (i := 10) (v := ?vs11) rfl (by kernel_rfl) (by kernel_rfl) (by kernel_rfl) (fun _ _ _ h => h) (Or.inl ⟨by rfl, ?hys11⟩) (by assumption) ?rests11
          case hys11 => (intro w hSw; (try dsimp only at hSw); go_simp; try with_reducible rfl)
          try simp only [List.getElem_toArray, List.getElem_cons_succ, List.getElem_cons_zero, Act.put, List.setIfInBounds_toArray, List.set_cons_zero, List.set_cons_succ]
          refine wpAnyH_take (i := 11) (v := ?vs12) rfl (by kernel_rfl) (by kernel_rfl) (by kernel_rfl) (fun _ _ _ h => h) (Or.inl ⟨by rfl, ?hys12⟩) (by assumption) ?rests12
          case hys12 => (intro w hSw; (try dsimp only at hSw); go_simp; try with_reducible rfl)
          try simp only [List.getElem_toArray, List.getElem_cons_succ, List.getElem_cons_zero, Act.put, List.setIfInBounds_toArray, List.set_cons_zero, List.set_cons_succ]
          refine wpAnyH_take (i := 12) (v := ?vs13) rfl (by kernel_rfl) (by kernel_rfl) (by kernel_rfl) (fun _ _ _ h => h) (Or.inl ⟨by rfl, ?hys13⟩) (by assumption) ?rests13
          case hys13 => (intro w hSw; (try dsimp only at hSw); go_simp; try with_reducible rfl)
          try simp only [List.getElem_toArray, List.getElem_cons_succ, List.getElem_cons_zero, Act.put, List.setIfInBounds_toArray, List.set_cons_zero, List.set_cons_succ]
          refine wpAnyH_ready (rs := [13]) (by kernel_rfl) (by simp) ?_
          refine AllReadyH.cons rfl (fun K hK => ?_) AllReadyH.nil
          go_simp
          (go_at_call 98; refine (HBF.out _).mono ?_; rintro _ wc ⟨rfl, bc⟩)
          refine hK.out _ _ ?_ (fun hHeld => ?_)
          · exact ⟨(bc.cell (p := ⟨g, j * 4, none⟩) hgw).trans p0, (bc.cell (p := ⟨g, j * 4 + 1, none⟩) hgw).trans p1, (bc.cell (p := ⟨g, j * 4 + 2, none⟩) hgw).trans p2, (bc.cell (p := ⟨g, j * 4 + 3, none⟩) hgw).trans p3, (bc.cell (p := ⟨g, k * 4, none⟩) hgw).trans q0, (bc.cell (p := ⟨g, k * 4 + 1, none⟩) hgw).trans q1, (bc.cell (p := ⟨g, k * 4 + 2, none⟩) hgw).trans q2, (bc.cell (p := ⟨g, k * 4 + 3, none⟩) hgw).trans q3⟩
          clear hK K
          try simp only [List.getElem_toArray, List.getElem_cons_succ, List.getElem_cons_zero, Act.put, List.setIfInBounds_toArray, List.set_cons_zero, List.set_cons_succ]
          refine wpAnyH_take (i := 14) (v := ?vs14) rfl (by kernel_rfl) (by kernel_rfl) (by kernel_rfl) (fun _ _ _ h => h) (Or.inl ⟨by rfl, ?hys14⟩) (by assumption) ?rests14
          case hys14 => (intro w hSw; (try dsimp only at hSw); go_simp; try with_reducible rfl)
          try simp only [List.getElem_toArray, List.getElem_cons_succ, List.getElem_cons_zero, Act.put, List.setIfInBounds_toArray, List.set_cons_zero, List.set_cons_succ]
          refine wpAnyH_done (by kernel_rfl) ?_ _
          have HB2 := Go.Lib.hid (HB.out.drew.below bc)
          have HK2 := Go.Lib.hid ((keep_drew HK.out).trans (Keep.of_below bc (Nat.le_refl _) g (g + 1)))
          have c0 : wc.cell? ⟨g, j * 4, none⟩ = some (.int .i64 (pp.1 : Nat)) := (bc.cell (p := ⟨g, j * 4, none⟩) hgw).trans p0
          have c1 : wc.cell? ⟨g, j * 4 + 1, none⟩ = some (.int .i64 (pp.2 : Nat)) := (bc.cell (p := ⟨g, j * 4 + 1, none⟩) hgw).trans p1
          have c2 : wc.cell? ⟨g, j * 4 + 2, none⟩ = some (.int .i64 pf) := (bc.cell (p := ⟨g, j * 4 + 2, none⟩) hgw).trans p2
          have c3 : wc.cell? ⟨g, j * 4 + 3, none⟩ = some (.int .i64 pr) := (bc.cell (p := ⟨g, j * 4 + 3, none⟩) hgw).trans p3
          have c4 : wc.cell? ⟨g, k * 4, none⟩ = some (.int .i64 (q.1 : Nat)) := (bc.cell (p := ⟨g, k * 4, none⟩) hgw).trans q0
          have c5 : wc.cell? ⟨g, k * 4 + 1, none⟩ = some (.int .i64 (q.2 : Nat)) := (bc.cell (p := ⟨g, k * 4 + 1, none⟩) hgw).trans q1
          have c6 : wc.cell? ⟨g, k * 4 + 2, none⟩ = some (.int .i64 qf) := (bc.cell (p := ⟨g, k * 4 + 2, none⟩) hgw).trans q2
          have c7 : wc.cell? ⟨g, k * 4 + 3, none⟩ = some (.int .i64 qr) := (bc.cell (p := ⟨g, k * 4 + 3, none⟩) hgw).trans q3
          clear bc p0 p1 p2 p3 q0 q1 q2 q3 HB HK HBF hgw
          cases bb
          case false =>
            have HN2 := Go.Lib.hid (HN.out (fun _ => Classical.byContradiction (fun h => absurd (HIF.out.2 h) (by simp))))
            have HB3 := Go.Lib.hid (show Box wc g (cellsG x (sortTo x m (i + 1))) by rw [← HN2.out]; exact HB2.out)
            clear c0 c1 c2 c3 c4 c5 c6 c7
            go_wp2_with fail
            go_roundw
            case rel => exact ⟨i + 1, by omega, by go_num, HB3.out, HK2.out⟩
            case measure => simp [intOf]; omega
          case true =>
            have HI2 := Go.Lib.hid (HST.out (HIF.out.1 rfl))
            have hfr := HB2.out.fr
            clear HST HIF HN
            go_upto_region 6 with fail
            refine wp_region_held_drew (S := fun _ => True) (by kernel_rfl) trivial (fun hHeld => ?_)
            refine wpAnyH_take (i := 0) (v := ?vt1) rfl (by kernel_rfl) (by kernel_rfl) (by kernel_rfl) (fun _ _ _ h => h) (Or.inl ⟨by rfl, ?hyt1⟩) (by assumption) ?restt1
            case hyt1 => (intro w hSw; (try dsimp only at hSw); go_simp; try with_reducible rfl)
            try simp only [List.getElem_toArray, List.getElem_cons_succ, List.getElem_cons_zero, Act.put, List.setIfInBounds_toArray, List.set_cons_zero, List.set_cons_succ]
            refine wpAnyH_take (i := 1) (v := ?vt2) rfl (by kernel_rfl) (by kernel_rfl) (by kernel_rfl) (fun _ _ _ h => h) (Or.inl ⟨by rfl, ?hyt2⟩) (by assumption) ?restt2
            case hyt2 => (intro w hSw; (try dsimp only at hSw); go_simp; try with_reducible rfl)
            try simp only [List.getElem_toArray, List.getElem_cons_succ, List.getElem_cons_zero, Act.put, List.setIfInBounds_toArray, List.set_cons_zero, List.set_cons_succ]
            refine wpAnyH_take (i := 2) (v := ?vt3) rfl (by kernel_rfl) (by kernel_rfl) (by kernel_rfl) (fun _ _ _ h => h) (Or.inl ⟨by rfl, ?hyt3⟩) (by assumption) ?restt3
            case hyt3 => (intro w hSw; (try dsimp only at hSw); go_simp; try with_reducible rfl)
            try simp only [List.getElem_toArray, List.getElem_cons_succ, List.getElem_cons_zero, Act.put, List.setIfInBounds_toArray, List.set_cons_zero, List.set_cons_succ]
            refine wpAnyH_take (i := 3) (v := ?vt4) rfl (by kernel_rfl) (by kernel_rfl) (by kernel_rfl) (fun _ _ _ h => h) (Or.inl ⟨by rfl, ?hyt4⟩) (by assumption) ?restt4
            case hyt4 => (intro w hSw; (try dsimp only at hSw); go_simp; try with_reducible rfl)
            try simp only [List.getElem_toArray, List.getElem_cons_succ, List.getElem_cons_zero, Act.put, List.setIfInBounds_toArray, List.set_cons_zero, List.set_cons_succ]
            refine wpAnyH_take (i := 4) (v := ?vt5) rfl (by kernel_rfl) (by kernel_rfl) (by kernel_rfl) (fun _ _ _ h => h) (Or.inl ⟨by rfl, ?hyt5⟩) (by assumption) ?restt5
            case hyt5 => (intro w hSw; (try dsimp only at hSw); go_simp; try with_reducible rfl)
            try simp only [List.getElem_toArray, List.getElem_cons_succ, List.getElem_cons_zero, Act.put, List.setIfInBounds_toArray, List.set_cons_zero, List.set_cons_succ]
            refine wpAnyH_take (i := 5) (v := ?vt6) rfl (by kernel_rfl) (by kernel_rfl) (by kernel_rfl) (fun _ _ _ h => h) (Or.inl ⟨by rfl, ?hyt6⟩) (by assumption) ?restt6
            case hyt6 => (intro w hSw; (try dsimp only at hSw); go_simp; try with_reducible rfl)
            try simp only [List.getElem_toArray, List.getElem_cons_succ, List.getElem_cons_zero, Act.put, List.setIfInBounds_toArray, List.set_cons_zero, List.set_cons_succ]
            refine wpAnyH_take (i := 6) (v := ?vt7) rfl (by kernel_rfl) (by kernel_rfl) (by kernel_rfl) (fun _ _ _ h => h) (Or.inl ⟨by rfl, ?hyt7⟩) (by assumption) ?restt7
            case hyt7 => (intro w hSw; (try dsimp only at hSw); go_simp; try with_reducible rfl)
            try simp only [List.getElem_toArray, List.getElem_cons_succ, List.getElem_cons_zero, Act.put, List.setIfInBounds_toArray, List.set_cons_zero, List.set_cons_succ]
            refine wpAnyH_take (i := 7) (v := ?vt8) rfl (by kernel_rfl) (by kernel_rfl) (by kernel_rfl) (fun _ _ _ h => h) (Or.inl ⟨by rfl, ?hyt8⟩) (by assumption) ?restt8
            case hyt8 => (intro w hSw; (try dsimp only at hSw); go_simp; try with_reducible rfl)
            try simp only [List.getElem_toArray, List.getElem_cons_succ, List.getElem_cons_zero, Act.put, List.setIfInBounds_toArray, List.set_cons_zero, List.set_cons_succ]
            refine wpAnyH_take (i := 8) (v := ?vt9) rfl (by kernel_rfl) (by kernel_rfl) (by kernel_rfl) (fun _ _ _ h => h) (Or.inl ⟨by rfl, ?hyt9⟩) (by assumption) ?restt9
            case hyt9 => (intro w hSw; (try dsimp only at hSw); go_simp; try with_reducible rfl)
            try simp only [List.getElem_toArray, List.getElem_cons_succ, List.getElem_cons_zero, Act.put, List.setIfInBounds_toArray, List.set_cons_zero, List.set_cons_succ]
            refine wpAnyH_take (i := 10) (v := ?vt10) rfl (by kernel_rfl) (by kernel_rfl) (by kernel_rfl) (fun _ _ _ h => h) (Or.inl ⟨by rfl, ?hyt10⟩) (by assumption) ?restt10
            case hyt10 => (intro w hSw; (try dsimp only at hSw); go_simp; try with_reducible rfl)
            try simp only [List.getElem_toArray, List.getElem_cons_succ, List.getElem_cons_zero, Act.put, List.setIfInBounds_toArray, List.set_cons_zero, List.set_cons_succ]
            refine wpAnyH_take (i := 11) (v := ?vt11) rfl (by kernel_rfl) (by kernel_rfl) (by kernel_rfl) (fun _ _ _ h => h) (Or.inl ⟨by rfl, ?hyt11⟩) (by assumption) ?restt11
            case hyt11 => (intro w hSw; (try dsimp only at hSw); go_simp; try with_reducible rfl)
            try simp only [List.getElem_toArray, List.getElem_cons_succ, List.getElem_cons_zero, Act.put, List.setIfInBounds_toArray, List.set_cons_zero, List.set_cons_succ]
            refine wpAnyH_take (i := 12) (v := ?vt12) rfl (by kernel_rfl) (by kernel_rfl) (by kernel_rfl) (fun _ _ _ h => h) (Or.inl ⟨by rfl, ?hyt12⟩) (by assumption) ?restt12
            case hyt12 => (intro w hSw; (try dsimp only at hSw); go_simp; try with_reducible rfl)
            try simp only [List.getElem_toArray, List.getElem_cons_succ, List.getElem_cons_zero, Act.put, List.setIfInBounds_toArray, List.set_cons_zero, List.set_cons_succ]
            refine wpAnyH_ready (rs := [9, 13]) (by kernel_rfl) (by simp) ?_
            refine AllReadyH.cons rfl (fun K hK => ?_) (AllReadyH.cons rfl (fun K hK => ?_) AllReadyH.nil)
            · go_simp
              refine hK.out _ _ ?_ (fun hHeld => ?_)
              · trivial
              clear hK K
              try simp only [List.getElem_toArray, List.getElem_cons_succ, List.getElem_cons_zero, Act.put, List.setIfInBounds_toArray, List.set_cons_zero, List.set_cons_succ]
              refine wpAnyH_ready (rs := [13]) (by kernel_rfl) (by simp) ?_
              refine AllReadyH.cons rfl (fun K hK => ?_) AllReadyH.nil
              go_simp
              refine hK.out _ _ ?_ (fun hHeld => ?_)
              · trivial
              clear hK K
              try simp only [List.getElem_toArray, List.getElem_cons_succ, List.getElem_cons_zero, Act.put, List.setIfInBounds_toArray, List.set_cons_zero, List.set_cons_succ]
              refine wpAnyH_take (i := 14) (v := ?vt13) rfl (by kernel_rfl) (by kernel_rfl) (by kernel_rfl) (fun _ _ _ h => h) (Or.inl ⟨by rfl, ?hyt13⟩) (by assumption) ?restt13
              case hyt13 => (intro w hSw; (try dsimp only at hSw); go_simp; try with_reducible rfl)
              try simp only [List.getElem_toArray, List.getElem_cons_succ, List.getElem_cons_zero, Act.put, List.setIfInBounds_toArray, List.set_cons_zero, List.set_cons_succ]
              refine wpAnyH_ready (rs := [15]) (by kernel_rfl) (by simp) ?_
              refine AllReadyH.cons rfl (fun K hK => ?_) AllReadyH.nil
              go_simp
              refine hK.out _ _ ?_ (fun hHeld => ?_)
              · trivial
              clear hK K
              try simp only [List.getElem_toArray, List.getElem_cons_succ, List.getElem_cons_zero, Act.put, List.setIfInBounds_toArray, List.set_cons_zero, List.set_cons_succ]
              refine wpAnyH_take (i := 16) (v := ?vt14) rfl (by kernel_rfl) (by kernel_rfl) (by kernel_rfl) (fun _ _ _ h => h) (Or.inl ⟨by rfl, ?hyt14⟩) (by assumption) ?restt14
              case hyt14 => (intro w hSw; (try dsimp only at hSw); go_simp; try with_reducible rfl)
              try simp only [List.getElem_toArray, List.getElem_cons_succ, List.getElem_cons_zero, Act.put, List.setIfInBounds_toArray, List.set_cons_zero, List.set_cons_succ]
              refine wpAnyH_ready (rs := [17]) (by kernel_rfl) (by simp) ?_
              refine AllReadyH.cons rfl (fun K hK => ?_) AllReadyH.nil
              generalize hW1 : World.drew _ = W1
              have HB31 := Go.Lib.hid (show Box W1 g (cellsG x (gs.set k pp)) from hW1 ▸ (HG1.out _ HB2.out).drew)
              have HK31 := Go.Lib.hid (show Keep g (g + 1) w W1 from hW1 ▸ keep_drew (HK2.out.trans (put4_keep wc g (k * 4) pp.1 pp.2 pf pr)))
              clear hW1 c0 c1 c2 c3 c4 c5 c6 c7 hfr
              have hlj : j < (gs.set k pp).length := by rw [List.length_set]; have := HGS.out; omega
              obtain ⟨d0, d1, d2, d3⟩ := gbox_at HB31.out hlj
              have hfr := HB31.out.fr
              go_simp
              refine hK.out _ _ ?_ (fun hHeld => ?_)
              · trivial
              clear hK K
              try simp only [List.getElem_toArray, List.getElem_cons_succ, List.getElem_cons_zero, Act.put, List.setIfInBounds_toArray, List.set_cons_zero, List.set_cons_succ]
              refine wpAnyH_done (by kernel_rfl) ?_ _
              have HB3 := Go.Lib.hid (HG2.out _ HB31.out)
              have HK3 := Go.Lib.hid (HK31.out.trans (put4_keep W1 g (j * 4) q.1 q.2 qf qr))
              change Exit.inBlock _ _ _ _ (put4 W1 g (j * 4) q.1 q.2 qf qr)
              generalize put4 W1 g (j * 4) q.1 q.2 qf qr = WE at *
              clear d0 d1 d2 d3 hfr hlj
              go_wp2_with fail
              go_roundw
              case rel => exact ⟨j, _, by first | rfl | go_num | simp [*], by have := HJ.out; omega, HI2.out, HB3.out, HK3.out⟩
              case measure => have := HJ.out; simp [intOf]; omega
            · go_simp
              refine hK.out _ _ ?_ (fun hHeld => ?_)
              · trivial
              clear hK K
              try simp only [List.getElem_toArray, List.getElem_cons_succ, List.getElem_cons_zero, Act.put, List.setIfInBounds_toArray, List.set_cons_zero, List.set_cons_succ]
              refine wpAnyH_ready (rs := [9]) (by kernel_rfl) (by simp) ?_
              refine AllReadyH.cons rfl (fun K hK => ?_) AllReadyH.nil
              go_simp
              refine hK.out _ _ ?_ (fun hHeld => ?_)
              · trivial
              clear hK K
              try simp only [List.getElem_toArray, List.getElem_cons_succ, List.getElem_cons_zero, Act.put, List.setIfInBounds_toArray, List.set_cons_zero, List.set_cons_succ]
              refine wpAnyH_take (i := 14) (v := ?vt15) rfl (by kernel_rfl) (by kernel_rfl) (by kernel_rfl) (fun _ _ _ h => h) (Or.inl ⟨by rfl, ?hyt15⟩) (by assumption) ?restt15
              case hyt15 => (intro w hSw; (try dsimp only at hSw); go_simp; try with_reducible rfl)
              try simp only [List.getElem_toArray, List.getElem_cons_succ, List.getElem_cons_zero, Act.put, List.setIfInBounds_toArray, List.set_cons_zero, List.set_cons_succ]
              refine wpAnyH_ready (rs := [15]) (by kernel_rfl) (by simp) ?_
              refine AllReadyH.cons rfl (fun K hK => ?_) AllReadyH.nil
              go_simp
              refine hK.out _ _ ?_ (fun hHeld => ?_)
              · trivial
              clear hK K
              try simp only [List.getElem_toArray, List.getElem_cons_succ, List.getElem_cons_zero, Act.put, List.setIfInBounds_toArray, List.set_cons_zero, List.set_cons_succ]
              refine wpAnyH_take (i := 16) (v := ?vt16) rfl (by kernel_rfl) (by kernel_rfl) (by kernel_rfl) (fun _ _ _ h => h) (Or.inl ⟨by rfl, ?hyt16⟩) (by assumption) ?restt16
              case hyt16 => (intro w hSw; (try dsimp only at hSw); go_simp; try with_reducible rfl)
              try simp only [List.getElem_toArray, List.getElem_cons_succ, List.getElem_cons_zero, Act.put, List.setIfInBounds_toArray, List.set_cons_zero, List.set_cons_succ]
              refine wpAnyH_ready (rs := [17]) (by kernel_rfl) (by simp) ?_
              refine AllReadyH.cons rfl (fun K hK => ?_) AllReadyH.nil
              generalize hW1 : World.drew _ = W1
              have HB31 := Go.Lib.hid (show Box W1 g (cellsG x (gs.set k pp)) from hW1 ▸ (HG1.out _ HB2.out).drew)
              have HK31 := Go.Lib.hid (show Keep g (g + 1) w W1 from hW1 ▸ keep_drew (HK2.out.trans (put4_keep wc g (k * 4) pp.1 pp.2 pf pr)))
              clear hW1 c0 c1 c2 c3 c4 c5 c6 c7 hfr
              have hlj : j < (gs.set k pp).length := by rw [List.length_set]; have := HGS.out; omega
              obtain ⟨d0, d1, d2, d3⟩ := gbox_at HB31.out hlj
              have hfr := HB31.out.fr
              go_simp
              refine hK.out _ _ ?_ (fun hHeld => ?_)
              · trivial
              clear hK K
              try simp only [List.getElem_toArray, List.getElem_cons_succ, List.getElem_cons_zero, Act.put, List.setIfInBounds_toArray, List.set_cons_zero, List.set_cons_succ]
              refine wpAnyH_done (by kernel_rfl) ?_ _
              have HB3 := Go.Lib.hid (HG2.out _ HB31.out)
              have HK3 := Go.Lib.hid (HK31.out.trans (put4_keep W1 g (j * 4) q.1 q.2 qf qr))
              change Exit.inBlock _ _ _ _ (put4 W1 g (j * 4) q.1 q.2 qf qr)
              generalize put4 W1 g (j * 4) q.1 q.2 qf qr = WE at *
              clear d0 d1 d2 d3 hfr hlj
              go_wp2_with fail
              go_roundw
              case rel => exact ⟨j, _, by first | rfl | go_num | simp [*], by have := HJ.out; omega, HI2.out, HB3.out, HK3.out⟩
              case measure => have := HJ.out; simp [intOf]; omega
set_option maxRecDepth 100000 in
set_option maxHeartbeats 16000000 in
theorem implGearsC (x : Trn) (A : Option Addr) (c : Nat) (B : Option Addr) (d : Nat) (w : World) (T : TrL x A c B d w) (hT : Train x) :
    Calls Try.prog 89 #[trainV x A c B d] w (fun e w' => ∃ g cap, e = .returned (.slice (some ⟨g, 0, none⟩) (ordI x).length cap) ∧ Box w' g (cellsG x (ordI x)) ∧ w.heap.size ≤ g ∧ Below w.heap.size w w' ∧ (ordI x).length ≤ cap) := by
  have hfn := hT.f.few
  have hrn := hT.r.few
  have hf1 := hT.f.one
  have hr1 := hT.r.one
  have hm36 : x.f.length * x.r.length ≤ 36 := Nat.le_trans (Nat.mul_le_mul (by omega : x.f.length ≤ 3) (by omega : x.r.length ≤ 12)) (by decide)
  have hm1 : 1 ≤ x.f.length * x.r.length := Nat.mul_pos hf1 hr1
  have HT := Go.Lib.hid T
  have HX := Go.Lib.hid (boxT_box x A c B d w)
  have HXB := Go.Lib.hid (boxT_below x A c B d w)
  clear T
  have HTR := Go.Lib.hid hT
  have HOL := Go.Lib.hid (ordI_len x)
  have HSO := Go.Lib.hid (fun g cap w0 hb => implSort x g (x.f.length * x.r.length) cap w0 hT rfl hm36 hb)
  obtain ⟨i0, hi, hz0, hz1, hz2⟩ := info_parts infoGear
  clear hT
  rw [HOL.out]
  unfold trainV at *
  go_enter Try.func89, Try.ntmps89
  go_upto_region 1 with fail
  refine wp_gen (R := fun W => Box W w.heap.size (trainC x A c B d) ∧ Below w.heap.size w W) ⟨HX.out, HXB.out⟩ ?_
  rintro W ⟨hx, hb⟩
  have HX1 := Go.Lib.hid hx
  have HB1 := Go.Lib.hid hb
  have HT1 := Go.Lib.hid (HT.out.below hb)
  have hc0 : W.cell? ⟨w.heap.size, 0, none⟩ = some (.slice A x.f.length c) := HX1.out.at_ 0 _ rfl
  clear hx hb HX HXB HT
  have HG0 := Go.Lib.hid (show GatS x W (allG x (0 * x.r.length)) (.slice none 0 0) W by rw [Nat.zero_mul]; exact GatS.nil x W)
  go_wp2_with fail
  go_loopw [3, 11] (fun v u wr => ∃ f : Nat, f ≤ x.f.length ∧ u = .int .i64 f ∧ GatS x W (allG x (f * x.r.length)) v wr) (fun _ u _ => x.f.length - (intOf u).toNat)
  case atStart => exact ⟨0, Nat.zero_le _, rfl, HG0.out⟩
  case round =>
    obtain ⟨f, hf, rfl, hgat⟩ := hrel
    have HGT := Go.Lib.hid hgat
    have hbs := hgat.b
    clear hgat HG0 hc0
    by_cases hlf : f < x.f.length
    case neg =>
      obtain rfl : f = x.f.length := by omega
      obtain ⟨g, cap, rfl, hbx, hge, hcl⟩ := HGT.out.form (by rw [allG_len]; omega)
      rw [allG_len] at *
      have HSC := Go.Lib.hid (HSO.out g cap wr hbx)
      have HBW := Go.Lib.hid (upB HB1.out hbs)
      have HGE := Go.Lib.hid (Nat.le_trans HB1.out.size hge)
      have HCL := Go.Lib.hid hcl
      clear hbs hbx hge hcl HGT
      go_wp2_with fail
      refine HSC.out.mono ?_
      rintro _ w5 ⟨⟨v, rfl⟩, hbx, hk⟩
      have HBX := Go.Lib.hid hbx
      have HB5 := Go.Lib.hid (HBW.out.trans (hk.below HGE.out HBW.out.size))
      clear hbx hk
      go_wp2_with fail
      go_ret
      exact ⟨g, cap, rfl, HBX.out, HGE.out, HB5.out, HCL.out⟩
    case pos =>
      have hlf2 : (f : Int) < x.f.length := by omega
      have HXR := Go.Lib.hid (HX1.out.below hbs)
      obtain ⟨fb, fo, hAe, -, fc⟩ := HT1.out.f.at_ hlf
      have hcf : wr.cell? ⟨fb, fo + f, none⟩ = some (.int .i64 (fI x f)) := by
        have h1 : W.cell? ⟨fb, fo + f, none⟩ = some (.int .i64 (fI x f)) := fc f hlf
        exact (hbs.cell (p := ⟨fb, fo + f, none⟩) (World.block_lt_of_cell? W _ h1)).trans h1
      have hc1 : wr.cell? ⟨w.heap.size, 1, none⟩ = some (.slice B x.r.length d) := HXR.out.at_ 1 _ rfl
      have HGF := Go.Lib.hid (show GatS x W (allG x (f * x.r.length + 0)) u3 wr by rw [Nat.add_zero]; exact HGT.out)
      subst hAe
      clear fc hbs HGT
      go_wp2_with fail
      clear hcf hc1
      go_loopw [3, 19] (fun v u wr => ∃ r : Nat, r ≤ x.r.length ∧ u = .int .i64 r ∧ GatS x W (allG x (f * x.r.length + r)) v wr) (fun _ u _ => x.r.length - (intOf u).toNat)
      case atStart => exact ⟨0, Nat.zero_le _, rfl, HGF.out⟩
      case round =>
        obtain ⟨r, hr, rfl, hgat⟩ := hrel
        have HGT := Go.Lib.hid hgat
        have hbs := hgat.b
        clear hgat HGF
        by_cases hlr : r < x.r.length
        case neg =>
          obtain rfl : r = x.r.length := by omega
          have HE := Go.Lib.hid (show f * x.r.length + x.r.length = (f + 1) * x.r.length by rw [Nat.add_mul, Nat.one_mul])
          rw [HE.out] at HGT
          clear hbs
          go_wp2_with fail
          go_roundw
          case rel => exact ⟨f + 1, by omega, by go_num, HGT.out⟩
          case measure => simp [intOf]; omega
        case pos =>
          have hlr2 : (r : Int) < x.r.length := by omega
          obtain ⟨rb, ro, hBe, -, rc⟩ := HT1.out.r.at_ hlr
          have hcr : wr.cell? ⟨rb, ro + r, none⟩ = some (.int .i64 (rI x r)) := by
            have h1 : W.cell? ⟨rb, ro + r, none⟩ = some (.int .i64 (rI x r)) := rc r hlr
            exact (hbs.cell (p := ⟨rb, ro + r, none⟩) (World.block_lt_of_cell? W _ h1)).trans h1
          subst hBe
          have hrow := HGT.out.row
          have hbz := hbs.size
          have hl0 := allG_len x (f * x.r.length + r)
          have hmul : f * x.r.length ≤ 2 * 12 := Nat.mul_le_mul (by omega) (by omega)
          have HSU := Go.Lib.hid (show allG x (f * x.r.length + (r + 1)) = allG x (f * x.r.length + r) ++ [(f, r)] by rw [← Nat.add_assoc, allG_succ, nth_of hlr])
          have HN := Go.Lib.hid (fun v' w3 o' h1 h2 => HGT.out.step (g := (f, r)) (w3 := w3) (v' := v') (o := o') h1 h2)
          clear rc hbs
          generalize allG x (f * x.r.length + r) = gs at *
          have hlen : gs.length ≤ 36 := by omega
          have HL := Go.Lib.hid hl0
          have HGC := Go.Lib.hid (show gearC x (f, r) = [.int .i64 f, .int .i64 r, .int .i64 (fI x f), .int .i64 (rI x r)] from rfl)
          rw [HGC.out] at HN
          clear hl0 hmul
          generalize fI x f = tf at *
          generalize rI x r = tr at *
          go_wp2_with (at_builtin; refine wpList_append_own_at _ rfl _ _ 93 rfl W.heap.size 76 i0 (gV 0 0 0 0) 4 32 Try.underlying93 hi hz0 hz1 hz2 rfl (by decide) _ _ _ rfl (hrow.alloc _) ⟨wr.heap.size, 0, none⟩ 1 1 [.int .i64 f, .int .i64 r, .int .i64 tf, .int .i64 tr] rfl rfl (news4 _ _ _ _ _ _) (by simp [Value.oneCell']) (by unfold maxLen; omega) (by omega) (by simp; omega) ?_; intro v' w3 hown' hgrow hnil hat; clear hnil hat)
          have HGN := Go.Lib.hid (HN.out _ _ _ hown' hgrow)
          clear hown' hgrow hrow hcr
          go_wp2_with fail
          go_roundw
          case rel => exact ⟨r + 1, by omega, by go_num, by rw [HSU.out]; exact HGN.out⟩
          case measure => simp [intOf]; omega
theorem implGears (x : Trn) (A : Option Addr) (c : Nat) (B : Option Addr) (d : Nat) (w : World) (T : TrL x A c B d w) (hT : Train x) :
    Calls Try.prog 89 #[trainV x A c B d] w (fun e w' => ∃ g cap, e = .returned (.slice (some ⟨g, 0, none⟩) (ordI x).length cap) ∧ Box w' g (cellsG x (ordI x)) ∧ w.heap.size ≤ g ∧ Below w.heap.size w w') :=
  (implGearsC x A c B d w T hT).mono fun e w' h => by
    obtain ⟨g, cap, h1, h2, h3, h4, -⟩ := h
    exact ⟨g, cap, h1, h2, h3, h4⟩
end Go.Proofs.Ythedanpldebjcaa
