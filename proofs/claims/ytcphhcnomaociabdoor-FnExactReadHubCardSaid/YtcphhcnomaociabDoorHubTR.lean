/- The program's ReadHub. -/
import Derived.Test.YtcphhcnomaociabDoorPlainReadH
import Derived.Test.YtcphhcnomaociabDoorHubSmall
import Derived.Test.YtcphhcnomaociabDoorTab
namespace Go.Proofs.YtcphhcnomaociabDoor
open Go.RowKit

/-- The measures so far, in an array of four. -/
def cellsJ (X : List ByteArray) (j : Nat) : List Value := (List.range 4).map fun t => .int .i64 (if t < j then mAt X t else 0)
/-- What the program's ReadHub holds in its loop: the result's block, the words, the array of measures. -/
structure RI (w : World) (q : Nat) (A : Option Addr) (X : List ByteArray) (B qm : Nat) (cs : List Value) (W : World) : Prop where
  res : Box W q [.int .i64 0, .int .i64 0, .int .i64 0, .int .i64 0, .int .i64 0]
  words : Rd W 0 B A 5 (bas X)
  meas : Box W qm cs
  below : Below w.heap.size w W
  qB : q < B
  Bm : B ≤ qm
  wq : w.heap.size ≤ q
section
variable {w W W1 : World} {q B qm : Nat} {A : Option Addr} {X : List ByteArray} {cs : List Value}
theorem RI.call (h : RI w q A X B qm cs W) (b : Below W.heap.size W W1) : RI w q A X B qm cs W1 :=
  ⟨h.res.below b, h.words.below b (Nat.le_trans h.Bm (Nat.le_of_lt h.meas.lt)), h.meas.below b, upB h.below b, h.qB, h.Bm, h.wq⟩
theorem RI.set (h : RI w q A X B qm cs W) (k : Nat) (hk : k < cs.length) (v : Value) : RI w q A X B qm (cs.set k v) (W.setCell ⟨qm, k, none⟩ v) := by
  have hq := h.qB
  have hb := h.Bm
  have hw := h.wq
  have hB : Below B W (W.setCell ⟨qm, k, none⟩ v) := (Below.refl _ _).setCell (by simpa using hb) v
  exact ⟨h.res.other (by simp; omega) v, h.words.below hB (Nat.le_refl _), h.meas.set v hk, h.below.trans (hB.mono (by omega)), h.qB, h.Bm, h.wq⟩
end
set_option maxRecDepth 100000 in
set_option maxHeartbeats 4000000 in
theorem implReadHub (s : ByteArray) (w : World) (hs : s.size ≤ 1048576) (hm : HasMax w) (ht : Tab w) (he : HasErrs w) : Calls Tryd.prog 11 #[.string s] w (IsV w (hubR2 (readA s.data.toList))) := by
  have HS := Go.Lib.hid (fun w0 (hm : HasMax w0) => ((Tryd.strings_SplitN s ⟨#[47]⟩ 5 hm.choose w0 (by omega) hm.choose_spec (by decide) (by omega) (by omega)).mono fun e w1 ⟨he, hw⟩ => (by subst he; subst hw; exact newStrs_split (pieces5_len s) (by unfold maxLen; omega) : NewStrs w0 (pieces5 s) e w1)))
  have HSZ := Go.Lib.hid (pieces5_sizes s)
  have HMX := Go.Lib.hid (And.intro hm (And.intro hm.lt (And.intro ht he)))
  clear hm ht he
  by_cases h5 : (pieces5 s).length = 5
  · have HN0 := Go.Lib.hid (read5_noNum h5)
    have HNM := Go.Lib.hid (fun j (hj : j < 4) hn => read5_noMeas (j := j) h5 hj hn)
    have HNO := Go.Lib.hid (fun n hn hm hb => read5_no (n := n) h5 hn hm hb)
    have HYE := Go.Lib.hid (fun n hn hm hb => read5_yes (n := n) h5 hn hm hb)
    generalize pieces5 s = X at *
    have H5 := Go.Lib.hid h5
    go_enter Tryd.func11, Tryd.ntmps11
    go_wp2_with fail
    refine calls_gen (R := fun w' => Box w' w.heap.size [.int .i64 0, .int .i64 0, .int .i64 0, .int .i64 0, .int .i64 0] ∧ Below w.heap.size w w') ⟨Box.new rfl rfl, by go_grown⟩ ?_
    rintro W0 ⟨K0, B0⟩
    refine (HS.out W0 (HMX.out.1.below B0 HMX.out.2.1)).mono ?_
    rintro _ W1 ⟨A, cap, he, ho, b1⟩
    rw [h5] at he ho
    subst he
    clear h5
    have K1 := K0.below b1
    have B1 := upB B0 b1
    have hrd := ho.rd
    have hl := K0.lt
    have hz := b1.size
    have hl2 := Nat.lt_of_lt_of_le hl hz
    obtain ⟨b, o, rfl, hlo, hhi, hcs⟩ := hrd.at_ (k := 0) (by omega)
    have hc0 := hcs 0 _ (bas_at X 0 (by rw [H5.out]; omega))
    simp only [Nat.add_zero] at hc0
    have hs0 := HSZ.out (X.getD 0 ByteArray.empty) (by have := H5.out; simp [show 0 < X.length by omega])
    clear hcs
    obtain ⟨x0, hx0⟩ : ∃ x, x = X.getD 0 ByteArray.empty := ⟨_, rfl⟩
    rw [← hx0] at hc0 hs0 HN0 HNO HYE
    clear hx0
    clear K0 B0 ho b1
    go_wp2_with fail
    refine (implReadNumber x0 W1 (by omega) (HMX.out.2.2.1.below B1) (HMX.out.2.2.2.below B1)).mono ?_
    have HX0 : Hid (∃ r, numB x0.data.toList = r) := ⟨_, rfl⟩
    obtain ⟨r, hr⟩ := HX0.out
    rw [hr] at HN0 HNO HYE ⊢
    clear HX0 hr
    rintro _ W2 ⟨b2, rfl⟩
    have K2 := K1.below b2
    have B2 := upB B1 b2
    have R2 := hrd.below b2 (Nat.le_refl _)
    have z2 := b2.size
    have z1 := B1.size
    clear b2 K1 B1 hrd hc0 hs0 hl hz
    cases r with
    | none =>
      have HR := Go.Lib.hid (HN0.out rfl)
      clear HN0 HNM HNO HYE
      have c0 := K2.at_ 0 _ rfl
      have c1 := K2.at_ 1 _ rfl
      have c2 := K2.at_ 2 _ rfl
      have c3 := K2.at_ 3 _ rfl
      have c4 := K2.at_ 4 _ rfl
      have cf := K2.fr
      have cl := K2.lt
      go_wp2_with fail
      refine bodyPost_ret (v := hubR2 (zeroH, 6)) (by simp [results, Tryd.results11, go_sem, zeroH, c0, c1, c2, c3, c4, cf, cl]) rfl ⟨by rw [HR.out], by go_grown⟩
    | some n =>
      clear HN0
      go_upto_region 8 with fail
      refine wp_gen (R := RI w w.heap.size (some ⟨b, o, none⟩) X W1.heap.size W2.heap.size (cellsJ X 0)) ⟨K2.alloc _, (R2.below ((Below.refl _ _).alloc (Nat.le_refl _) _) z2).mono (Nat.zero_le _) (Nat.le_refl _), Box.new rfl rfl, B2.alloc B2.size _, hl2, z2, Nat.le_refl _⟩ ?_
      rintro W3 R3
      have R3 := Go.Lib.hid R3
      clear K2 R2 B2
      generalize W2.heap.size = qm at R3 ⊢
      generalize W1.heap.size = B at *
      clear z1 z2
      go_wp2_with fail
      go_loopw [29] (fun i wr => ∃ j : Nat, j ≤ 4 ∧ i = .int .i64 j ∧ (∀ t, t < j → mOk X t = true) ∧ RI w w.heap.size (some ⟨b, o, none⟩) X B qm (cellsJ X j) wr) (fun i _ => 4 - (intOf i).toNat)
      case atStart => exact ⟨0, by omega, rfl, fun t ht => absurd ht (by omega), R3.out⟩
      case round =>
        clear R3
        obtain ⟨j, hj, rfl, hok, hR⟩ := hrel
        have HOK := Go.Lib.hid hok
        clear hok
        obtain rfl | rfl | rfl | rfl | rfl : j = 0 ∨ j = 1 ∨ j = 2 ∨ j = 3 ∨ j = 4 := by omega
        · have hcj : cellsJ X 0 = [.int .i64 0, .int .i64 0, .int .i64 0, .int .i64 0] := rfl
          rw [hcj] at hR
          clear hcj
          have hw := hR.words.at_ (k := 1) (by omega)
          obtain ⟨b', o', he, -, hhi2, hcs⟩ := hw
          cases he
          have hc := hcs 1 _ (bas_at X 1 (by rw [H5.out]; omega))
          have hs1 := HSZ.out (X.getD 1 ByteArray.empty) (by have := H5.out; simp [show 1 < X.length by omega])
          clear hcs
          obtain ⟨x1, hx1⟩ : ∃ x, x = X.getD 1 ByteArray.empty := ⟨_, rfl⟩
          rw [← hx1] at hc hs1
          have hmv : mAt X 0 = (readsM x1.data.toList).getD 0 := by rw [hx1]; rfl
          have hmo : mOk X 0 = (readsM x1.data.toList).isSome := by rw [hx1]; rfl
          clear hx1
          have HM := Go.Lib.hid (implReadMeasure x1 wr (by omega) (HMX.out.1.below hR.below HMX.out.2.1) (HMX.out.2.2.1.below hR.below) (HMX.out.2.2.2.below hR.below))
          generalize readsM x1.data.toList = r at HM hmv hmo
          have hlt0 : b < wr.heap.size := by have := hR.Bm; have := hR.meas.lt; omega
          go_wp2_with fail
          refine HM.out.mono ?_
          rintro _ V ⟨b5, rfl⟩
          have R5 := hR.call b5
          have K5 := R5.res
          have M5 := R5.meas
          have B5 := R5.below
          clear hR b5 hc HM
          cases r with
          | none =>
            have HR := Go.Lib.hid (HNM.out 0 (by omega) hmo)
            clear HNM HNO HYE hmv hmo R5 M5
            have c0 := K5.at_ 0 _ rfl
            have c1 := K5.at_ 1 _ rfl
            have c2 := K5.at_ 2 _ rfl
            have c3 := K5.at_ 3 _ rfl
            have c4 := K5.at_ 4 _ rfl
            have cf := K5.fr
            have cl := K5.lt
            go_wp2_with fail
            refine bodyPost_ret (v := hubR2 (zeroH, 6)) (by simp [results, Tryd.results11, go_sem, zeroH, c0, c1, c2, c3, c4, cf, cl]) rfl ⟨by rw [HR.out], by go_grown⟩
          | some m =>
            have hm2 : mAt X 0 = m := hmv
            have hok2 : ∀ t, t < 1 → mOk X t = true := fun t ht => by
              rcases Nat.lt_or_ge t 0 with h | h
              · exact HOK.out t h
              · obtain rfl : t = 0 := by omega
                exact hmo
            have HOK2 := Go.Lib.hid hok2
            have hnx : ([.int .i64 0, .int .i64 0, .int .i64 0, .int .i64 0] : List Value).set 0 (.int .i64 m) = cellsJ X 1 := by rw [← hm2]; rfl
            have RN := R5.set 0 (by simp) (.int .i64 m)
            rw [hnx] at RN
            have RN := Go.Lib.hid RN
            clear hok2 hmv hmo hm2 hnx R5 K5 B5 HOK
            have y0 := M5.at_ 0 _ rfl
            have y1 := M5.at_ 1 _ rfl
            have y2 := M5.at_ 2 _ rfl
            have y3 := M5.at_ 3 _ rfl
            have yf := M5.fr
            have yl := M5.lt
            go_wp2_with fail
            go_roundw
            case rel => exact ⟨1, by omega, by go_num, HOK2.out, RN.out⟩
            case measure => simp [intOf]
        · have hcj : cellsJ X 1 = [.int .i64 (mAt X 0), .int .i64 0, .int .i64 0, .int .i64 0] := rfl
          rw [hcj] at hR
          clear hcj
          have hw := hR.words.at_ (k := 2) (by omega)
          obtain ⟨b', o', he, -, hhi2, hcs⟩ := hw
          cases he
          have hc := hcs 2 _ (bas_at X 2 (by rw [H5.out]; omega))
          have hs1 := HSZ.out (X.getD 2 ByteArray.empty) (by have := H5.out; simp [show 2 < X.length by omega])
          clear hcs
          obtain ⟨x1, hx1⟩ : ∃ x, x = X.getD 2 ByteArray.empty := ⟨_, rfl⟩
          rw [← hx1] at hc hs1
          have hmv : mAt X 1 = (readsM x1.data.toList).getD 0 := by rw [hx1]; rfl
          have hmo : mOk X 1 = (readsM x1.data.toList).isSome := by rw [hx1]; rfl
          clear hx1
          have HM := Go.Lib.hid (implReadMeasure x1 wr (by omega) (HMX.out.1.below hR.below HMX.out.2.1) (HMX.out.2.2.1.below hR.below) (HMX.out.2.2.2.below hR.below))
          generalize readsM x1.data.toList = r at HM hmv hmo
          have hlt0 : b < wr.heap.size := by have := hR.Bm; have := hR.meas.lt; omega
          go_wp2_with fail
          refine HM.out.mono ?_
          rintro _ V ⟨b5, rfl⟩
          have R5 := hR.call b5
          have K5 := R5.res
          have M5 := R5.meas
          have B5 := R5.below
          clear hR b5 hc HM
          cases r with
          | none =>
            have HR := Go.Lib.hid (HNM.out 1 (by omega) hmo)
            clear HNM HNO HYE hmv hmo R5 M5
            have c0 := K5.at_ 0 _ rfl
            have c1 := K5.at_ 1 _ rfl
            have c2 := K5.at_ 2 _ rfl
            have c3 := K5.at_ 3 _ rfl
            have c4 := K5.at_ 4 _ rfl
            have cf := K5.fr
            have cl := K5.lt
            go_wp2_with fail
            refine bodyPost_ret (v := hubR2 (zeroH, 6)) (by simp [results, Tryd.results11, go_sem, zeroH, c0, c1, c2, c3, c4, cf, cl]) rfl ⟨by rw [HR.out], by go_grown⟩
          | some m =>
            have hm2 : mAt X 1 = m := hmv
            have hok2 : ∀ t, t < 2 → mOk X t = true := fun t ht => by
              rcases Nat.lt_or_ge t 1 with h | h
              · exact HOK.out t h
              · obtain rfl : t = 1 := by omega
                exact hmo
            have HOK2 := Go.Lib.hid hok2
            have hnx : ([.int .i64 (mAt X 0), .int .i64 0, .int .i64 0, .int .i64 0] : List Value).set 1 (.int .i64 m) = cellsJ X 2 := by rw [← hm2]; rfl
            have RN := R5.set 1 (by simp) (.int .i64 m)
            rw [hnx] at RN
            have RN := Go.Lib.hid RN
            clear hok2 hmv hmo hm2 hnx R5 K5 B5 HOK
            have y0 := M5.at_ 0 _ rfl
            have y1 := M5.at_ 1 _ rfl
            have y2 := M5.at_ 2 _ rfl
            have y3 := M5.at_ 3 _ rfl
            have yf := M5.fr
            have yl := M5.lt
            go_wp2_with fail
            go_roundw
            case rel => exact ⟨2, by omega, by go_num, HOK2.out, RN.out⟩
            case measure => simp [intOf]
        · have hcj : cellsJ X 2 = [.int .i64 (mAt X 0), .int .i64 (mAt X 1), .int .i64 0, .int .i64 0] := rfl
          rw [hcj] at hR
          clear hcj
          have hw := hR.words.at_ (k := 3) (by omega)
          obtain ⟨b', o', he, -, hhi2, hcs⟩ := hw
          cases he
          have hc := hcs 3 _ (bas_at X 3 (by rw [H5.out]; omega))
          have hs1 := HSZ.out (X.getD 3 ByteArray.empty) (by have := H5.out; simp [show 3 < X.length by omega])
          clear hcs
          obtain ⟨x1, hx1⟩ : ∃ x, x = X.getD 3 ByteArray.empty := ⟨_, rfl⟩
          rw [← hx1] at hc hs1
          have hmv : mAt X 2 = (readsM x1.data.toList).getD 0 := by rw [hx1]; rfl
          have hmo : mOk X 2 = (readsM x1.data.toList).isSome := by rw [hx1]; rfl
          clear hx1
          have HM := Go.Lib.hid (implReadMeasure x1 wr (by omega) (HMX.out.1.below hR.below HMX.out.2.1) (HMX.out.2.2.1.below hR.below) (HMX.out.2.2.2.below hR.below))
          generalize readsM x1.data.toList = r at HM hmv hmo
          have hlt0 : b < wr.heap.size := by have := hR.Bm; have := hR.meas.lt; omega
          go_wp2_with fail
          refine HM.out.mono ?_
          rintro _ V ⟨b5, rfl⟩
          have R5 := hR.call b5
          have K5 := R5.res
          have M5 := R5.meas
          have B5 := R5.below
          clear hR b5 hc HM
          cases r with
          | none =>
            have HR := Go.Lib.hid (HNM.out 2 (by omega) hmo)
            clear HNM HNO HYE hmv hmo R5 M5
            have c0 := K5.at_ 0 _ rfl
            have c1 := K5.at_ 1 _ rfl
            have c2 := K5.at_ 2 _ rfl
            have c3 := K5.at_ 3 _ rfl
            have c4 := K5.at_ 4 _ rfl
            have cf := K5.fr
            have cl := K5.lt
            go_wp2_with fail
            refine bodyPost_ret (v := hubR2 (zeroH, 6)) (by simp [results, Tryd.results11, go_sem, zeroH, c0, c1, c2, c3, c4, cf, cl]) rfl ⟨by rw [HR.out], by go_grown⟩
          | some m =>
            have hm2 : mAt X 2 = m := hmv
            have hok2 : ∀ t, t < 3 → mOk X t = true := fun t ht => by
              rcases Nat.lt_or_ge t 2 with h | h
              · exact HOK.out t h
              · obtain rfl : t = 2 := by omega
                exact hmo
            have HOK2 := Go.Lib.hid hok2
            have hnx : ([.int .i64 (mAt X 0), .int .i64 (mAt X 1), .int .i64 0, .int .i64 0] : List Value).set 2 (.int .i64 m) = cellsJ X 3 := by rw [← hm2]; rfl
            have RN := R5.set 2 (by simp) (.int .i64 m)
            rw [hnx] at RN
            have RN := Go.Lib.hid RN
            clear hok2 hmv hmo hm2 hnx R5 K5 B5 HOK
            have y0 := M5.at_ 0 _ rfl
            have y1 := M5.at_ 1 _ rfl
            have y2 := M5.at_ 2 _ rfl
            have y3 := M5.at_ 3 _ rfl
            have yf := M5.fr
            have yl := M5.lt
            go_wp2_with fail
            go_roundw
            case rel => exact ⟨3, by omega, by go_num, HOK2.out, RN.out⟩
            case measure => simp [intOf]
        · have hcj : cellsJ X 3 = [.int .i64 (mAt X 0), .int .i64 (mAt X 1), .int .i64 (mAt X 2), .int .i64 0] := rfl
          rw [hcj] at hR
          clear hcj
          have hw := hR.words.at_ (k := 4) (by omega)
          obtain ⟨b', o', he, -, hhi2, hcs⟩ := hw
          cases he
          have hc := hcs 4 _ (bas_at X 4 (by rw [H5.out]; omega))
          have hs1 := HSZ.out (X.getD 4 ByteArray.empty) (by have := H5.out; simp [show 4 < X.length by omega])
          clear hcs
          obtain ⟨x1, hx1⟩ : ∃ x, x = X.getD 4 ByteArray.empty := ⟨_, rfl⟩
          rw [← hx1] at hc hs1
          have hmv : mAt X 3 = (readsM x1.data.toList).getD 0 := by rw [hx1]; rfl
          have hmo : mOk X 3 = (readsM x1.data.toList).isSome := by rw [hx1]; rfl
          clear hx1
          have HM := Go.Lib.hid (implReadMeasure x1 wr (by omega) (HMX.out.1.below hR.below HMX.out.2.1) (HMX.out.2.2.1.below hR.below) (HMX.out.2.2.2.below hR.below))
          generalize readsM x1.data.toList = r at HM hmv hmo
          have hlt0 : b < wr.heap.size := by have := hR.Bm; have := hR.meas.lt; omega
          go_wp2_with fail
          refine HM.out.mono ?_
          rintro _ V ⟨b5, rfl⟩
          have R5 := hR.call b5
          have K5 := R5.res
          have M5 := R5.meas
          have B5 := R5.below
          clear hR b5 hc HM
          cases r with
          | none =>
            have HR := Go.Lib.hid (HNM.out 3 (by omega) hmo)
            clear HNM HNO HYE hmv hmo R5 M5
            have c0 := K5.at_ 0 _ rfl
            have c1 := K5.at_ 1 _ rfl
            have c2 := K5.at_ 2 _ rfl
            have c3 := K5.at_ 3 _ rfl
            have c4 := K5.at_ 4 _ rfl
            have cf := K5.fr
            have cl := K5.lt
            go_wp2_with fail
            refine bodyPost_ret (v := hubR2 (zeroH, 6)) (by simp [results, Tryd.results11, go_sem, zeroH, c0, c1, c2, c3, c4, cf, cl]) rfl ⟨by rw [HR.out], by go_grown⟩
          | some m =>
            have hm2 : mAt X 3 = m := hmv
            have hok2 : ∀ t, t < 4 → mOk X t = true := fun t ht => by
              rcases Nat.lt_or_ge t 3 with h | h
              · exact HOK.out t h
              · obtain rfl : t = 3 := by omega
                exact hmo
            have HOK2 := Go.Lib.hid hok2
            have hnx : ([.int .i64 (mAt X 0), .int .i64 (mAt X 1), .int .i64 (mAt X 2), .int .i64 0] : List Value).set 3 (.int .i64 m) = cellsJ X 4 := by rw [← hm2]; rfl
            have RN := R5.set 3 (by simp) (.int .i64 m)
            rw [hnx] at RN
            have RN := Go.Lib.hid RN
            clear hok2 hmv hmo hm2 hnx R5 K5 B5 HOK
            have y0 := M5.at_ 0 _ rfl
            have y1 := M5.at_ 1 _ rfl
            have y2 := M5.at_ 2 _ rfl
            have y3 := M5.at_ 3 _ rfl
            have yf := M5.fr
            have yl := M5.lt
            go_wp2_with fail
            go_roundw
            case rel => exact ⟨4, by omega, by go_num, HOK2.out, RN.out⟩
            case measure => simp [intOf]
        · have hcj : cellsJ X 4 = [.int .i64 (mAt X 0), .int .i64 (mAt X 1), .int .i64 (mAt X 2), .int .i64 (mAt X 3)] := rfl
          rw [hcj] at hR
          clear hcj
          have HNO2 := Go.Lib.hid (HNO.out n rfl HOK.out)
          have HYE2 := Go.Lib.hid (HYE.out n rfl HOK.out)
          clear HNO HYE HNM HOK
          generalize mAt X 0 = m0 at hR HNO2 HYE2
          generalize mAt X 1 = m1 at hR HNO2 HYE2
          generalize mAt X 2 = m2 at hR HNO2 HYE2
          generalize mAt X 3 = m3 at hR HNO2 HYE2
          have Kr := hR.res
          have M := hR.meas
          have Bw := hR.below
          have n1 := hR.res.lt
          clear hR
          have y0 := M.at_ 0 _ rfl
          have y1 := M.at_ 1 _ rfl
          have y2 := M.at_ 2 _ rfl
          have y3 := M.at_ 3 _ rfl
          have yf := M.fr
          have yl := M.lt
          go_upto_region 17 with fail
          refine wp_gen (R := fun w' => Box w' w.heap.size [.int .i64 0, .int .i64 0, .int .i64 0, .int .i64 0, .int .i64 0] ∧ Box w' wr.heap.size [.int .i64 n, .int .i64 m0, .int .i64 m1, .int .i64 m2, .int .i64 m3] ∧ Below w.heap.size w w') ⟨Kr.alloc _, Box.new rfl rfl, Bw.alloc Bw.size _⟩ ?_
          rintro V4 ⟨K6, H6, B6⟩
          clear Kr M Bw
          generalize wr.heap.size = qh at *
          have HI := Go.Lib.hid (fun w0 => implHubValid ⟨n, m0, m1, m2, m3⟩ w0)
          have d0 := H6.at_ 0 _ rfl
          have d1 := H6.at_ 1 _ rfl
          have d2 := H6.at_ 2 _ rfl
          have d3 := H6.at_ 3 _ rfl
          have d4 := H6.at_ 4 _ rfl
          have df := H6.fr
          have dl := H6.lt
          go_wp2_with fail
          refine (HI.out _).mono ?_
          rintro _ W7 ⟨rfl, b7⟩
          have K7 := K6.below b7
          have H7 := H6.below b7
          have B7 := upB B6 b7
          clear K6 H6 B6 b7 d0 d1 d2 d3 d4 df dl
          have c0 := K7.at_ 0 _ rfl
          have c1 := K7.at_ 1 _ rfl
          have c2 := K7.at_ 2 _ rfl
          have c3 := K7.at_ 3 _ rfl
          have c4 := K7.at_ 4 _ rfl
          have cf := K7.fr
          have cl := K7.lt
          have d0 := H7.at_ 0 _ rfl
          have d1 := H7.at_ 1 _ rfl
          have d2 := H7.at_ 2 _ rfl
          have d3 := H7.at_ 3 _ rfl
          have d4 := H7.at_ 4 _ rfl
          have df := H7.fr
          have dl := H7.lt
          cases hb : hubB ⟨n, m0, m1, m2, m3⟩
          · have HR := Go.Lib.hid (HNO2.out hb)
            clear HNO2 HYE2 hb
            go_wp2_with fail
            refine bodyPost_ret (v := hubR2 (zeroH, 6)) (by simp [results, Tryd.results11, go_sem, zeroH, c0, c1, c2, c3, c4, cf, cl]) rfl ⟨by rw [HR.out], by go_grown⟩
          · have HR := Go.Lib.hid (HYE2.out hb)
            clear HNO2 HYE2 hb
            go_wp2_with fail
            refine bodyPost_ret (v := hubR2 (⟨n, m0, m1, m2, m3⟩, 0)) (by simp [results, Tryd.results11, go_sem, c0, c1, c2, c3, c4, cf, cl]) rfl ⟨by rw [HR.out], by go_grown⟩
  · have HR := Go.Lib.hid (read5_short h5)
    generalize pieces5 s = X at HS h5
    have hne : ((X.length : Int) != 5) = true := by simp; omega
    clear h5 HSZ
    go_enter Tryd.func11, Tryd.ntmps11
    go_wp2_with fail
    refine calls_gen (R := fun w' => Box w' w.heap.size [.int .i64 0, .int .i64 0, .int .i64 0, .int .i64 0, .int .i64 0] ∧ Below w.heap.size w w') ⟨Box.new rfl rfl, by go_grown⟩ ?_
    rintro W0 ⟨K0, B0⟩
    refine (HS.out W0 (HMX.out.1.below B0 HMX.out.2.1)).mono ?_
    rintro _ W1 ⟨A, cap, rfl, ho, b1⟩
    have K1 := K0.below b1
    have B1 := upB B0 b1
    clear b1 K0 B0 ho
    have c0 := K1.at_ 0 _ rfl
    have c1 := K1.at_ 1 _ rfl
    have c2 := K1.at_ 2 _ rfl
    have c3 := K1.at_ 3 _ rfl
    have c4 := K1.at_ 4 _ rfl
    have cf := K1.fr
    have cl := K1.lt
    go_wp2_with fail
    refine bodyPost_ret (v := hubR2 (zeroH, 6)) (by simp [results, Tryd.results11, go_sem, zeroH, c0, c1, c2, c3, c4, cf, cl]) rfl ⟨by rw [HR.out], by go_grown⟩
end Go.Proofs.YtcphhcnomaociabDoor
