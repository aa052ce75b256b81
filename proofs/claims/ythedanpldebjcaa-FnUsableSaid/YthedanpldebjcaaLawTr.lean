/- The laws' helpers on drive trains. -/
import Derived.Test.YthedanpldebjcaaGearS1
import Derived.Test.YthedanpldebjcaaInts
import Derived.Test.YthedanpldebjcaaHold
import Derived.Test.YthedanpldebjcaaMgUsable8
namespace Go.Proofs.Ythedanpldebjcaa
open Go.RowKit
set_option linter.unusedSimpArgs false
set_option linter.unusedVariables false

/-- A train's lists of the call's own, one above the other. -/
def OwnTr (x : Trn) (A : Option Addr) (c : Nat) (B : Option Addr) (d : Nat) : Item := fun W lo hi => ∃ mid, lo ≤ mid ∧ mid ≤ hi ∧ Ow W lo mid 2 A x.f.length c (ints x.f) ∧ Ow W mid hi 2 B x.r.length d (ints x.r)
theorem OwnTr.loc (x : Trn) (A : Option Addr) (c : Nat) (B : Option Addr) (d : Nat) : Loc (OwnTr x A c B d) := fun W W1 lo hi k ⟨mid, h1, h2, o1, o2⟩ =>
  ⟨mid, h1, h2, o1.of_blocks fun j hj hj2 => k j hj (by omega), o2.of_blocks fun j hj hj2 => k j (by omega) hj2⟩
/-- Lists short enough. -/
structure FewT (x : Trn) : Prop where
  f : x.f.length ≤ 1048576
  r : x.r.length ≤ 1048576
theorem OwnTr.trl {x : Trn} {A : Option Addr} {c : Nat} {B : Option Addr} {d : Nat} {W : World} {lo hi : Nat} (h : OwnTr x A c B d W lo hi) (hh : hi ≤ W.heap.size) (few : FewT x) : TrL x A c B d W := by
  obtain ⟨mid, h1, h2, o1, o2⟩ := h
  exact ⟨⟨o1.rd.mono (Nat.zero_le _) (by omega), o1.le, few.f⟩, ⟨o2.rd.mono (Nat.zero_le _) hh, o2.le, few.r⟩⟩
/-- A train that came in. -/
structure InTr (x : Trn) (A : Option Addr) (c : Nat) (B : Option Addr) (d : Nat) (w : World) : Prop where
  f : Rd w 0 w.heap.size A x.f.length (ints x.f)
  fc : x.f.length ≤ c
  fm : x.f.length ≤ maxLen
  r : Rd w 0 w.heap.size B x.r.length (ints x.r)
  rc : x.r.length ≤ d
  rm : x.r.length ≤ maxLen
theorem InTr.trl {x : Trn} {A : Option Addr} {c : Nat} {B : Option Addr} {d : Nat} {w : World} (h : InTr x A c B d w) (few : FewT x) : TrL x A c B d w := ⟨⟨h.f, h.fc, few.f⟩, ⟨h.r, h.rc, few.r⟩⟩
def NewTr (x : Trn) (w : World) (e : Ending) (w' : World) : Prop := ∃ A c B d, e = .returned (trainV x A c B d) ∧ OwnTr x A c B d w' w.heap.size w'.heap.size ∧ Below w.heap.size w w'
set_option maxRecDepth 100000 in
set_option maxHeartbeats 8000000 in
theorem law_toTrain (x : Trn) (A : Option Addr) (c : Nat) (B : Option Addr) (d : Nat) (w : World) (T : TrL x A c B d w) :
    Calls Try.prog 40 #[trainV x A c B d] w (NewTr x w) := by
  have HF := Go.Lib.hid (fun w0 (L : Ls x.f A c w0) => toInts A x.f.length c x.f 0 w0 L.rd (by have := L.few; omega))
  have HR := Go.Lib.hid (fun w0 (L : Ls x.r B d w0) => toInts B x.r.length d x.r 0 w0 L.rd (by have := L.few; omega))
  have HT := Go.Lib.hid T
  clear T
  unfold trainV
  go_enter Try.func40, Try.ntmps40
  go_upto_region 2 with fail
  refine wp_gen (R := fun W => Box W w.heap.size [.slice A x.f.length c, .slice B x.r.length d, .int .i64 x.n] ∧ Box W (w.heap.size + 1) [.slice none 0 0, .slice none 0 0, .int .i64 0] ∧ Box W (w.heap.size + 2) [.slice none 0 0, .slice none 0 0, .int .i64 0] ∧ Below w.heap.size w W ∧ W.heap.size = w.heap.size + 3) ⟨((Box.new rfl rfl).alloc _).alloc _, (Box.new (by simp) rfl).alloc _, Box.new (by simp) rfl, by go_grown, by simp⟩ ?_
  rintro W1 ⟨K0, K1, K2, B1, Z1⟩
  have HT1 := Go.Lib.hid (HT.out.below B1)
  have k0_0 := K0.at_ 0 _ rfl
  have k0_1 := K0.at_ 1 _ rfl
  have k0_2 := K0.at_ 2 _ rfl
  have k0_f := K0.fr
  have k0_l := K0.lt
  go_wp2_with fail
  refine (HF.out _ HT1.out.f).mono ?_
  rintro _ W2 ⟨A1, c1, rfl, o1, b2⟩
  clear k0_0 k0_1 k0_2 k0_f k0_l
  have K0 := K0.below b2
  have K1 := K1.below b2
  have K2 := K2.below b2
  have hs2 := b2.size
  have B2 := upB B1 b2
  have k2_0 := K2.at_ 0 _ rfl
  have k2_1 := K2.at_ 1 _ rfl
  have k2_2 := K2.at_ 2 _ rfl
  have k2_f := K2.fr
  have k2_l := K2.lt
  go_upto_region 3 with fail
  refine wp_gen (R := fun W => Box W w.heap.size [.slice A x.f.length c, .slice B x.r.length d, .int .i64 x.n] ∧ Box W (w.heap.size + 1) [.slice none 0 0, .slice none 0 0, .int .i64 0] ∧ Box W (w.heap.size + 2) [.slice A1 x.f.length c1, .slice none 0 0, .int .i64 0] ∧ Ow W W1.heap.size W2.heap.size 2 A1 x.f.length c1 (ints x.f) ∧ Below w.heap.size w W ∧ W.heap.size = W2.heap.size) ⟨K0.other (by simp <;> omega) _, K1.other (by simp <;> omega) _, K2.set _ (by simp), o1.keep ((Keep.refl (w.heap.size + 2) (w.heap.size + 3) W2).setCell (p := ⟨w.heap.size + 2, 0, none⟩) (Nat.le_refl _) (Nat.lt_succ_self _) _) (Nat.le_refl _) (.inr (by omega)), by go_grown, by simp⟩ ?_
  clear k2_0 k2_1 k2_2 k2_f k2_l
  clear K0 K1 K2 o1 b2 B2 
  rintro W3 ⟨K0, K1, K2, o1, B3, Z3⟩
  have HT3 := Go.Lib.hid (HT.out.below B3)
  have k0_0 := K0.at_ 0 _ rfl
  have k0_1 := K0.at_ 1 _ rfl
  have k0_2 := K0.at_ 2 _ rfl
  have k0_f := K0.fr
  have k0_l := K0.lt
  go_wp2_with fail
  refine (HR.out _ HT3.out.r).mono ?_
  rintro _ W4 ⟨A2, c2, rfl, o2, b4⟩
  clear k0_0 k0_1 k0_2 k0_f k0_l
  have K0 := K0.below b4
  have K1 := K1.below b4
  have K2 := K2.below b4
  have hs4 := b4.size
  have B4 := upB B3 b4
  have o1 := o1.below b4 (by omega)
  have k2_0 := K2.at_ 0 _ rfl
  have k2_1 := K2.at_ 1 _ rfl
  have k2_2 := K2.at_ 2 _ rfl
  have k2_f := K2.fr
  have k2_l := K2.lt
  have k0_0 := K0.at_ 0 _ rfl
  have k0_1 := K0.at_ 1 _ rfl
  have k0_2 := K0.at_ 2 _ rfl
  have k0_f := K0.fr
  have k0_l := K0.lt
  go_upto_region 4 with fail
  refine wp_gen (R := fun W => Box W w.heap.size [.slice A x.f.length c, .slice B x.r.length d, .int .i64 x.n] ∧ Box W (w.heap.size + 1) [.slice none 0 0, .slice none 0 0, .int .i64 0] ∧ Box W (w.heap.size + 2) [.slice A1 x.f.length c1, .slice A2 x.r.length c2, .int .i64 0] ∧ Ow W W1.heap.size W2.heap.size 2 A1 x.f.length c1 (ints x.f) ∧ Ow W W2.heap.size W4.heap.size 2 A2 x.r.length c2 (ints x.r) ∧ Below w.heap.size w W ∧ W.heap.size = W4.heap.size) ⟨K0.other (by simp <;> omega) _, K1.other (by simp <;> omega) _, K2.set _ (by simp), o1.keep ((Keep.refl (w.heap.size + 2) (w.heap.size + 3) W4).setCell (p := ⟨w.heap.size + 2, 1, none⟩) (Nat.le_refl _) (Nat.lt_succ_self _) _) (by omega) (.inr (by omega)), Z3 ▸ o2.keep ((Keep.refl (w.heap.size + 2) (w.heap.size + 3) W4).setCell (p := ⟨w.heap.size + 2, 1, none⟩) (Nat.le_refl _) (Nat.lt_succ_self _) _) (Nat.le_refl _) (.inr (by omega)), by go_grown, by simp⟩ ?_
  clear k2_0 k2_1 k2_2 k2_f k2_l k0_0 k0_1 k0_2 k0_f k0_l
  clear K0 K1 K2 o1 o2 b4 B4
  rintro W5 ⟨K0, K1, K2, o1, o2, B5, Z5⟩
  have k2_0 := K2.at_ 0 _ rfl
  have k2_1 := K2.at_ 1 _ rfl
  have k2_2 := K2.at_ 2 _ rfl
  have k2_f := K2.fr
  have k2_l := K2.lt
  have k0_0 := K0.at_ 0 _ rfl
  have k0_1 := K0.at_ 1 _ rfl
  have k0_2 := K0.at_ 2 _ rfl
  have k0_f := K0.fr
  have k0_l := K0.lt
  have k1_0 := K1.at_ 0 _ rfl
  have k1_1 := K1.at_ 1 _ rfl
  have k1_2 := K1.at_ 2 _ rfl
  have k1_f := K1.fr
  have k1_l := K1.lt
  go_upto_region 5 with fail
  refine wp_gen (R := fun W => Box W (w.heap.size + 1) [.slice none 0 0, .slice none 0 0, .int .i64 0] ∧ Box W (w.heap.size + 2) [.slice A1 x.f.length c1, .slice A2 x.r.length c2, .int .i64 x.n] ∧ Ow W W1.heap.size W2.heap.size 2 A1 x.f.length c1 (ints x.f) ∧ Ow W W2.heap.size W4.heap.size 2 A2 x.r.length c2 (ints x.r) ∧ Below w.heap.size w W ∧ W.heap.size = W4.heap.size) ⟨K1.other (by simp <;> omega) _, K2.set _ (by simp), o1.keep ((Keep.refl (w.heap.size + 2) (w.heap.size + 3) W5).setCell (p := ⟨w.heap.size + 2, 2, none⟩) (Nat.le_refl _) (Nat.lt_succ_self _) _) (by omega) (.inr (by omega)), o2.keep ((Keep.refl (w.heap.size + 2) (w.heap.size + 3) W5).setCell (p := ⟨w.heap.size + 2, 2, none⟩) (Nat.le_refl _) (Nat.lt_succ_self _) _) (by omega) (.inr (by omega)), by go_grown, by simpa using Z5⟩ ?_
  clear k2_0 k2_1 k2_2 k2_f k2_l k0_0 k0_1 k0_2 k0_f k0_l k1_0 k1_1 k1_2 k1_f k1_l
  clear K0 K1 K2 o1 o2 B5 Z5
  rintro W6 ⟨K1, K2, o1, o2, B6, Z6⟩
  have k2_0 := K2.at_ 0 _ rfl
  have k2_1 := K2.at_ 1 _ rfl
  have k2_2 := K2.at_ 2 _ rfl
  have k2_f := K2.fr
  have k2_l := K2.lt
  have k1_0 := K1.at_ 0 _ rfl
  have k1_1 := K1.at_ 1 _ rfl
  have k1_2 := K1.at_ 2 _ rfl
  have k1_f := K1.fr
  have k1_l := K1.lt
  go_wp2_with fail
  refine bodyPost_ret (v := trainV x A1 c1 A2 c2) (by simp [results, trainV, Try.results40, go_sem, *]) rfl ?_
  have k := (((Keep.refl (w.heap.size + 1) (w.heap.size + 2) W6).setCell (p := ⟨w.heap.size + 1, 0, none⟩) (Nat.le_refl _) (Nat.lt_succ_self _) (.slice A1 x.f.length c1)).setCell (p := ⟨w.heap.size + 1, 1, none⟩) (Nat.le_refl _) (Nat.lt_succ_self _) (.slice A2 x.r.length c2)).setCell (p := ⟨w.heap.size + 1, 2, none⟩) (Nat.le_refl _) (Nat.lt_succ_self _) (.int .i64 x.n)
  exact ⟨A1, c1, A2, c2, rfl, ⟨W2.heap.size, by omega, by have := k.size; omega, (o1.keep k (by omega) (.inr (by omega))).lower (by omega), (o2.keep k (by omega) (.inr (by omega))).raise (by have := k.size; omega)⟩, by go_grown⟩
set_option maxRecDepth 100000 in
set_option maxHeartbeats 4000000 in
theorem law_eqTrain (x : Trn) (A : Option Addr) (c : Nat) (B : Option Addr) (d : Nat) (A2 : Option Addr) (c2 : Nat) (B2 : Option Addr) (d2 : Nat) (w : World) (T : TrL x A c B d w) (T2 : TrL x A2 c2 B2 d2 w) :
    Calls Try.prog 41 #[trainV x A c B d, trainV x A2 c2 B2 d2] w (IsV w (.bool true)) := by
  have HF := Go.Lib.hid (fun w0 (L : Ls x.f A c w0) (L2 : Ls x.f A2 c2 w0) => eqInts_same A A2 x.f.length c c2 x.f _ _ _ _ w0 L.rd L2.rd (by have := L.few; omega))
  have HR := Go.Lib.hid (fun w0 (L : Ls x.r B d w0) (L2 : Ls x.r B2 d2 w0) => eqInts_same B B2 x.r.length d d2 x.r _ _ _ _ w0 L.rd L2.rd (by have := L.few; omega))
  have HT := Go.Lib.hid T
  have HT2 := Go.Lib.hid T2
  clear T T2
  unfold trainV
  go_enter Try.func41, Try.ntmps41
  go_upto_region 1 with fail
  refine wp_gen (R := fun W => Box W w.heap.size [.slice A x.f.length c, .slice B x.r.length d, .int .i64 x.n] ∧ Box W (w.heap.size + 1) [.slice A2 x.f.length c2, .slice B2 x.r.length d2, .int .i64 x.n] ∧ Below w.heap.size w W) ⟨(Box.new rfl rfl).alloc _, Box.new (by simp) rfl, by go_grown⟩ ?_
  rintro W1 ⟨K0, K1, B1⟩
  have HT1 := Go.Lib.hid (HT.out.below B1)
  have HT21 := Go.Lib.hid (HT2.out.below B1)
  have k0_0 := K0.at_ 0 _ rfl
  have k0_1 := K0.at_ 1 _ rfl
  have k0_2 := K0.at_ 2 _ rfl
  have k0_f := K0.fr
  have k0_l := K0.lt
  have k1_0 := K1.at_ 0 _ rfl
  have k1_1 := K1.at_ 1 _ rfl
  have k1_2 := K1.at_ 2 _ rfl
  have k1_f := K1.fr
  have k1_l := K1.lt
  go_wp2_with fail
  refine (HF.out _ HT1.out.f HT21.out.f).mono ?_
  rintro _ _ ⟨rfl, m1, rfl⟩
  go_wp2_with fail
  refine (HR.out _ (HT1.out.r.drewN _) (HT21.out.r.drewN _)).mono ?_
  rintro _ _ ⟨rfl, m2, rfl⟩
  go_wp2_with fail
  go_ret
  exact ⟨rfl, below_drewN B1 _⟩
set_option maxRecDepth 100000 in
set_option maxHeartbeats 4000000 in
theorem law_szInts (A : Option Addr) (n c : Nat) (l : Int) (w : World) (h0 : 0 ≤ l) (h1 : l ≤ 1048576) (hn : n ≤ maxLen) :
    Calls Try.prog 76 #[.slice A n c, .int .i64 l] w (IsV w (.int .i64 (if l - n < 0 then -1 else l - n))) := by
  unfold maxLen at hn
  have e : IntKind.i64.wrap (l - n) = l - n := IntWalk.i64_in _ (by omega)
  by_cases hl : l - n < 0
  case pos =>
    have HV := Go.Lib.hid (show (if l - n < 0 then (-1 : Int) else l - n) = -1 from if_pos hl)
    go_enter Try.func76, Try.ntmps76
    go_wp2_with fail
    go_ret
    exact ⟨by first | rfl | (rw [HV.out]; rfl), by go_grown⟩
  case neg =>
    have HV := Go.Lib.hid (show (if l - n < 0 then (-1 : Int) else l - n) = l - n from if_neg hl)
    go_enter Try.func76, Try.ntmps76
    go_wp2_with fail
    go_ret
    exact ⟨by first | rfl | (rw [HV.out]; rfl), by go_grown⟩
def szT (f r : Nat) (l : Int) : Int := if l - f < 0 then -1 else if l - f - r < 0 then -1 else l - f - r
theorem szT_neg {f r : Nat} {l : Int} (h : szT f r l < 0) : szT f r l = -1 := by
  unfold szT at *
  split at h
  · rw [if_pos (by assumption)]
  · rw [if_neg (by assumption)]
    split at h
    · rw [if_pos (by assumption)]
    · omega
theorem szT_few {x : Trn} (h : ¬ szT x.f.length x.r.length 1048576 < 0) : FewT x := by
  unfold szT at h
  split at h
  · omega
  · split at h
    · omega
    · exact ⟨by omega, by omega⟩
set_option maxRecDepth 100000 in
set_option maxHeartbeats 4000000 in
theorem law_szTrain (x : Value) (A : Option Addr) (n c : Nat) (B : Option Addr) (m d : Nat) (q l : Int) (w : World) (h0 : 0 ≤ l) (h1 : l ≤ 1048576) (hn : n ≤ maxLen) (hm : m ≤ maxLen) :
    Calls Try.prog 39 #[.agg #[.slice A n c, .slice B m d, .int .i64 q], .int .i64 l] w (IsV w (.int .i64 (szT n m l))) := by
  have HF := Go.Lib.hid (fun w0 => law_szInts A n c l w0 h0 h1 hn)
  by_cases hl : l - n < 0
  case pos =>
    have HV := Go.Lib.hid (show szT n m l = -1 from if_pos hl)
    rw [if_pos hl] at HF
    go_enter Try.func39, Try.ntmps39
    go_upto_region 1 with fail
    refine wp_gen (R := fun W => Box W w.heap.size [.slice A n c, .slice B m d, .int .i64 q] ∧ Below w.heap.size w W) ⟨Box.new rfl rfl, by go_grown⟩ ?_
    rintro W1 ⟨K0, B1⟩
    have k0_0 := K0.at_ 0 _ rfl
    have k0_1 := K0.at_ 1 _ rfl
    have k0_2 := K0.at_ 2 _ rfl
    have k0_f := K0.fr
    have k0_l := K0.lt
    go_wp2_with fail
    refine (HF.out _).mono ?_
    rintro _ w2 ⟨rfl, b2⟩
    have B2 := upB B1 b2
    go_wp2_with fail
    go_ret
    exact ⟨by first | rfl | (rw [HV.out]; rfl), B2⟩
  case neg =>
    have HR := Go.Lib.hid (fun w0 => law_szInts B m d (l - n) w0 (by omega) (by omega) hm)
    rw [if_neg hl] at HF
    have HV := Go.Lib.hid (show szT n m l = if l - n - m < 0 then -1 else l - n - m from if_neg hl)
    rw [← HV.out] at HR
    have hs : szT n m l = -1 ∨ 0 ≤ szT n m l := by rw [HV.out]; split <;> omega
    generalize szT n m l = z at *
    go_enter Try.func39, Try.ntmps39
    go_upto_region 1 with fail
    refine wp_gen (R := fun W => Box W w.heap.size [.slice A n c, .slice B m d, .int .i64 q] ∧ Below w.heap.size w W) ⟨Box.new rfl rfl, by go_grown⟩ ?_
    rintro W1 ⟨K0, B1⟩
    have k0_0 := K0.at_ 0 _ rfl
    have k0_1 := K0.at_ 1 _ rfl
    have k0_2 := K0.at_ 2 _ rfl
    have k0_f := K0.fr
    have k0_l := K0.lt
    go_wp2_with fail
    refine (HF.out _).mono ?_
    rintro _ w2 ⟨rfl, b2⟩
    have B2 := upB B1 b2
    have K0 := K0.below b2
    clear b2
    clear k0_0 k0_1 k0_2 k0_f k0_l
    have k0_0 := K0.at_ 0 _ rfl
    have k0_1 := K0.at_ 1 _ rfl
    have k0_2 := K0.at_ 2 _ rfl
    have k0_f := K0.fr
    have k0_l := K0.lt
    go_wp2_with fail
    refine (HR.out _).mono ?_
    rintro _ w3 ⟨rfl, b3⟩
    have B3 := upB B2 b3
    clear b3
    rcases hs with rfl | hs
    · go_wp2_with fail
      go_ret
      exact ⟨rfl, B3⟩
    · have hz : ¬ z < 0 := by omega
      go_wp2_with fail
      go_ret
      exact ⟨rfl, B3⟩
set_option maxRecDepth 100000 in
set_option maxHeartbeats 4000000 in
theorem law_markTrain (x : Trn) (A : Option Addr) (c : Nat) (B : Option Addr) (d : Nat) (k lo hi : Nat) (w : World) (h : OwnTr x A c B d w lo hi) (hh : hi ≤ w.heap.size) (few : FewT x) (hk : k ≤ 1048576) :
    Calls Try.prog 43 #[trainV x A c B d, .int .i64 k] w fun e w' => e = .returned (.int .i64 ((k + x.f.length + x.r.length : Nat) : Int)) ∧ Keep lo hi w w' := by
  obtain ⟨mid, h1, h2, o1, o2⟩ := h
  have f1 := few.f
  have f2 := few.r
  have HF := Go.Lib.hid (fun w0 (o : Ow w0 lo mid 2 A x.f.length c (ints x.f)) => markInts A x.f.length c k _ lo mid w0 o (by omega) (by omega))
  have HR := Go.Lib.hid (fun w0 (o : Ow w0 mid hi 2 B x.r.length d (ints x.r)) => markInts B x.r.length d (k + x.f.length) _ mid hi w0 o (by omega) (by omega))
  unfold trainV
  go_enter Try.func43, Try.ntmps43
  go_upto_region 1 with fail
  refine wp_gen (R := fun W => Box W w.heap.size [.slice A x.f.length c, .slice B x.r.length d, .int .i64 x.n] ∧ Ow W lo mid 2 A x.f.length c (ints x.f) ∧ Ow W mid hi 2 B x.r.length d (ints x.r) ∧ Below w.heap.size w W) ⟨Box.new rfl rfl, o1.below ((Below.refl _ _).alloc (Nat.le_refl _) _) (by omega), o2.below ((Below.refl _ _).alloc (Nat.le_refl _) _) hh, by go_grown⟩ ?_
  clear o1 o2
  rintro W1 ⟨K0, o1, o2, B1⟩
  have hs1 := B1.size
  have k0_0 := K0.at_ 0 _ rfl
  have k0_1 := K0.at_ 1 _ rfl
  have k0_2 := K0.at_ 2 _ rfl
  have k0_f := K0.fr
  have k0_l := K0.lt
  go_wp2_with fail
  refine (HF.out _ o1).mono ?_
  rintro _ W2 ⟨rfl, -, p2⟩
  clear k0_0 k0_1 k0_2 k0_f k0_l
  have K0 := K0.keep p2 (.inr (by omega))
  have o2 := o2.keep p2 (by omega) (.inr (Nat.le_refl _))
  have k0_0 := K0.at_ 0 _ rfl
  have k0_1 := K0.at_ 1 _ rfl
  have k0_2 := K0.at_ 2 _ rfl
  have k0_f := K0.fr
  have k0_l := K0.lt
  go_wp2_with fail
  refine (HR.out _ o2).mono ?_
  rintro _ W3 ⟨rfl, -, p3⟩
  have HKP := Go.Lib.hid (show Keep lo hi w W3 from ⟨p3.os.trans (p2.os.trans B1.os), p3.tape.trans (p2.tape.trans B1.tape), p3.output.trans (p2.output.trans B1.output), by have := p2.size; have := p3.size; omega, fun i hi1 hi2 => (p3.block i (by have := p2.size; omega) (by omega)).trans ((p2.block i (by omega) (by omega)).trans (B1.block i hi1))⟩)
  clear p2 p3 K0 o1 o2
  clear k0_0 k0_1 k0_2 k0_f k0_l
  go_wp2_with fail
  go_ret
  exact ⟨rfl, HKP.out⟩
end Go.Proofs.Ythedanpldebjcaa
