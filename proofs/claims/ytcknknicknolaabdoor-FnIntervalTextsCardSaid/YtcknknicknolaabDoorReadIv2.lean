/- Contract of spec.ReadInterval. -/
import Derived.Test.YtcknknicknolaabDoorReadIv
namespace Go.Proofs.YtcknknicknolaabDoor
open Go.RowKit

theorem pieces_of {s : ByteArray} {a b : Int} (h : ivL a b = s.data.toList) : (a = b ∧ Dot.cut s = [s]) ∨ (¬ a = b ∧ Dot.cut s = [⟨(Go.Lib.itoa a).toArray⟩, ⟨#[]⟩, ⟨(Go.Lib.itoa b).toArray⟩]) := by
  by_cases hab : a = b
  · subst hab
    rw [ivL_one] at h
    refine .inl ⟨rfl, ?_⟩
    unfold Dot.cut
    rw [← h, pieces_one, h]
    simp
  · rw [ivL_two hab] at h
    refine .inr ⟨hab, ?_⟩
    unfold Dot.cut
    rw [← h, pieces_two]
    rfl
/-- What is known of an answer of l01Signed. -/
def Sgn (l : List UInt8) (v : Int) (ok : Bool) : Prop := ∀ z, sgnB l = some z → v = z ∧ ok = true
theorem SgnEnd.eq {w : World} {l : List UInt8} {e : Ending} {w' : World} (h : SgnEnd w l e w') : ∃ (v : Int) (ok : Bool), e = .returned (.tuple #[.int .i64 v, .bool ok]) ∧ Sgn l v ok ∧ Below w.heap.size w w' := by
  obtain ⟨hb, v, he, hv⟩ := h
  exact ⟨v, _, he, fun z hz => ⟨hv z hz, by rw [hz]; rfl⟩, hb⟩
theorem sgn_itoa {z v : Int} {ok : Bool} (h : Sgn (Go.Lib.itoa z) v ok) (h1 : -1000000000 ≤ z) (h2 : z ≤ 1000000000) : v = z ∧ ok = true := h z (sgnB_itoa (by omega) (by omega))
theorem readsI_none {l : List UInt8} (h : ∀ a b, vldB a b = true → ivL a b = l → False) : readsI l = none := by
  cases hr : readsI l with
  | none => rfl
  | some p =>
    obtain ⟨h1, h2⟩ := readsI_spec (a := p.1) (b := p.2) (l := l) (by rw [hr])
    exact (h _ _ h1 h2).elim
/-- What the plain reader answers. -/
theorem short_ {s z0 : ByteArray} {rest : List ByteArray} {v : Int} {ok : Bool} (hc : Dot.cut s = z0 :: rest) (hn : ¬ (z0 :: rest).length = 3) (h : Sgn z0.data.toList v ok) (hb : ok = false ∨ vldB v v = false ∨ ¬ ivL v v = s.data.toList) : readsI s.data.toList = none := by
  refine readsI_none fun a b hv he => ?_
  obtain ⟨h1, h2, h3⟩ := vldB_of hv
  rcases pieces_of he with ⟨hab, hp⟩ | ⟨hab, hp⟩
  · subst hab
    rw [hc] at hp
    injection hp with e1 _
    rw [e1, ← he, ivL_one] at h
    obtain ⟨hva, hok⟩ := sgn_itoa h h1 (by omega)
    subst hva
    rcases hb with hb | hb | hb
    · rw [hok] at hb; cases hb
    · rw [hv] at hb; cases hb
    · exact hb he
  · rw [hc] at hp
    exact hn (by rw [hp]; rfl)
theorem long_ {s z0 z1 z2 : ByteArray} {v u : Int} {ok ok2 : Bool} (hc : Dot.cut s = [z0, z1, z2]) (h : Sgn z0.data.toList v ok) (h2 : Sgn z2.data.toList u ok2) (hb : ok = false ∨ ok2 = false ∨ ¬ z1 = ⟨#[]⟩ ∨ vldB v u = false ∨ ¬ ivL v u = s.data.toList) : readsI s.data.toList = none := by
  refine readsI_none fun a b hv he => ?_
  obtain ⟨k1, k2, k3⟩ := vldB_of hv
  rcases pieces_of he with ⟨hab, hp⟩ | ⟨hab, hp⟩
  · rw [hc] at hp
    injection hp with _ e2
    cases e2
  · rw [hc] at hp
    injection hp with e1 e2
    injection e2 with e2 e3
    injection e3 with e3 _
    subst e1 e2 e3
    obtain ⟨r1, r2⟩ := sgn_itoa (z := a) (by simpa using h) k1 (by omega)
    obtain ⟨r3, r4⟩ := sgn_itoa (z := b) (by simpa using h2) (by omega) k3
    subst r1 r3
    rcases hb with hb | hb | hb | hb | hb
    · rw [r2] at hb; cases hb
    · rw [r4] at hb; cases hb
    · exact hb rfl
    · rw [hv] at hb; cases hb
    · exact hb he

theorem splitD_le : ∀ (l x : List UInt8), x ∈ Dot.splitC l → x.length ≤ l.length := by
  intro l
  induction l with
  | nil => intro x hx; simp [Dot.splitC] at hx; simp [hx]
  | cons c r ih =>
    intro x hx
    unfold Dot.splitC at hx
    split at hx
    · rcases List.mem_cons.1 hx with rfl | hx
      · simp
      · have := ih x hx; simp only [List.length_cons]; omega
    · split at hx
      · rename_i hd tl he
        rcases List.mem_cons.1 hx with rfl | hx
        · have := ih hd (by rw [he]; simp); simp only [List.length_cons]; omega
        · have := ih x (by rw [he]; simp [hx]); simp only [List.length_cons]; omega
      · have : x = [c] := by simpa using hx
        subst this; simp
theorem cutI_sizes {s : ByteArray} (hs : s.size ≤ 1048576) : ∀ z ∈ Dot.cut s, z.size ≤ 1048576 := by
  intro z hz
  unfold Dot.cut at hz
  obtain ⟨x, hx, rfl⟩ := List.mem_map.1 hz
  have := splitD_le _ x hx
  have hl : s.data.toList.length = s.size := by simp
  show x.length ≤ _
  omega
set_option maxRecDepth 100000 in
set_option maxHeartbeats 8000000 in
theorem specReadInterval (s : ByteArray) (w : World) (hs : s.size ≤ 1048576) :
    Calls Tryd.prog 21 #[.string s] w (ReadIEnd w (readsI s.data.toList)) := by
  have HSP := Go.Lib.hid (fun w0 => Dot.specSplit s w0 (by omega))
  have hpos := Dot.cut_pos s
  have hsz : ∀ z ∈ Dot.cut s, z.size ≤ 1048576 := cutI_sizes hs
  go_enter Tryd.func21, Tryd.ntmps21
  go_wp2_with fail
  have V0 := Go.Lib.hid ((⟨Below.refl _ _, fun v hv => by cases hv⟩ : VCtx w [] w).var (x := 0) (y := 0) 31)
  generalize w.alloc (.cells #[.int .i64 0, .int .i64 0] 31) = w0 at V0 ⊢
  refine (HSP.out w0).mono ?_
  rintro e w1 ⟨A1, c1, rfl, o1, b1⟩
  have V1 := Go.Lib.hid (V0.out.step b1)
  clear V0 b1 HSP
  obtain ⟨LL, hLL⟩ : ∃ LL, LL = Dot.cut s := ⟨_, rfl⟩
  rw [← hLL] at hpos hsz o1 ⊢
  have hle := o1.le
  obtain ⟨g, rfl, g1, g2, g3⟩ := o1.form hpos
  obtain ⟨z0, rest, rfl⟩ : ∃ z0 rest, LL = z0 :: rest := by
    cases LL with
    | nil => simp at hpos
    | cons z0 rest => exact ⟨z0, rest, rfl⟩
  have p0 : w1.cell? ⟨g, 0, none⟩ = some (.string z0) := o1.cell (k := 0) (by simp)
  have HS0 := Go.Lib.hid (fun w0 => (specSigned z0 w0 (hsz z0 (by simp))).mono fun _ _ h => SgnEnd.eq h)
  by_cases hN : (z0 :: rest).length = 3
  · obtain ⟨z1, z2, rfl⟩ : ∃ z1 z2, rest = [z1, z2] := by
      match rest, hN with
      | [z1, z2], _ => exact ⟨z1, z2, rfl⟩
    have p1 : w1.cell? ⟨g, 1, none⟩ = some (.string z1) := o1.cell (k := 1) (by simp)
    have p2 : w1.cell? ⟨g, 2, none⟩ = some (.string z2) := o1.cell (k := 2) (by simp)
    have HS2 := Go.Lib.hid (fun w0 => (specSigned z2 w0 (hsz z2 (by simp))).mono fun _ _ h => SgnEnd.eq h)
    have HC := Go.Lib.hid hLL.symm
    have P1 := Go.Lib.hid p1
    have P2 := Go.Lib.hid p2
    have G3 := Go.Lib.hid g3
    clear hN hLL hsz o1 p1 p2
    go_wp2_with fail
    refine (HS0.out w1).mono ?_
    rintro e w2 ⟨v, ok, rfl, hsg, b2⟩
    have HSG := Go.Lib.hid hsg
    have V2 := Go.Lib.hid (V1.out.step b2)
    have p2 : w2.cell? ⟨g, 2, none⟩ = some (.string z2) := (b2.cell (p := ⟨g, 2, none⟩) g3).trans P2.out
    have P1b := Go.Lib.hid ((b2.cell (p := ⟨g, 1, none⟩) g3).trans P1.out)
    have g4 : g < w2.heap.size := Nat.lt_of_lt_of_le g3 b2.size
    have hgq : g ≠ w2.heap.size := by omega
    clear b2 V1 hsg p0
    go_wp2_with fail
    have P1c := Go.Lib.hid ((((Below.refl w2.heap.size w2).alloc (Nat.le_refl _) (.cells #[.int .i64 v, .int .i64 v] 31)).cell (p := ⟨g, 1, none⟩) g4).trans P1b.out)
    have g5 := Go.Lib.hid (show g < (w2.alloc (.cells #[.int .i64 v, .int .i64 v] 31)).heap.size by simp; omega)
    have V3 := Go.Lib.hid (V2.out.var (x := v) (y := v) 31)
    obtain ⟨q, hq⟩ : ∃ q, q = w2.heap.size := ⟨_, rfl⟩
    have hqw : w.heap.size < q := by rw [hq]; exact V2.out.lt (r := w.heap.size) (x := 0) (y := 0) (by simp)
    rw [← hq] at V3 ⊢
    generalize w2.alloc (.cells #[.int .i64 v, .int .i64 v] 31) = w3 at V3 P1c g5 ⊢
    clear hq V2 p2 hgq g4 P1b P1 P2 HS0
    refine (HS2.out w3).mono ?_
    rintro e w4 ⟨u, ok2, rfl, hsg2, b4⟩
    have HSG2 := Go.Lib.hid hsg2
    have V4 := Go.Lib.hid (V3.out.step b4)
    have p1 : w4.cell? ⟨g, 1, none⟩ = some (.string z1) := (b4.cell (p := ⟨g, 1, none⟩) g5.out).trans P1c.out
    clear b4 V3 hsg2 g5 P1c HS2
    have W4 : Hid (VCtx w [(q, v, u), (w.heap.size, 0, 0)] (w4.setCell ⟨q, 1, none⟩ (.int .i64 u))) := V4.out.st1 (by omega) (by omega) u
    cases ok
    · have HN := Go.Lib.hid (long_ HC.out HSG.out HSG2.out (.inl rfl))
      have ga := V4.out.c0 (r := w.heap.size) (x := 0) (y := 0) (by simp)
      have gb := V4.out.c1 (r := w.heap.size) (x := 0) (y := 0) (by simp)
      have gf := (V4.out.vars (w.heap.size, 0, 0) (by simp)).fr
      have gl := V4.out.lt (r := w.heap.size) (x := 0) (y := 0) (by simp)
      have fa := V4.out.c0 (r := q) (x := v) (y := v) (by simp)
      have fb := V4.out.c1 (r := q) (x := v) (y := v) (by simp)
      have ff := (V4.out.vars (q, v, v) (by simp)).fr
      have fl := V4.out.lt (r := q) (x := v) (y := v) (by simp)
      go_wp2_with fail
      rw [HN.out]
      refine bodyPost_ret (v := .tuple #[ivV 0 0, .int .i64 6]) (by simp [results, Tryd.results21, go_sem, ga, gb, gf, gl, fa, fb, ff, fl]) rfl ⟨?_, rfl⟩
      have B9 := V4.out.below
      go_grown
    · cases ok2
      · have HN := Go.Lib.hid (long_ HC.out HSG.out HSG2.out (.inr (.inl rfl)))
        have ga := V4.out.c0 (r := w.heap.size) (x := 0) (y := 0) (by simp)
        have gb := V4.out.c1 (r := w.heap.size) (x := 0) (y := 0) (by simp)
        have gf := (V4.out.vars (w.heap.size, 0, 0) (by simp)).fr
        have gl := V4.out.lt (r := w.heap.size) (x := 0) (y := 0) (by simp)
        have fa := V4.out.c0 (r := q) (x := v) (y := v) (by simp)
        have fb := V4.out.c1 (r := q) (x := v) (y := v) (by simp)
        have ff := (V4.out.vars (q, v, v) (by simp)).fr
        have fl := V4.out.lt (r := q) (x := v) (y := v) (by simp)
        go_wp2_with fail
        rw [HN.out]
        refine bodyPost_ret (v := .tuple #[ivV 0 0, .int .i64 6]) (by simp [results, Tryd.results21, go_sem, ga, gb, gf, gl, fa, fb, ff, fl]) rfl ⟨?_, rfl⟩
        have B9 := V4.out.below
        go_grown
      · by_cases hz1 : z1 = ⟨#[]⟩
        · subst hz1
          have ga := V4.out.c0 (r := w.heap.size) (x := 0) (y := 0) (by simp)
          have gb := V4.out.c1 (r := w.heap.size) (x := 0) (y := 0) (by simp)
          have gf := (V4.out.vars (w.heap.size, 0, 0) (by simp)).fr
          have gl := V4.out.lt (r := w.heap.size) (x := 0) (y := 0) (by simp)
          have fa := V4.out.c0 (r := q) (x := v) (y := v) (by simp)
          have fb := V4.out.c1 (r := q) (x := v) (y := v) (by simp)
          have ff := (V4.out.vars (q, v, v) (by simp)).fr
          have fl := V4.out.lt (r := q) (x := v) (y := v) (by simp)
          go_wp2_with fail
          clear ga gb gf gl fa fb ff fl p1
          generalize w4.setCell ⟨q, 1, none⟩ (.int .i64 u) = w5 at W4 ⊢
          clear V4
          have kv := fun w0 => specIsInterval v u w0
          cases hv : vldB v u
          · rw [hv] at kv
            have K := Go.Lib.hid kv
            have HN := Go.Lib.hid (long_ HC.out HSG.out HSG2.out (.inr (.inr (.inr (.inl hv)))))
            clear kv hv
            refine (K.out _).mono ?_
            rintro e x1 ⟨rfl, d1⟩
            have X1 := Go.Lib.hid (W4.out.step d1)
            clear d1
            have ga := X1.out.c0 (r := w.heap.size) (x := 0) (y := 0) (by simp)
            have gb := X1.out.c1 (r := w.heap.size) (x := 0) (y := 0) (by simp)
            have gf := (X1.out.vars (w.heap.size, 0, 0) (by simp)).fr
            have gl := X1.out.lt (r := w.heap.size) (x := 0) (y := 0) (by simp)
            have fa := X1.out.c0 (r := q) (x := v) (y := u) (by simp)
            have fb := X1.out.c1 (r := q) (x := v) (y := u) (by simp)
            have ff := (X1.out.vars (q, v, u) (by simp)).fr
            have fl := X1.out.lt (r := q) (x := v) (y := u) (by simp)
            go_wp2_with fail
            rw [HN.out]
            refine bodyPost_ret (v := .tuple #[ivV (0) (0), .int .i64 6]) (by simp [results, Tryd.results21, go_sem, ga, gb, gf, gl, fa, fb, ff, fl]) rfl ⟨?_, rfl⟩
            have B9 := X1.out.below
            go_grown
          · obtain ⟨u1, u2, u3⟩ := vldB_of hv
            rw [hv] at kv
            have K := Go.Lib.hid kv
            have HTX := Go.Lib.hid (fun w0 => specIvTextL v u w0 (by omega) (by omega) (by omega) (by omega))
            clear kv
            refine (K.out _).mono ?_
            rintro e x1 ⟨rfl, d1⟩
            have X1 := Go.Lib.hid (W4.out.step d1)
            clear d1
            have ga := X1.out.c0 (r := w.heap.size) (x := 0) (y := 0) (by simp)
            have gb := X1.out.c1 (r := w.heap.size) (x := 0) (y := 0) (by simp)
            have gf := (X1.out.vars (w.heap.size, 0, 0) (by simp)).fr
            have gl := X1.out.lt (r := w.heap.size) (x := 0) (y := 0) (by simp)
            have fa := X1.out.c0 (r := q) (x := v) (y := u) (by simp)
            have fb := X1.out.c1 (r := q) (x := v) (y := u) (by simp)
            have ff := (X1.out.vars (q, v, u) (by simp)).fr
            have fl := X1.out.lt (r := q) (x := v) (y := u) (by simp)
            go_wp2_with fail
            clear ga gb gf gl fa fb ff fl
            refine (HTX.out _).mono ?_
            rintro e x2 ⟨rfl, d2⟩
            have X2 := Go.Lib.hid (X1.out.step d2)
            clear d2 X1
            have ga := X2.out.c0 (r := w.heap.size) (x := 0) (y := 0) (by simp)
            have gb := X2.out.c1 (r := w.heap.size) (x := 0) (y := 0) (by simp)
            have gf := (X2.out.vars (w.heap.size, 0, 0) (by simp)).fr
            have gl := X2.out.lt (r := w.heap.size) (x := 0) (y := 0) (by simp)
            have fa := X2.out.c0 (r := q) (x := v) (y := u) (by simp)
            have fb := X2.out.c1 (r := q) (x := v) (y := u) (by simp)
            have ff := (X2.out.vars (q, v, u) (by simp)).fr
            have fl := X2.out.lt (r := q) (x := v) (y := u) (by simp)
            cases hq2 : (ivL v u == s.data.toList)
            · have HN := Go.Lib.hid (long_ HC.out HSG.out HSG2.out (.inr (.inr (.inr (.inr (by simpa using hq2))))))
              have hq3 : (ivL v u == s.toList) = false := by rw [ByteArray.toList_eq]; exact hq2
              clear hq2 hv
              go_wp2_with fail
              rw [HN.out]
              refine bodyPost_ret (v := .tuple #[ivV (0) (0), .int .i64 6]) (by simp [results, Tryd.results21, go_sem, ga, gb, gf, gl, fa, fb, ff, fl]) rfl ⟨?_, rfl⟩
              have B9 := X2.out.below
              go_grown
            · have HN := Go.Lib.hid (readsI_of hv (by simpa using hq2))
              have hq3 : (ivL v u == s.toList) = true := by rw [ByteArray.toList_eq]; exact hq2
              clear hq2 hv
              go_wp2_with fail
              rw [HN.out]
              refine bodyPost_ret (v := .tuple #[ivV (v) (u), .int .i64 0]) (by simp [results, Tryd.results21, go_sem, ga, gb, gf, gl, fa, fb, ff, fl]) rfl ⟨?_, rfl⟩
              have B9 := X2.out.below
              go_grown
        · have z1a : z1.toList.isEmpty = false := by
            rw [ByteArray.toList_eq]
            cases hh : z1.data.toList with
            | nil => exact absurd (ByteArray.ext (Array.ext' (by simpa using hh))) hz1
            | cons _ _ => rfl
          have z1b : (z1.toList == []) = false := by
            cases hh : z1.toList with
            | nil => rw [hh] at z1a; cases z1a
            | cons _ _ => rfl
          have HN := Go.Lib.hid (long_ HC.out HSG.out HSG2.out (.inr (.inr (.inl hz1))))
          have ga := V4.out.c0 (r := w.heap.size) (x := 0) (y := 0) (by simp)
          have gb := V4.out.c1 (r := w.heap.size) (x := 0) (y := 0) (by simp)
          have gf := (V4.out.vars (w.heap.size, 0, 0) (by simp)).fr
          have gl := V4.out.lt (r := w.heap.size) (x := 0) (y := 0) (by simp)
          have fa := V4.out.c0 (r := q) (x := v) (y := v) (by simp)
          have fb := V4.out.c1 (r := q) (x := v) (y := v) (by simp)
          have ff := (V4.out.vars (q, v, v) (by simp)).fr
          have fl := V4.out.lt (r := q) (x := v) (y := v) (by simp)
          go_wp2_with fail
          rw [HN.out]
          refine bodyPost_ret (v := .tuple #[ivV 0 0, .int .i64 6]) (by simp [results, Tryd.results21, go_sem, ga, gb, gf, gl, fa, fb, ff, fl]) rfl ⟨?_, rfl⟩
          have B9 := V4.out.below
          go_grown
  · have hNb : (((z0 :: rest).length : Int) == 3) = false := by simp at hN ⊢; omega
    have HC := Go.Lib.hid hLL.symm
    have HNN := Go.Lib.hid hN
    obtain ⟨N, hNN⟩ : ∃ N, N = (z0 :: rest).length := ⟨_, rfl⟩
    rw [← hNN] at hNb hpos hle ⊢
    clear hLL hN hsz hNN o1
    go_wp2_with fail
    refine (HS0.out w1).mono ?_
    rintro e w2 ⟨v, ok, rfl, hsg, b2⟩
    have HSG := Go.Lib.hid hsg
    have V2 := Go.Lib.hid (V1.out.step b2)
    clear b2 V1 hsg p0
    cases ok
    · have HN := Go.Lib.hid (short_ HC.out HNN.out HSG.out (.inl rfl))
      have ga := V2.out.c0 (r := w.heap.size) (x := 0) (y := 0) (by simp)
      have gb := V2.out.c1 (r := w.heap.size) (x := 0) (y := 0) (by simp)
      have gf := (V2.out.vars (w.heap.size, 0, 0) (by simp)).fr
      have gl := V2.out.lt (r := w.heap.size) (x := 0) (y := 0) (by simp)
      go_wp2_with fail
      rw [HN.out]
      refine bodyPost_ret (v := .tuple #[ivV 0 0, .int .i64 6]) (by simp [results, Tryd.results21, go_sem, ga, gb, gf, gl]) rfl ⟨?_, rfl⟩
      have B9 := V2.out.below
      go_grown
    · go_wp2_with fail
      have V3 := Go.Lib.hid (V2.out.var (x := v) (y := v) 31)
      obtain ⟨q, hq⟩ : ∃ q, q = w2.heap.size := ⟨_, rfl⟩
      have hqw : w.heap.size < q := by rw [hq]; exact V2.out.lt (r := w.heap.size) (x := 0) (y := 0) (by simp)
      rw [← hq] at V3 ⊢
      generalize w2.alloc (.cells #[.int .i64 v, .int .i64 v] 31) = w3 at V3 ⊢
      clear hq V2
      have kv := fun w0 => specIsInterval v v w0
      cases hv : vldB v v
      · rw [hv] at kv
        have K := Go.Lib.hid kv
        have HN := Go.Lib.hid (short_ HC.out HNN.out HSG.out (.inr (.inl hv)))
        clear kv hv
        refine (K.out _).mono ?_
        rintro e x1 ⟨rfl, d1⟩
        have X1 := Go.Lib.hid (V3.out.step d1)
        clear d1
        have ga := X1.out.c0 (r := w.heap.size) (x := 0) (y := 0) (by simp)
        have gb := X1.out.c1 (r := w.heap.size) (x := 0) (y := 0) (by simp)
        have gf := (X1.out.vars (w.heap.size, 0, 0) (by simp)).fr
        have gl := X1.out.lt (r := w.heap.size) (x := 0) (y := 0) (by simp)
        have fa := X1.out.c0 (r := q) (x := v) (y := v) (by simp)
        have fb := X1.out.c1 (r := q) (x := v) (y := v) (by simp)
        have ff := (X1.out.vars (q, v, v) (by simp)).fr
        have fl := X1.out.lt (r := q) (x := v) (y := v) (by simp)
        go_wp2_with fail
        rw [HN.out]
        refine bodyPost_ret (v := .tuple #[ivV (0) (0), .int .i64 6]) (by simp [results, Tryd.results21, go_sem, ga, gb, gf, gl, fa, fb, ff, fl]) rfl ⟨?_, rfl⟩
        have B9 := X1.out.below
        go_grown
      · obtain ⟨u1, u2, u3⟩ := vldB_of hv
        rw [hv] at kv
        have K := Go.Lib.hid kv
        have HTX := Go.Lib.hid (fun w0 => specIvTextL v v w0 (by omega) (by omega) (by omega) (by omega))
        clear kv
        refine (K.out _).mono ?_
        rintro e x1 ⟨rfl, d1⟩
        have X1 := Go.Lib.hid (V3.out.step d1)
        clear d1
        have ga := X1.out.c0 (r := w.heap.size) (x := 0) (y := 0) (by simp)
        have gb := X1.out.c1 (r := w.heap.size) (x := 0) (y := 0) (by simp)
        have gf := (X1.out.vars (w.heap.size, 0, 0) (by simp)).fr
        have gl := X1.out.lt (r := w.heap.size) (x := 0) (y := 0) (by simp)
        have fa := X1.out.c0 (r := q) (x := v) (y := v) (by simp)
        have fb := X1.out.c1 (r := q) (x := v) (y := v) (by simp)
        have ff := (X1.out.vars (q, v, v) (by simp)).fr
        have fl := X1.out.lt (r := q) (x := v) (y := v) (by simp)
        go_wp2_with fail
        clear ga gb gf gl fa fb ff fl
        refine (HTX.out _).mono ?_
        rintro e x2 ⟨rfl, d2⟩
        have X2 := Go.Lib.hid (X1.out.step d2)
        clear d2 X1
        have ga := X2.out.c0 (r := w.heap.size) (x := 0) (y := 0) (by simp)
        have gb := X2.out.c1 (r := w.heap.size) (x := 0) (y := 0) (by simp)
        have gf := (X2.out.vars (w.heap.size, 0, 0) (by simp)).fr
        have gl := X2.out.lt (r := w.heap.size) (x := 0) (y := 0) (by simp)
        have fa := X2.out.c0 (r := q) (x := v) (y := v) (by simp)
        have fb := X2.out.c1 (r := q) (x := v) (y := v) (by simp)
        have ff := (X2.out.vars (q, v, v) (by simp)).fr
        have fl := X2.out.lt (r := q) (x := v) (y := v) (by simp)
        cases hq2 : (ivL v v == s.data.toList)
        · have HN := Go.Lib.hid (short_ HC.out HNN.out HSG.out (.inr (.inr (by simpa using hq2))))
          have hq3 : (ivL v v == s.toList) = false := by rw [ByteArray.toList_eq]; exact hq2
          clear hq2 hv
          go_wp2_with fail
          rw [HN.out]
          refine bodyPost_ret (v := .tuple #[ivV (0) (0), .int .i64 6]) (by simp [results, Tryd.results21, go_sem, ga, gb, gf, gl, fa, fb, ff, fl]) rfl ⟨?_, rfl⟩
          have B9 := X2.out.below
          go_grown
        · have HN := Go.Lib.hid (readsI_of hv (by simpa using hq2))
          have hq3 : (ivL v v == s.toList) = true := by rw [ByteArray.toList_eq]; exact hq2
          clear hq2 hv
          go_wp2_with fail
          rw [HN.out]
          refine bodyPost_ret (v := .tuple #[ivV (v) (v), .int .i64 0]) (by simp [results, Tryd.results21, go_sem, ga, gb, gf, gl, fa, fb, ff, fl]) rfl ⟨?_, rfl⟩
          have B9 := X2.out.below
          go_grown
end Go.Proofs.YtcknknicknolaabDoor
