/- The model: gears in their order, equal gears, steps, the nearest. -/
import Derived.Test.YtilepehlmjohbaaGearS3
namespace Go.Proofs.Ytilepehlmjohbaa
open Go.RowKit
set_option linter.unusedSimpArgs false
set_option linter.unusedVariables false

/-- An answer of rows and a code. -/
def GivesZ (p : List (List Int) × Int) (w : World) (e : Ending) (w' : World) : Prop := Below w.heap.size w w' ∧ ((p.1 = [] ∧ e = .returned (.tuple #[.slice none 0 0, .int .i64 p.2])) ∨ ∃ g cap, e = .returned (.tuple #[.slice (some ⟨g, 0, none⟩) p.1.length cap, .int .i64 p.2]) ∧ OwZ w.heap.size p.1 g cap w')
theorem GivesZ.nil {p : List (List Int) × Int} {z : Int} {w w' : World} (hp : p = ([], z)) (hb : Below w.heap.size w w') : GivesZ p w (.returned (.tuple #[.slice none 0 0, .int .i64 z])) w' := by
  subst hp
  exact ⟨hb, .inl ⟨rfl, rfl⟩⟩
theorem GivesZ.row {p : List (List Int) × Int} {zs : List (List Int)} {w w' : World} {g n cap : Nat} (hp : p = (zs, 0)) (hn : zs.length = n) (h : OwZ w.heap.size zs g cap w') (hb : Below w.heap.size w w') : GivesZ p w (.returned (.tuple #[.slice (some ⟨g, 0, none⟩) n cap, .int .i64 0])) w' := by
  subst hp hn
  exact ⟨hb, .inr ⟨g, cap, rfl, h⟩⟩
theorem OwZ.low {b b1 : Nat} {zs : List (List Int)} {g cap : Nat} {W : World} (h : OwZ b zs g cap W) (hb : b1 ≤ b) : OwZ b1 zs g cap W := by
  obtain ⟨us, o, r⟩ := h.us
  have hO : Ow W b W.heap.size 30 (some ⟨g, 0, none⟩) zs.length cap us := own_top o
  exact ⟨⟨us, (hO.lower hb).1, r⟩⟩
set_option maxRecDepth 100000 in
set_option maxHeartbeats 4000000 in
theorem specGearOrder (x : Trn) (A : Option Addr) (c : Nat) (B : Option Addr) (d : Nat) (w : World) (T : TrL x A c B d w) :
    Calls Try.prog 37 #[trainV x A c B d] w (GivesZ (orderR x) w) := by
  have HT := Go.Lib.hid T
  have HX := Go.Lib.hid (boxT_box x A c B d w)
  have HXB := Go.Lib.hid (boxT_below x A c B d w)
  clear T
  have H1 := Go.Lib.hid (fun w0 T0 => specTrain x A c B d w0 T0)
  by_cases ht : trainB x = true
  case neg =>
    have HV := Go.Lib.hid (show orderR x = ([], 1) by unfold orderR; rw [if_neg ht])
    rw [Bool.not_eq_true] at ht
    rw [ht] at H1
    clear ht
    unfold trainV at *
    go_enter Try.func37, Try.ntmps37
    go_upto_region 1 with fail
    refine wp_gen (R := fun W => Box W w.heap.size (trainC x A c B d) ∧ Below w.heap.size w W) ⟨HX.out, HXB.out⟩ ?_
    rintro W ⟨hx, hb⟩
    have HX1 := Go.Lib.hid hx
    have HB1 := Go.Lib.hid hb
    have HT1 := Go.Lib.hid (HT.out.below hb)
    clear hx hb HX HXB
    have hc0 : W.cell? ⟨w.heap.size, 0, none⟩ = some (.slice A x.f.length c) := HX1.out.at_ 0 _ rfl
    have hc1 : W.cell? ⟨w.heap.size, 1, none⟩ = some (.slice B x.r.length d) := HX1.out.at_ 1 _ rfl
    have hc2 : W.cell? ⟨w.heap.size, 2, none⟩ = some (.int .i64 x.n) := HX1.out.at_ 2 _ rfl
    go_wp2_with fail
    refine (H1.out _ HT1.out).mono ?_
    rintro _ w2 ⟨rfl, b2⟩
    have HX2 := Go.Lib.hid (HX1.out.below b2)
    have HB2 := Go.Lib.hid (upB HB1.out b2)
    have HT2 := Go.Lib.hid (HT1.out.below b2)
    clear b2
    go_wp2_with fail
    go_ret2
    exact GivesZ.nil HV.out HB2.out
  case pos =>
    have HV := Go.Lib.hid (show orderR x = (rowsG (ordI x), 0) by unfold orderR; rw [if_pos ht])
    have HD := Go.Lib.hid (fun w0 T0 => specOrder x A c B d w0 T0 (trainB_ok ht))
    rw [ht] at H1
    clear ht
    unfold trainV at *
    go_enter Try.func37, Try.ntmps37
    go_upto_region 1 with fail
    refine wp_gen (R := fun W => Box W w.heap.size (trainC x A c B d) ∧ Below w.heap.size w W) ⟨HX.out, HXB.out⟩ ?_
    rintro W ⟨hx, hb⟩
    have HX1 := Go.Lib.hid hx
    have HB1 := Go.Lib.hid hb
    have HT1 := Go.Lib.hid (HT.out.below hb)
    clear hx hb HX HXB
    have hc0 : W.cell? ⟨w.heap.size, 0, none⟩ = some (.slice A x.f.length c) := HX1.out.at_ 0 _ rfl
    have hc1 : W.cell? ⟨w.heap.size, 1, none⟩ = some (.slice B x.r.length d) := HX1.out.at_ 1 _ rfl
    have hc2 : W.cell? ⟨w.heap.size, 2, none⟩ = some (.int .i64 x.n) := HX1.out.at_ 2 _ rfl
    go_wp2_with fail
    refine (H1.out _ HT1.out).mono ?_
    rintro _ w2 ⟨rfl, b2⟩
    have HX2 := Go.Lib.hid (HX1.out.below b2)
    have HB2 := Go.Lib.hid (upB HB1.out b2)
    have HT2 := Go.Lib.hid (HT1.out.below b2)
    clear b2
    clear hc0 hc1 hc2
    have hc0 : w2.cell? ⟨w.heap.size, 0, none⟩ = some (.slice A x.f.length c) := HX2.out.at_ 0 _ rfl
    have hc1 : w2.cell? ⟨w.heap.size, 1, none⟩ = some (.slice B x.r.length d) := HX2.out.at_ 1 _ rfl
    have hc2 : w2.cell? ⟨w.heap.size, 2, none⟩ = some (.int .i64 x.n) := HX2.out.at_ 2 _ rfl
    obtain ⟨zz, hzz⟩ : ∃ zz, rowsG (ordI x) = zz := ⟨_, rfl⟩
    rw [hzz] at HD HV
    clear hzz
    go_wp2_with fail
    refine (HD.out _ HT2.out).mono ?_
    rintro _ w3 ⟨g, cap, rfl, oz, b3⟩
    have HZ := Go.Lib.hid (oz.low HB2.out.size)
    have HB3 := Go.Lib.hid (upB HB2.out b3)
    clear oz b3
    go_wp2_with fail
    go_ret2
    exact GivesZ.row HV.out rfl HZ.out HB3.out
theorem cmpI_zero (x : Trn) (a b : Gr) : cmpI x a b = 0 ↔ sameG x a b = true := by
  unfold cmpI sameG
  rw [decide_eq_true_eq]
  split
  · exact ⟨fun h => by omega, fun h => by omega⟩
  · split
    · exact ⟨fun h => by omega, fun h => by omega⟩
    · exact ⟨fun _ => by omega, fun _ => rfl⟩
/-- A list of rows in the making; the rows lie where it began. -/
structure GatZ (w : World) (zs : List (List Int)) (v : Value) (wr : World) : Prop where
  us : ∃ us, wr.ownsRow w.heap.size 30 1 v zs.length us ∧ RowsZ w us zs
  b : Below w.heap.size w wr
theorem GatZ.start (w : World) : GatZ w [] (.slice (some ⟨w.heap.size, 0, none⟩) 0 0) (w.alloc (.cells #[] 30)) :=
  ⟨⟨[], own_none (Nat.le_refl _), trivial⟩, (Below.refl _ _).alloc (Nat.le_refl _) _⟩
theorem GatZ.below {w wr w1 : World} {zs : List (List Int)} {v : Value} (h : GatZ w zs v wr) (b : Below wr.heap.size wr w1) : GatZ w zs v w1 := by
  obtain ⟨us, r, z⟩ := h.us
  obtain ⟨A, cap, rfl, ho⟩ := row_ow r
  exact ⟨⟨us, (ho.below b (Nat.le_refl _)).1, z⟩, h.b.trans (b.mono h.b.size)⟩
theorem GatZ.step {w wr w3 : World} {zs : List (List Int)} {v v' : Value} {z : List Int} {o : Obj} {us : List Value} {B : Option Addr} {d n : Nat} (hr : wr.ownsRow w.heap.size 30 1 v zs.length us) (hz : RowsZ w us zs) (hb : Below w.heap.size w wr) (hl : Ls z B d w) (hn : z.length = n) (hown : w3.ownsRow w.heap.size 30 1 v' (zs.length + 1) (us ++ [.slice B n d])) (hgrow : (wr.alloc o).grownBy w3 v.ownBlock) : GatZ w (zs ++ [z]) v' w3 := by
  subst hn
  refine ⟨⟨us ++ [.slice B z.length d], by rw [List.length_append]; exact hown, hz.app (RowsZ.one hl)⟩, hb.trans ((((Below.refl w.heap.size wr).alloc hb.size o).grown hgrow (by simp; have := hb.size; omega) fun j ej => ?_))⟩
  rcases hr.2 with ⟨rfl, _⟩ | ⟨g, cap, cur, rfl, hb, _, _⟩
  · simp [Value.ownBlock] at ej
  · obtain rfl : g = j := by simpa [Value.ownBlock] using ej
    exact hb
theorem GatZ.done {w0 w wr : World} {zs : List (List Int)} {v : Value} {p : List (List Int) × Int} (h : GatZ w zs v wr) (hp : p = (zs, 0)) (hb : Below w0.heap.size w0 w) : GivesZ p w0 (.returned (.tuple #[v, .int .i64 0])) wr := by
  subst hp
  obtain ⟨us, r, z⟩ := h.us
  have hb2 := upB hb h.b
  rcases r.2 with ⟨rfl, h0⟩ | ⟨g, cap, cur, rfl, rr⟩
  · have hl := z.len
    have h1 := h.us
    refine ⟨hb2, .inl ⟨?_, rfl⟩⟩
    have h2 := r.1
    have : zs.length = 0 := by simp_all
    exact List.eq_nil_of_length_eq_zero this
  · exact ⟨hb2, .inr ⟨g, cap, rfl, (⟨⟨us, r, z.below h.b⟩⟩ : OwZ w.heap.size zs g cap wr).low hb.size⟩⟩
end Go.Proofs.Ytilepehlmjohbaa
