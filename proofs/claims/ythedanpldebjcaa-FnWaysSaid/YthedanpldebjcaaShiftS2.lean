/- Two lists in the making, places that are seen and the ways to them; whether a list has a number. -/
import Derived.Test.YthedanpldebjcaaMgWays3
import Derived.Test.YthedanpldebjcaaRowsZ
import Derived.Test.YthedanpldebjcaaPlainShift5
namespace Go.Proofs.Ythedanpldebjcaa
open Go.RowKit
set_option linter.unusedSimpArgs false
set_option linter.unusedVariables false

theorem grown_below {W W1 : World} (b : Below W.heap.size W W1) : W.grownBy W1 none := ⟨b.os, b.tape, b.output, b.size, fun k hk _ => b.block k hk⟩
theorem own_below {W W1 : World} {base n : Nat} {e : TypeId} {v : Value} {xs : List Value} (h : W.ownsRow base e 1 v n xs) (b : Below W.heap.size W W1) : W1.ownsRow base e 1 v n xs :=
  h.kept (grown_below b) (by cases v.ownBlock <;> simp)
def rowW (z : List Int) (q c : Nat) : Value := .slice (some ⟨q, 0, none⟩) z.length c
def rowsW (zs : List (List Int)) (bs cs : List Nat) : List Value := (List.range zs.length).map fun i => rowW (zs.getD i []) (bs.getD i 0) (cs.getD i 0)
theorem rowsW_at {zs : List (List Int)} {bs cs : List Nat} {i : Nat} (h : i < zs.length) : (rowsW zs bs cs)[i]? = some (rowW (zs.getD i []) (bs.getD i 0) (cs.getD i 0)) := by simp [rowsW, h]
theorem getN_app1 {bs : List Nat} {q i : Nat} (h : i < bs.length) : (bs ++ [q]).getD i 0 = bs.getD i 0 := by
  simp only [List.getD_eq_getElem?_getD]
  rw [List.getElem?_append_left h]
theorem getN_app2 {bs : List Nat} {q i : Nat} (h : i = bs.length) : (bs ++ [q]).getD i 0 = q := by
  subst h
  simp
theorem getL_app1 {zs : List (List Int)} {z : List Int} {i : Nat} (h : i < zs.length) : (zs ++ [z]).getD i [] = zs.getD i [] := by
  simp only [List.getD_eq_getElem?_getD]
  rw [List.getElem?_append_left h]
theorem getL_app2 {zs : List (List Int)} {z : List Int} {i : Nat} (h : i = zs.length) : (zs ++ [z]).getD i [] = z := by
  subst h
  simp
theorem rowsW_app {zs : List (List Int)} {bs cs : List Nat} (z : List Int) (q c : Nat) (hb : bs.length = zs.length) (hc : cs.length = zs.length) : rowsW (zs ++ [z]) (bs ++ [q]) (cs ++ [c]) = rowsW zs bs cs ++ [rowW z q c] := by
  unfold rowsW
  rw [List.length_append, List.length_singleton, List.range_succ, List.map_append]
  congr 1
  · refine List.map_congr_left fun i hi => ?_
    have h := List.mem_range.1 hi
    rw [getL_app1 h, getN_app1 (by omega), getN_app1 (by omega)]
  · simp only [List.map_cons, List.map_nil]
    rw [getL_app2 rfl, getN_app2 (by omega), getN_app2 (by omega)]
/-- The places that are seen, as numbers ns, and the ways zs to them, each in a block of its own. -/
structure Srch (base : Nat) (ns : List Int) (zs : List (List Int)) (bs cs : List Nat) (vs vw : Value) (W : World) : Prop where
  sn : W.ownsRow base 2 1 vs ns.length (ints ns)
  wy : W.ownsRow base 24 1 vw zs.length (rowsW zs bs cs)
  lb : bs.length = zs.length
  lc : cs.length = zs.length
  rows : ∀ i, i < zs.length → W.ownsRow base 2 1 (rowW (zs.getD i []) (bs.getD i 0) (cs.getD i 0)) (zs.getD i []).length (ints (zs.getD i []))
  a1 : ∀ g h, vs.ownBlock = some g → vw.ownBlock = some h → g ≠ h
  a2 : ∀ g, vs.ownBlock = some g → ∀ i, i < zs.length → bs.getD i 0 ≠ g
  a3 : ∀ g, vw.ownBlock = some g → ∀ i, i < zs.length → bs.getD i 0 ≠ g
theorem Srch.below {base : Nat} {ns : List Int} {zs : List (List Int)} {bs cs : List Nat} {vs vw : Value} {W W1 : World} (h : Srch base ns zs bs cs vs vw W) (b : Below W.heap.size W W1) : Srch base ns zs bs cs vs vw W1 :=
  ⟨own_below h.sn b, own_below h.wy b, h.lb, h.lc, fun i hi => own_below (h.rows i hi) b, h.a1, h.a2, h.a3⟩
theorem row_lt {base : Nat} {z : List Int} {q c : Nat} {W : World} (h : W.ownsRow base 2 1 (rowW z q c) z.length (ints z)) : base ≤ q ∧ q < W.heap.size := h.lt q rfl
/-- A place more is seen. -/
theorem Srch.see {base : Nat} {ns : List Int} {zs : List (List Int)} {bs cs : List Nat} {vs vw vs' : Value} {W W1 : World} {o : Obj} {z : Int} (h : Srch base ns zs bs cs vs vw W)
    (hown : W1.ownsRow base 2 1 vs' (ns.length + 1) (ints ns ++ [.int .i64 z])) (hgrow : (W.alloc o).grownBy W1 vs.ownBlock) (hat : vs'.ownBlock = vs.ownBlock ∨ vs'.ownBlock = some (W.alloc o).heap.size) : Srch base (ns ++ [z]) zs bs cs vs' vw W1 := by
  have hs : (W.alloc o).heap.size = W.heap.size + 1 := by simp
  have hne : ∀ {v : Value} {g : Nat}, v.ownBlock = some g → (∀ k, vs.ownBlock = some k → k ≠ g) → v.ownBlock = none ∨ v.ownBlock ≠ vs.ownBlock := fun {v g} e hk => by
    right
    rw [e]
    intro e2
    exact hk g e2.symm rfl
  have kw : W1.ownsRow base 24 1 vw zs.length (rowsW zs bs cs) := by
    refine (h.wy.alloc o).kept hgrow ?_
    cases hv : vw.ownBlock with
    | none => exact .inl rfl
    | some g => rw [← hv]; exact hne hv fun k hk => h.a1 k g hk hv
  have kr : ∀ i, i < zs.length → W1.ownsRow base 2 1 (rowW (zs.getD i []) (bs.getD i 0) (cs.getD i 0)) (zs.getD i []).length (ints (zs.getD i [])) := fun i hi =>
    ((h.rows i hi).alloc o).kept hgrow (hne (g := bs.getD i 0) rfl fun k hk => fun e => h.a2 k hk i hi e.symm)
  refine ⟨by rw [List.length_append]; simpa [ints] using hown, kw, h.lb, h.lc, kr, fun g k e1 e2 => ?_, fun g e1 i hi => ?_, h.a3⟩
  · rcases hat with e | e
    · exact h.a1 g k (e ▸ e1) e2
    · rw [e] at e1
      have := (h.wy.lt k e2).2
      injection e1 with e1
      omega
  · rcases hat with e | e
    · exact h.a2 g (e ▸ e1) i hi
    · rw [e] at e1
      have := (row_lt (h.rows i hi)).2
      injection e1 with e1
      omega
/-- A way more: a list of its own, laid behind, is appended. -/
theorem Srch.way {base : Nat} {ns : List Int} {zs : List (List Int)} {bs cs : List Nat} {vs vw vw' : Value} {W W5 W7 : World} {o : Obj} {z : List Int} {q c : Nat} (h : Srch base ns zs bs cs vs vw W) (hbase : base ≤ W.heap.size)
    (G : Gat W z (rowW z q c) W5) (hown : W7.ownsRow base 24 1 vw' (zs.length + 1) (rowsW zs bs cs ++ [rowW z q c])) (hgrow : (W5.alloc o).grownBy W7 vw.ownBlock)
    (hat : vw'.ownBlock = vw.ownBlock ∨ vw'.ownBlock = some (W5.alloc o).heap.size) : Srch base ns (zs ++ [z]) (bs ++ [q]) (cs ++ [c]) vs vw' W7 := by
  have h5 := h.below G.b
  have hq := row_lt G.row
  have hs : (W5.alloc o).heap.size = W5.heap.size + 1 := by simp
  have hvs : ∀ g, vs.ownBlock = some g → g < W.heap.size := fun g e => (h.sn.lt g e).2
  have hvw : ∀ g, vw.ownBlock = some g → g < W.heap.size := fun g e => (h.wy.lt g e).2
  have hG : W5.ownsRow base 2 1 (rowW z q c) z.length (ints z) := by
    rcases G.row with ⟨e1, e2 | ⟨g, cap, cur, e3, hb, r⟩⟩
    · exact ⟨e1, .inl e2⟩
    · exact ⟨e1, .inr ⟨g, cap, cur, e3, Nat.le_trans hbase hb, r⟩⟩
  have hne : ∀ {v : Value} {g : Nat}, v.ownBlock = some g → (∀ k, vw.ownBlock = some k → k ≠ g) → v.ownBlock = none ∨ v.ownBlock ≠ vw.ownBlock := fun {v g} e hk => by
    right
    rw [e]
    intro e2
    exact hk g e2.symm rfl
  have ks : W7.ownsRow base 2 1 vs ns.length (ints ns) := by
    refine (h5.sn.alloc o).kept hgrow ?_
    cases hv : vs.ownBlock with
    | none => exact .inl rfl
    | some g => rw [← hv]; exact hne hv fun k hk => (h.a1 g k hv hk).symm
  have kr : ∀ i, i < zs.length → W7.ownsRow base 2 1 (rowW (zs.getD i []) (bs.getD i 0) (cs.getD i 0)) (zs.getD i []).length (ints (zs.getD i [])) := fun i hi =>
    ((h5.rows i hi).alloc o).kept hgrow (hne (g := bs.getD i 0) rfl fun k hk => fun e => h.a3 k hk i hi e.symm)
  have kq : W7.ownsRow base 2 1 (rowW z q c) z.length (ints z) := (hG.alloc o).kept hgrow (hne (g := q) rfl fun k hk => by have := hvw k hk; omega)
  have hlb := h.lb
  have hlc := h.lc
  refine ⟨ks, by rw [rowsW_app z q c hlb hlc, List.length_append]; exact hown, by simp [hlb], by simp [hlc], fun i hi => ?_, fun g k e1 e2 => ?_, fun g e1 i hi => ?_, fun g e1 i hi => ?_⟩
  · rw [List.length_append, List.length_singleton] at hi
    rcases Nat.lt_or_ge i zs.length with h1 | h1
    · rw [getL_app1 h1, getN_app1 (by omega), getN_app1 (by omega)]; exact kr i h1
    · rw [getL_app2 (by omega), getN_app2 (by omega), getN_app2 (by omega)]; exact kq
  · rcases hat with e | e
    · exact h.a1 g k e1 (e ▸ e2)
    · rw [e] at e2
      have := hvs g e1
      injection e2 with e2
      omega
  · rw [List.length_append, List.length_singleton] at hi
    rcases Nat.lt_or_ge i zs.length with h1 | h1
    · rw [getN_app1 (by omega)]; exact h.a2 g e1 i h1
    · rw [getN_app2 (by omega)]; have := hvs g e1; omega
  · rw [List.length_append, List.length_singleton] at hi
    rcases hat with e | e
    · rw [e] at e1
      rcases Nat.lt_or_ge i zs.length with h1 | h1
      · rw [getN_app1 (by omega)]; exact h.a3 g e1 i h1
      · rw [getN_app2 (by omega)]; have := hvw g e1; omega
    · rw [e] at e1
      injection e1 with e1
      rcases Nat.lt_or_ge i zs.length with h1 | h1
      · rw [getN_app1 (by omega)]; have := (row_lt (h5.rows i h1)).2; omega
      · rw [getN_app2 (by omega)]; omega
theorem own_some {W : World} {base n : Nat} {t : TypeId} {v : Value} {xs : List Value} (h : W.ownsRow base t 1 v (n + 1) xs) : ∃ q c, v = .slice (some ⟨q, 0, none⟩) (n + 1) c := by
  rcases h.2 with ⟨_, h0⟩ | ⟨g, cap, cur, rfl, r⟩
  · omega
  · exact ⟨g, cap, rfl⟩
theorem Gat.rowed {w W : World} {z : List Int} {m : Int} {q c : Nat} (h : Gat w (z ++ [m]) (.slice (some ⟨q, 0, none⟩) (z.length + 1) c) W) : Gat w (z ++ [m]) (rowW (z ++ [m]) q c) W := by
  unfold rowW
  rw [List.length_append]
  exact h
theorem rowW_snoc (z : List Int) (m : Int) (q c : Nat) : rowW (z ++ [m]) q c = .slice (some ⟨q, 0, none⟩) (z.length + 1) c := by simp [rowW]
theorem own_lower {W : World} {base lo n : Nat} {t : TypeId} {v : Value} {xs : List Value} (h : W.ownsRow base t 1 v n xs) (hl : lo ≤ base) : W.ownsRow lo t 1 v n xs := by
  rcases h with ⟨e1, e2 | ⟨g, cap, cur, e3, hb, r⟩⟩
  · exact ⟨e1, .inl e2⟩
  · exact ⟨e1, .inr ⟨g, cap, cur, e3, Nat.le_trans hl hb, r⟩⟩
theorem below_app {base : Nat} {W0 W W1 : World} {v : Value} {o : Obj} (hb : Below base W0 W) (hbs : base ≤ W0.heap.size) (hgrow : (W.alloc o).grownBy W1 v.ownBlock) (hv : ∀ g, v.ownBlock = some g → base ≤ g) : Below base W0 W1 := by
  have h1 := hb.alloc (Nat.le_trans hbs hb.size) o
  have h2 := hb.size
  exact h1.trans ((Below.refl base (W.alloc o)).grown hgrow (by simp; omega) (fun j ej => hv j ej))
theorem Srch.ls {base : Nat} {ns : List Int} {zs : List (List Int)} {bs cs : List Nat} {A : Option Addr} {cap : Nat} {vw : Value} {W : World} (h : Srch base ns zs bs cs (.slice A ns.length cap) vw W) (hf : ns.length ≤ 1048576) : Ls ns A cap W := by
  obtain ⟨A', cap', e, ho⟩ := row_ow h.sn
  injection e with e1 _ e3
  subst e1
  subst e3
  exact Ls.of ho.rd ho.le hf
set_option maxRecDepth 100000 in
set_option maxHeartbeats 4000000 in
theorem specHas (A : Option Addr) (c : Nat) (zs : List Int) (y : Int) (w : World) (L : Ls zs A c w) :
    Calls Try.prog 82 #[.slice A zs.length c, .int .i64 y] w (Just (.bool (zs.contains y)) w) := by
  have HL := Go.Lib.hid L
  have hn := L.few
  clear L
  go_enter Try.func82, Try.ntmps82
  go_wp2_with fail
  go_loopw [5] (fun i wr => ∃ k : Nat, k ≤ zs.length ∧ i = .int .i64 k ∧ wr = w ∧ (zs.take k).contains y = false) (fun i _ => zs.length - (intOf i).toNat)
  case atStart => exact ⟨0, Nat.zero_le _, rfl, rfl, by simp⟩
  case round =>
    obtain ⟨k, hk, rfl, rfl, he⟩ := hrel
    have HE := Go.Lib.hid he
    clear he
    by_cases hlt : k < zs.length
    case neg =>
      obtain rfl : k = zs.length := by omega
      have HV := Go.Lib.hid (show zs.contains y = false by have := HE.out; rwa [List.take_length] at this)
      go_wp2_with fail
      go_ret
      exact ⟨by rw [HV.out]; rfl, rfl⟩
    case pos =>
      obtain ⟨b, o, rfl, -, hc⟩ := HL.out.at_ hlt
      have hcell := hc k hlt
      have hkl : (k : Int) < zs.length := by omega
      have HSU := Go.Lib.hid (show zs.take (k + 1) = zs.take k ++ [zs.getD k 0] by rw [List.take_add_one]; simp [List.getD, hlt])
      have HME := Go.Lib.hid (show zs.getD k 0 ∈ zs by simp [List.getD, hlt])
      clear hc
      by_cases hq : zs.getD k 0 = y
      case pos =>
        have HV := Go.Lib.hid (show zs.contains y = true by rw [← hq]; simpa using HME.out)
        have hqb : (zs.getD k 0 == y) = true := by simpa using hq
        clear hq HSU HME
        generalize zs.getD k 0 = z at *
        go_wp2_with fail
        go_ret
        exact ⟨by rw [HV.out]; rfl, rfl⟩
      case neg =>
        have HN := Go.Lib.hid (show (zs.take (k + 1)).contains y = false by
          rw [HSU.out]
          have h1 := HE.out
          simp only [List.contains_eq_mem, decide_eq_false_iff_not, List.mem_append, List.mem_singleton] at h1 ⊢
          rintro (h2 | h2)
          · exact h1 h2
          · exact hq h2.symm)
        have hqb : (zs.getD k 0 == y) = false := by simpa using hq
        clear hq HSU HME
        generalize zs.getD k 0 = z at *
        go_wp2_with fail
        go_roundw
        case rel => exact ⟨k + 1, by omega, by go_num, by first | rfl | trivial, HN.out⟩
        case measure => simp [intOf]; omega
end Go.Proofs.Ythedanpldebjcaa
