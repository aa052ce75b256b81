/- The program: a copy of a list; laws for operations of a region that draws. -/
import Derived.Test.YthedanpldebjcaaSeen
import Derived.LaidEqlPtr
namespace Go.Proofs.Ythedanpldebjcaa
open Go.RowKit
set_option linter.unusedSimpArgs false
set_option linter.unusedVariables false

set_option maxRecDepth 100000 in
set_option maxHeartbeats 4000000 in
theorem implCloneG (A : Option Addr) (c : Nat) (zs : List Int) (w : World) (L : Ls zs A c w) (hp : 0 < zs.length) :
    Calls Try.prog 80 #[.slice A zs.length c] w fun e w' => ∃ g cap, e = .returned (.slice (some ⟨g, 0, none⟩) zs.length cap) ∧ Ow w' w.heap.size w'.heap.size 2 (some ⟨g, 0, none⟩) zs.length cap (ints zs) ∧ Below w.heap.size w w' := by
  have hn := L.few
  obtain ⟨b, o, rfl, hlt, hcs⟩ := L.at_ hp
  have hc : ∀ j u, (ints zs)[j]? = some u → w.cell? ⟨b, o + j, none⟩ = some u := fun j u hu => by
    have hj : j < zs.length := by have := (List.getElem?_eq_some_iff.1 hu).1; rwa [ints_len] at this
    rw [hcs j hj, ← hu, ints_at zs j hj]
  have hnews := news_of (w := w.alloc (.cells #[] 2)) (b := b) (o := o) (zs := zs) (fun j u hu => (World.cell?_alloc_lt _ _ _ hlt).trans (hc j u hu))
  have hG := (Gat.start (Below.refl w.heap.size w))
  have hown := hG.row
  have HB := Go.Lib.hid hG.b
  obtain ⟨i0, hi, hz0, hz1, hz2⟩ := info_parts infoI64
  have hlen : (ints zs).length = zs.length * 1 := by rw [ints_len]; omega
  have HP := Go.Lib.hid hp
  have q22 : ∀ (w : World) (a : Option Addr) (n c n' c' : Nat), (binOp .eql 24 (.slice a n c) (.slice none n' c')).run Try.prog w = .ok (.bool a.isNone) w := fun w a n c n' c' => Lib.run_eql_slice_nil w _ _ a n c n' c' Try.underlying24
  clear hc hG hp hcs L
  go_enter Try.func80, Try.ntmps80
  go_wp2_with (at_builtin; refine wpList_append_own_at _ rfl _ _ 24 rfl w.heap.size 2 i0 (.int .i64 0) 1 8 Try.underlying24 hi hz0 hz1 hz2 rfl (by decide) _ 0 [] rfl hown ⟨b, o, none⟩ zs.length c (ints zs) rfl hlen hnews (ints_one zs) (by unfold maxLen; omega) (by omega) (by simp) ?_; intro v3 w3 hown' hgrow hnil hat; clear hnil hat)
  rw [Nat.zero_add, List.nil_append] at hown'
  obtain ⟨A', cap', rfl, ho⟩ := row_ow hown'
  obtain ⟨g, rfl, -⟩ := ho.form HP.out
  have HO := Go.Lib.hid ho
  have HB3 := Go.Lib.hid (HB.out.trans ((Below.refl _ _).grown hgrow (by simp) (fun j e => by cases e; exact Nat.le_refl _)))
  clear hown' ho hgrow hown hnews
  go_wp2_with fail
  go_ret
  exact ⟨g, cap', rfl, HO.out, HB3.out⟩
set_option maxRecDepth 100000 in
theorem implCloneN (w : World) : Calls Try.prog 80 #[.slice none 0 0] w (Just (.slice none 0 0) w) := by
  have q22 : ∀ (w : World) (a : Option Addr) (n c n' c' : Nat), (binOp .eql 24 (.slice a n c) (.slice none n' c')).run Try.prog w = .ok (.bool a.isNone) w := fun w a n c n' c' => Lib.run_eql_slice_nil w _ _ a n c n' c' Try.underlying24
  go_enter Try.func80, Try.ntmps80
  go_wp2_with fail
  go_ret
  exact ⟨rfl, rfl⟩
/-- 'append' onto a slice of the call's own, as an operation that may be carried out now. -/
theorem op_append_own {P : Program} (w : World) {o : Oper} {a : Act} {K : Act → World → Prop} {Q : Exit → Act → World → Prop} (s x : Operand) (t : TypeId)
    (hop : o.op = .call { callee := .builtin .append, args := #[s, x], argTypes := #[t, t] })
    (base : Nat) (e : TypeId) (i : TypeInfo) (z : Value) (size bytes : Nat) (ht : P.underlying t = some (.slice e)) (hi : P.info? e = some i) (hz : i.zero = some z)
    (hsize : i.size = size) (hby : i.bytes = bytes) (hzs : z.cells.size = size) (hsz : 0 < size)
    (v : Value) (n : Nat) (xs : List Value) (hs : a.eval s = v) (hown : w.ownsRow base e size v n xs)
    (ad : Addr) (m c : Nat) (news : List Value) (hx : a.eval x = .slice (some ad) m c) (hl : news.length = m * size) (hnews : ∀ j u, news[j]? = some u → w.cell? (ad.add j) = some u) (h1 : ∀ u ∈ news, u.oneCell' = true)
    (h63 : n + m ≤ maxLen) (hbytes : (n + m) * bytes ≤ 140737488355328) (hbase : base ≤ w.heap.size)
    (hK : ∀ v' w', w'.ownsRow base e size v' (n + m) (xs ++ news) → w.grownBy w' v.ownBlock → (v'.ownBlock = v.ownBlock ∨ v'.ownBlock = some w.heap.size) → K (a.put o.dst v') w') : Oper.wp P o a w K Q := by
  obtain ⟨v', w', hr, h2, h3, h4, h5⟩ := run_append_own_at (P := P) w base t o.type e i z size bytes ht hi hz hsize hby hzs hsz v n xs hown ad m c news hl hnews h1 h63 hbytes hbase
  unfold Oper.wp execOp
  simp only [hop, resolve, invoke, builtin, Sem.run_bind, Sem.run_pure, Result.andThen_ok, List.map_toArray, List.map_cons, List.map_nil, hs, hx, hr]
  exact hK v' w' h2 h3 h5
/-- A store into a map, as an operation that may be carried out now. -/
theorem op_mapUpdate {P : Program} (w : World) {o : Oper} {a : Act} {K : Act → World → Prop} {Q : Exit → Act → World → Prop} (m x v : Operand) (t : TypeId) (hop : o.op = Op.mapUpdate t m x v)
    (mv key val : Value) (hm : a.eval m = mv) (hx : a.eval x = key) (hv : a.eval v = val) (w' : World) (hrun : (Instr.mapUpdate t mv key val).run P w = .ok () w') (hK : K (a.put o.dst undef) w') : Oper.wp P o a w K Q := by
  unfold Oper.wp
  simp [execOp, hop, hm, hx, hv, hrun, Result.andThen]
  exact hK
end Go.Proofs.Ythedanpldebjcaa
