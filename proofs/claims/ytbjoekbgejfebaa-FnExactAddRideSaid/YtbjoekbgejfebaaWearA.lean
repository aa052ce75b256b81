/- Rides appended to rides of the call's own; a copy of rides. -/
import Derived.Test.YtbjoekbgejfebaaRides
import Derived.Deep.RegionHeld3
import Derived.LaidEqlPtr
namespace Go.Proofs.Ytbjoekbgejfebaa
open Go.RowKit
set_option linter.unusedSimpArgs false
set_option linter.unusedVariables false

theorem rids_one (xs : List Rid) : ∀ u ∈ rids xs, u.oneCell' = true := fun u hu => by
  unfold rids at hu
  obtain ⟨r, -, hr⟩ := List.mem_flatMap.1 hu
  unfold ridC at hr
  simp only [List.mem_cons, List.not_mem_nil, or_false] at hr
  rcases hr with rfl | rfl | rfl <;> rfl
theorem row_owR {w : World} {base : Nat} {t : TypeId} {v : Value} {xs : List Rid} (h : w.ownsRow base t 3 v xs.length (rids xs)) : ∃ A cap, v = .slice A xs.length cap ∧ OwR w base w.heap.size t A cap xs := by
  have h2 := h.2
  rcases h2 with ⟨hv, h0⟩ | ⟨g, cap', cur, hv, hg, hh, hle, hr⟩
  · refine ⟨none, 0, ?_, ?_⟩
    · rw [hv, h0]
    · have e : (Value.slice none xs.length 0) = v := by rw [hv, h0]
      refine ⟨by rw [e]; exact h, fun g hg => ?_⟩
      rw [e] at hg
      exact (h.lt g hg).2
  · refine ⟨some ⟨g, 0, none⟩, cap', hv, ⟨by rw [← hv]; exact h, fun g' hg' => ?_⟩⟩
    rw [← hv] at hg'
    exact (h.lt g' hg').2
set_option maxHeartbeats 2000000 in
/-- 'append' of rides that lie somewhere onto rides of the call's own. -/
theorem run_appR {V : World} {lo hi : Nat} {A B : Option Addr} {c d : Nat} {xs ys : List Rid} (ho : OwR V lo hi 34 A c xs) (hlo : lo ≤ V.heap.size) (hy : RdR V 0 V.heap.size B ys) (hB : B = none → d = 0 ∧ ys = []) (hf : xs.length + ys.length ≤ 1048576) (ty : TypeId) :
    ∃ A2 c2 w', (Builtin.append_ #[24, 24] ty #[.slice A xs.length c, .slice B ys.length d]).run Try.prog V = .ok (.slice A2 (xs ++ ys).length c2) w' ∧ OwR w' lo w'.heap.size 34 A2 c2 (xs ++ ys) ∧ Below lo V w' ∧ ∀ k, k < V.heap.size → (Value.slice A xs.length c).ownBlock ≠ some k → w'.heap[k]? = V.heap[k]? := by
  obtain ⟨i0, hi, hz0, hz1, hz2⟩ := info_parts infoRide
  have er : rids (xs ++ ys) = rids xs ++ rids ys := by simp [rids]
  cases B with
  | none =>
    obtain ⟨rfl, rfl⟩ := hB rfl
    rw [List.append_nil]
    refine ⟨A, c, V, run_append_owned_none (w := V) (P := Try.prog) lo 24 ty 34 i0 3 Try.underlying24 hi _ _ _ ho.1, ⟨ho.1, fun g hg => (ho.1.lt g hg).2⟩, Below.refl _ _, fun _ _ _ => rfl⟩
  | some ad =>
    have hnews : ∀ j u, (rids ys)[j]? = some u → V.cell? (ad.add j) = some u := by
      intro j u hu
      have hj : j < (rids ys).length := (List.getElem?_eq_some_iff.1 hu).1
      obtain ⟨b, o, e, -, -, hc⟩ := hy.2 (by rw [rids_len] at hj; omega)
      injection e with e
      subst e
      have := hc j u hu
      by_cases h0 : j = 0
      · subst h0; simpa [Addr.add] using this
      · simpa [Addr.add, h0] using this
    obtain ⟨v', w', hr, h2, h3, h4, h5⟩ := run_append_own_at (w := V) (P := Try.prog) lo 24 ty 34 i0 (ridV rid0) 3 24 Try.underlying24 hi hz0 hz1 hz2 rfl (by decide) _ _ _ ho.1 ad ys.length d (rids ys) (rids_len _) hnews (rids_one _) (by unfold maxLen; omega) (by omega) hlo
    rw [← er, ← List.length_append] at h2
    obtain ⟨A2, c2, rfl, ho2⟩ := row_owR h2
    refine ⟨A2, c2, w', hr, ho2, (Below.refl _ _).grown h3 hlo (fun k hk => ?_), fun k hk hne => h3.block k hk (Ne.symm hne)⟩
    rcases ho.1.2 with ⟨hv, h0⟩ | ⟨g, cap', cur, hv, hg, r⟩
    · rw [hv] at hk; simp [Value.ownBlock] at hk
    · rw [hv] at hk
      have : g = k := by simpa [Value.ownBlock] using hk
      omega
/-- .. as an operation that may be carried out now. -/
theorem op_appR {o : Oper} {a : Act} {K : Act → World → Prop} {Q : Exit → Act → World → Prop} {V : World} {lo hi : Nat} {A B : Option Addr} {c d n m : Nat} {xs ys : List Rid} (s x : Operand)
    (hop : o.op = .call { callee := .builtin .append, args := #[s, x], argTypes := #[24, 24] })
    (hs : a.eval s = .slice A n c) (hx : a.eval x = .slice B m d) (hn : xs.length = n) (hm : ys.length = m) (ho : OwR V lo hi 34 A c xs) (hlo : lo ≤ V.heap.size) (hy : RdR V 0 V.heap.size B ys) (hB : B = none → d = 0 ∧ ys = []) (hf : xs.length + ys.length ≤ 1048576)
    (hK : ∀ A2 c2 n2 w', n2 = (xs ++ ys).length → OwR w' lo w'.heap.size 34 A2 c2 (xs ++ ys) → Below lo V w' → (∀ k, k < V.heap.size → (Value.slice A xs.length c).ownBlock ≠ some k → w'.heap[k]? = V.heap[k]?) → K (a.put o.dst (.slice A2 n2 c2)) w') : Oper.wp Try.prog o a V K Q := by
  subst hn; subst hm
  obtain ⟨A2, c2, w', hr, h2, h3, h4⟩ := run_appR ho hlo hy hB hf o.type
  unfold Oper.wp execOp
  simp only [hop, resolve, invoke, builtin, Sem.run_bind, Sem.run_pure, Result.andThen_ok, List.map_toArray, List.map_cons, List.map_nil, hs, hx, hr]
  exact hK A2 c2 _ w' rfl h2 h3 h4
theorem wpList_appR {ops : Array Oper} {rest : List Oper} {o : Oper} {a : Act} {Q : Exit → Act → World → Prop} {V : World} {lo hi : Nat} {A B : Option Addr} {c d n m : Nat} {xs ys : List Rid} (hgd : o.guard = none) (s x : Operand)
    (hop : o.op = .call { callee := .builtin .append, args := #[s, x], argTypes := #[24, 24] })
    (hs : a.eval s = .slice A n c) (hx : a.eval x = .slice B m d) (hn : xs.length = n) (hm : ys.length = m) (ho : OwR V lo hi 34 A c xs) (hlo : lo ≤ V.heap.size) (hy : RdR V 0 V.heap.size B ys) (hB : B = none → d = 0 ∧ ys = []) (hf : xs.length + ys.length ≤ 1048576)
    (h : ∀ A2 c2 w', OwR w' lo w'.heap.size 34 A2 c2 (xs ++ ys) → Below lo V w' → wpList Try.prog ops Q rest (a.put o.dst (.slice A2 (xs ++ ys).length c2)) w') : wpList Try.prog ops Q (o :: rest) a V :=
  wpList_plain hgd fun K hK => op_appR s x hop hs hx hn hm ho hlo hy hB hf fun A2 c2 n2 w' e h1 h2 _ => hK _ _ (e ▸ h A2 c2 w' h1 h2)
theorem RdR.one {w : World} {q : Nat} {r : Rid} (h : Box w q (ridC r)) : RdR w 0 w.heap.size (some ⟨q, 0, none⟩) [r] := by
  refine ⟨rids_len _, fun _ => ⟨q, 0, rfl, Nat.zero_le _, h.lt, fun j u hu => ?_⟩⟩
  have e : rids [r] = ridC r := by simp [rids]
  rw [e] at hu
  rw [Nat.zero_add]
  exact h.at_ j u hu
/-- An empty list of the call's own. -/
theorem OwR.fresh {W : World} {lo : Nat} (h : lo ≤ W.heap.size) (t : TypeId) : OwR (W.alloc (.cells #[] t)) lo (W.alloc (.cells #[] t)).heap.size t (some ⟨W.heap.size, 0, none⟩) 0 [] := by
  have hown : (W.alloc (.cells #[] t)).ownsRow lo t 3 (.slice (some ⟨W.heap.size, 0, none⟩) 0 0) 0 [] := World.ownsRow_lit W #[] 0 h (by decide) (by simp)
  exact ⟨hown, fun g hg => (hown.lt g hg).2⟩
theorem OwR.freshAt {W : World} {lo q : Nat} (h : lo ≤ W.heap.size) (hq : W.heap.size = q) (t : TypeId) : OwR (W.alloc (.cells #[] t)) lo (W.alloc (.cells #[] t)).heap.size t (some ⟨q, 0, none⟩) 0 [] := by
  subst hq
  exact OwR.fresh h t
set_option maxRecDepth 100000 in
set_option maxHeartbeats 4000000 in
theorem implCloneR (A : Option Addr) (c : Nat) (xs : List Rid) (w : World) (L : Lr xs A c w) (hA : A = none → c = 0 ∧ xs = []) :
    Calls Try.prog 61 #[.slice A xs.length c] w fun e w' => ∃ A2 c2, e = .returned (.slice A2 xs.length c2) ∧ OwR w' w.heap.size w'.heap.size 34 A2 c2 xs ∧ Below w.heap.size w w' := by
  have q22 : ∀ (w : World) (a : Option Addr) (n c n' c' : Nat), (binOp .eql 24 (.slice a n c) (.slice none n' c')).run Try.prog w = .ok (.bool a.isNone) w := fun w a n c n' c' => Lib.run_eql_slice_nil w _ _ a n c n' c' Try.underlying24
  cases A with
  | none =>
    obtain ⟨rfl, rfl⟩ := hA rfl
    clear hA L
    go_enter Try.func61, Try.ntmps61
    go_wp2_with fail
    go_ret
    exact ⟨none, 0, rfl, OwR.nil _ _ _ _, Below.refl _ _⟩
  | some ad =>
    have hb := (Below.refl w.heap.size w).alloc (Nat.le_refl _) (.cells #[] 34)
    have hL := (L.below hb).rd
    have hf := L.few
    have HB := Go.Lib.hid hb
    clear L hA hb
    go_enter Try.func61, Try.ntmps61
    go_wp2_with (at_builtin; refine wpList_appR (xs := []) (ys := xs) rfl _ _ rfl rfl rfl rfl rfl (OwR.fresh (Nat.le_refl w.heap.size) 34) (by simp) hL (fun e => by cases e) (by simpa using hf) ?_; intro A2 c2 w' h2 h3; clear hL hf)
    rw [List.nil_append] at *
    have H2 := Go.Lib.hid h2
    have H3 := Go.Lib.hid (HB.out.trans h3)
    clear h2 h3
    go_wp2_with fail
    go_ret
    exact ⟨A2, c2, rfl, H2.out, H3.out⟩
end Go.Proofs.Ytbjoekbgejfebaa
