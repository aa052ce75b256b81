/- Hubs and their texts. No walk. -/
import Derived.Test.YtcphhcnomaociabDoorReadMeas
import Derived.Test.YtcphhcnomaociabDoorPlainHub
import Derived.Test.YtcphhcnomaociabDoorPlainSlash
import Derived.Test.YtcphhcnomaociabDoorPlainJoin
namespace Go.Proofs.YtcphhcnomaociabDoor

theorem joinTail_consH (y : List UInt8) (r : List (List UInt8)) : Go.Lib.joinTail [47] (y :: r) = 47 :: (y ++ Go.Lib.joinTail [47] r) := by simp [Go.Lib.joinTail]
theorem join_twoH (x y : List UInt8) (r : List (List UInt8)) : Go.Lib.join (x :: y :: r) [47] = x ++ 47 :: Go.Lib.join (y :: r) [47] := by
  rw [Go.Lib.join_cons, joinTail_consH, Go.Lib.join_cons]
theorem split_joinH : ∀ (L : List (List UInt8)), L ≠ [] → (∀ x ∈ L, 47 ∉ x) → Slash.splitC (Go.Lib.join L [47]) = L
  | [], h, _ => absurd rfl h
  | [x], _, h => by rw [Go.Lib.join_one]; exact Slash.splitC_none (h x (by simp))
  | x :: y :: r, _, h => by
    rw [join_twoH, Slash.splitC_cut _ (h x (by simp)), split_joinH (y :: r) (by simp) (fun z hz => h z (by simp [hz]))]
theorem join_splitH : ∀ (n : Nat) (l : List UInt8), l.length ≤ n → Go.Lib.join (Slash.splitC l) [47] = l := by
  intro n
  induction n with
  | zero =>
    intro l hl
    obtain rfl : l = [] := List.eq_nil_of_length_eq_zero (by omega)
    rfl
  | succ n ih =>
    intro l hl
    rcases Slash.comma_cases l with hn | ⟨a, b, rfl, hn⟩
    · rw [Slash.splitC_none hn, Go.Lib.join_one]
    · rw [Slash.splitC_cut b hn]
      have hb := ih b (by simp at hl; omega)
      cases hs : Slash.splitC b with
      | nil => exact absurd hs (Slash.splitC_ne b)
      | cons y r => rw [join_twoH, ← hs, hb]
theorem measL_slash (z : Int) : (47 : UInt8) ∉ measL z := by
  have hp : ∀ n, (47 : UInt8) ∉ measP n := by
    intro n h
    unfold measP at h
    rcases List.mem_append.1 h with h | h
    · rcases List.mem_append.1 h with h | h
      · exact decDigits_not (by decide) h
      · simp at h
    · exact decDigits_not (by decide) h
  unfold measL
  split
  · intro h
    rcases List.mem_cons.1 h with e | e
    · cases e
    · exact hp _ e
  · exact hp _
/-- The parts of a hub's text, and the text. -/
def hubPs (h : Hb) : List (List UInt8) := [Go.Lib.decDigits h.n.toNat, measL h.l, measL h.r, measL h.a, measL h.b]
def hubT (h : Hb) : List UInt8 := Go.Lib.join (hubPs h) [47]
theorem hubPs_slash (h : Hb) : ∀ x ∈ hubPs h, (47 : UInt8) ∉ x := by
  intro x hx
  simp only [hubPs, List.mem_cons, List.not_mem_nil, or_false] at hx
  rcases hx with rfl | rfl | rfl | rfl | rfl
  · exact decDigits_not (by decide)
  all_goals exact measL_slash _
theorem hubT_split (h : Hb) : Slash.splitC (hubT h) = hubPs h := split_joinH _ (by simp [hubPs]) (hubPs_slash h)
/-- The hub that five pieces tell, if they tell one. -/
def hubOf (w0 w1 w2 w3 w4 : List UInt8) : Option Hb :=
  if valOk w0 then
    match readsM w1, readsM w2, readsM w3, readsM w4 with
    | some a, some b, some c, some d => if hubB ⟨nv 0 w0, a, b, c, d⟩ then some ⟨nv 0 w0, a, b, c, d⟩ else none
    | _, _, _, _ => none
  else none
def readsH (l : List UInt8) : Option Hb :=
  match Slash.splitC l with
  | [w0, w1, w2, w3, w4] => hubOf w0 w1 w2 w3 w4
  | _ => none
theorem readsM_spec {l : List UInt8} {v : Int} (h : readsM l = some v) : okVal v = true ∧ measL v = l := by
  unfold readsM at h
  split at h
  · split at h
    · rename_i h2
      injection h with h
      subst h
      simpa using h2
    · cases h
  · cases h
theorem hubOf_spec {w0 w1 w2 w3 w4 : List UInt8} {h : Hb} (e : hubOf w0 w1 w2 w3 w4 = some h) : hubB h = true ∧ hubPs h = [w0, w1, w2, w3, w4] := by
  unfold hubOf at e
  split at e
  · rename_i hv
    split at e
    · rename_i a b c d e1 e2 e3 e4
      split at e
      · rename_i hb
        injection e with e
        subst e
        refine ⟨hb, ?_⟩
        simp only [hubPs, Int.toNat_natCast]
        rw [(valOk_spec hv).1, (readsM_spec e1).2, (readsM_spec e2).2, (readsM_spec e3).2, (readsM_spec e4).2]
      · cases e
    · cases e
  · cases e
theorem readsH_spec {l : List UInt8} {h : Hb} (e : readsH l = some h) : hubB h = true ∧ hubT h = l := by
  unfold readsH at e
  split at e
  · rename_i w0 w1 w2 w3 w4 hs
    obtain ⟨h1, h2⟩ := hubOf_spec e
    refine ⟨h1, ?_⟩
    unfold hubT
    rw [h2, ← hs]
    exact join_splitH _ l (Nat.le_refl _)
  · cases e
theorem okVal_small {z : Int} (h0 : 0 ≤ z) (h1 : z ≤ 1200) : okVal z = true := by
  unfold okVal
  simp
  omega
theorem readsH_text {h : Hb} (hb : hubB h = true) : readsH (hubT h) = some h := by
  obtain ⟨hn, ⟨l0, l1⟩, ⟨r0, r1⟩, ⟨a0, a1⟩, b0, b1⟩ := hubB_of hb
  obtain ⟨n0, n1, -⟩ := holes_bd hn
  unfold readsH
  rw [hubT_split]
  show hubOf _ _ _ _ _ = _
  unfold hubOf
  rw [if_pos (valOk_dec (by omega)), readsM_of (okVal_small (by omega) (by omega)) rfl, readsM_of (okVal_small (by omega) (by omega)) rfl, readsM_of (okVal_small (by omega) (by omega)) rfl, readsM_of (okVal_small (by omega) (by omega)) rfl, nv_decDigits]
  have e : (⟨((h.n.toNat : Nat) : Int), h.l, h.r, h.a, h.b⟩ : Hb) = h := by
    rw [Int.toNat_of_nonneg (by omega)]
  show (if hubB (⟨((h.n.toNat : Nat) : Int), h.l, h.r, h.a, h.b⟩ : Hb) then some (⟨((h.n.toNat : Nat) : Int), h.l, h.r, h.a, h.b⟩ : Hb) else none) = some h
  rw [e, if_pos hb]
theorem hubT_len {h : Hb} (hb : hubB h = true) : (hubT h).length ≤ 300 := by
  obtain ⟨hn, ⟨l0, l1⟩, ⟨r0, r1⟩, ⟨a0, a1⟩, b0, b1⟩ := hubB_of hb
  obtain ⟨n0, n1, -⟩ := holes_bd hn
  have d0 := dec_len h.n.toNat (by omega)
  have d1 := measL_len h.l (by omega) (by omega)
  have d2 := measL_len h.r (by omega) (by omega)
  have d3 := measL_len h.a (by omega) (by omega)
  have d4 := measL_len h.b (by omega) (by omega)
  unfold hubT hubPs
  rw [join_twoH, join_twoH, join_twoH, join_twoH, Go.Lib.join_one]
  simp only [List.length_append, List.length_cons]
  omega
def hubA (h : Hb) : Int := if hubB h then 0 else 1
end Go.Proofs.YtcphhcnomaociabDoor
