/- Contracts of impl.splitElements, ReadWords and spec.ReadWords: both read the same words. -/
import Derived.Test.YtbagolmojenohaaDoorSplit
import Derived.Test.YtbagolmojenohaaDoorWordsText
import Derived.Test.YtbagolmojenohaaDoorShelfSplit
import Derived.Test.YtbagolmojenohaaDoorMax
namespace Go.Proofs.YtbagolmojenohaaDoor
open Go.RowKit

theorem newStrs_split {w : World} {X : List ByteArray} {N : Nat} (hX : X.length ≤ N) (hN : N ≤ maxLen) :
    NewStrs w X (.returned (.slice (some ⟨w.heap.size, 0, none⟩) X.length N)) (w.alloc (.cells (Go.Lib.cellsOf X N) 9)) := by
  refine ⟨_, N, rfl, ⟨⟨by rw [bas_len]; omega, .inr ⟨w.heap.size, N, Go.Lib.cellsOf X N, rfl, Nat.le_refl _, heap_alloc_new w _, hX, hN, by rw [Go.Lib.cellsOf_size hX]; omega, ?_⟩⟩, fun g hg => ?_⟩, (Below.refl _ _).alloc (Nat.le_refl _) _⟩
  · simp [Go.Lib.cellsOf, bas]
  · rw [← show w.heap.size = g by simpa [Value.ownBlock] using hg]
    simp

def pieces61 (s : ByteArray) : List ByteArray := Go.Lib.splitB ⟨#[44]⟩ 0 (min 61 (s.size + 1) - 1) s
theorem pieces61_len (s : ByteArray) : (pieces61 s).length ≤ min 61 (s.size + 1) := by
  have := Go.Lib.splitB_length_le ⟨#[44]⟩ 0 (min 61 (s.size + 1) - 1) s
  unfold pieces61
  omega
theorem pieces61_all {s : ByteArray} (h : (cut s).length ≤ 61) : pieces61 s = cut s := by
  have := cut_len s
  exact splitB_all s _ (by omega)
theorem pieces61_more {s : ByteArray} (h : ¬ (cut s).length ≤ 61) : ∃ x, x ∈ pieces61 s ∧ 44 ∈ x.data.toList := by
  have := cut_len s
  exact splitB_more s _ (by omega)

theorem implSplit (s : ByteArray) (w : World) (hs : s.size ≤ 1048576) (hm : HasMax w) (hd : (s.toList == [45]) = false) :
    Calls Tryd.prog 20 #[.string s] w (NewStrs w (pieces61 s)) := by
  have hj : Calls Tryd.prog 26 #[.string s, .string ⟨#[44]⟩, .int .i64 61] w (NewStrs w (pieces61 s)) :=
    (Tryd.strings_SplitN s ⟨#[44]⟩ 61 hm.choose w (by omega) hm.choose_spec (by decide) (by omega) (by omega)).mono fun e w' ⟨he, hw⟩ => by
      subst he; subst hw
      exact newStrs_split (pieces61_len s) (by unfold maxLen; omega)
  have HJ := Go.Lib.hid hj
  clear hj
  go_enter Tryd.func20, Tryd.ntmps20
  go_wp2_with fail
  refine HJ.out.mono ?_
  rintro e w1 ⟨A, cap, rfl, ho, hb⟩
  go_wp2_with fail
  go_ret
  exact ⟨A, cap, rfl, ho, hb⟩
theorem implSplit_dash (s : ByteArray) (w : World) (hd : (s.toList == [45]) = true) :
    Calls Tryd.prog 20 #[.string s] w fun e w' => e = .returned (.slice none 0 0) ∧ w = w' := by
  go_enter Tryd.func20, Tryd.ntmps20
  go_wp2_with fail
  go_ret
  exact ⟨rfl, rfl⟩

/-- The words that a text tells, if it tells any. -/
def readsW (s : ByteArray) : Option (List ByteArray) :=
  if (s.toList == [45]) then some [] else if wordsB (cut s) && decide ((cut s).length ≤ 60) then some (cut s) else none
/-- What ReadWords hands back in both programs. -/
def ReadEnd (w : World) (r : Option (List ByteArray)) (e : Ending) (w' : World) : Prop :=
  Below w.heap.size w w' ∧ match r with
    | none => e = .returned (.tuple #[.slice none 0 0, .int .i64 6])
    | some zs => ∃ A cap, e = .returned (.tuple #[.slice A zs.length cap, .int .i64 0]) ∧ Ow w' w.heap.size w'.heap.size 9 A zs.length cap (bas zs)

theorem extract_size_le (s : ByteArray) (a b : Nat) : (s.extract a b).size ≤ s.size := by
  have : (s.extract a b).data.toList.length ≤ s.data.toList.length := by
    rw [extract_list, List.length_take, List.length_drop]; omega
  exact this
theorem splitB_sizes : ∀ (K : Nat) (s : ByteArray), ∀ x ∈ Go.Lib.splitB ⟨#[44]⟩ 0 K s, x.size ≤ s.size := by
  intro K
  induction K with
  | zero => intro s x hx; simp [Go.Lib.splitB] at hx; subst hx; exact Nat.le_refl _
  | succ K ih =>
    intro s x hx
    unfold Go.Lib.splitB at hx
    split at hx
    · simp at hx; subst hx; exact Nat.le_refl _
    · rcases List.mem_cons.1 hx with h | h
      · subst h; exact extract_size_le _ _ _
      · exact Nat.le_trans (ih _ x h) (extract_size_le _ _ _)
theorem cut_sizes (s : ByteArray) : ∀ x ∈ cut s, x.size ≤ s.size := by
  have h := splitB_all s s.size (by have := cut_len s; omega)
  rw [← h]
  exact splitB_sizes _ _

theorem wordB_comma {x : ByteArray} (h : 44 ∈ x.data.toList) : wordB x = false := by
  cases hw : wordB x
  · rfl
  · unfold wordB at hw
    rw [Bool.and_eq_true] at hw
    have := List.all_eq_true.1 hw.2 44 h
    simp [low] at this

theorem implReadWords (s : ByteArray) (w : World) (hs : s.size ≤ 1048576) (hm : HasMax w) :
    Calls Tryd.prog 9 #[.string s] w (ReadEnd w (readsW s)) := by
  cases hd : (s.toList == [45])
  · have hlen := pieces61_len s
    have HS := Go.Lib.hid (implSplit s w hs hm hd)
    have hsz : ∀ z ∈ pieces61 s, z.size ≤ maxLen := fun z hz => by
      have := splitB_sizes _ _ z hz
      unfold maxLen; omega
    have HZ := Go.Lib.hid hsz
    clear hsz
    have hr : readsW s = if codeW (pieces61 s) = 0 then some (pieces61 s) else none := by
      unfold readsW
      rw [hd]
      by_cases h61 : (cut s).length ≤ 61
      · rw [pieces61_all h61]
        unfold codeW
        cases hb : wordsB (cut s)
        · simp
        · by_cases h60 : 60 < (cut s).length
          · simp [h60, show ¬ (cut s).length ≤ 60 by omega]
          · simp [h60, show (cut s).length ≤ 60 by omega]
      · obtain ⟨x, hx, h44⟩ := pieces61_more h61
        have hb : wordsB (pieces61 s) = false := by
          cases hb : wordsB (pieces61 s)
          · rfl
          · have := List.all_eq_true.1 hb x hx
            rw [wordB_comma h44] at this
            cases this
        rw [codeW_bad hb]
        simp [show ¬ (cut s).length ≤ 60 by omega]
    obtain ⟨X, hX⟩ : ∃ X, X = pieces61 s := ⟨_, rfl⟩
    rw [← hX] at hlen HS HZ hr
    clear hX
    have HR := Go.Lib.hid hr
    clear hr
    cases hc : decide (codeW X = 0)
    · have hc' : ¬ codeW X = 0 := by simpa using hc
      have hne : (codeW X != 0) = true := by simpa using hc'
      have HC := Go.Lib.hid hc'
      clear hc hc'
      go_enter Tryd.func9, Tryd.ntmps9
      go_wp2_with fail
      refine HS.out.mono ?_
      rintro e w1 ⟨A, cap, rfl, ho, hb⟩
      have HK := Go.Lib.hid (checkWords A X.length cap X w.heap.size w1.heap.size w1 ho.rd (by omega) HZ.out)
      go_wp2_with fail
      refine HK.out.mono ?_
      rintro e w' ⟨rfl, rfl⟩
      go_wp2_with fail
      go_ret2
      exact ⟨hb, by rw [HR.out, if_neg HC.out]; rfl⟩
    · have hc' : codeW X = 0 := by simpa using hc
      have HC := Go.Lib.hid hc'
      clear hc hc'
      go_enter Tryd.func9, Tryd.ntmps9
      go_wp2_with fail
      refine HS.out.mono ?_
      rintro e w1 ⟨A, cap, rfl, ho, hb⟩
      have hk := checkWords A X.length cap X w.heap.size w1.heap.size w1 ho.rd (by omega) HZ.out
      rw [HC.out] at hk
      have HK := Go.Lib.hid hk
      clear hk
      go_wp2_with fail
      refine HK.out.mono ?_
      rintro e w' ⟨rfl, rfl⟩
      go_wp2_with fail
      go_ret2
      exact ⟨hb, by rw [HR.out, if_pos HC.out]; exact ⟨A, cap, rfl, ho⟩⟩
  · have HS := Go.Lib.hid (implSplit_dash s w hd)
    have hk := checkWords none 0 0 [] 0 0 w (Rd.nil_ _ _ _ _) (by omega) (fun z hz => by cases hz)
    have hc : codeW [] = 0 := rfl
    rw [hc] at hk
    have HK := Go.Lib.hid hk
    have hr : readsW s = some [] := by unfold readsW; rw [hd]; rfl
    have HR := Go.Lib.hid hr
    clear hk hc hr
    go_enter Tryd.func9, Tryd.ntmps9
    go_wp2_with fail
    refine HS.out.mono ?_
    rintro e w' ⟨rfl, rfl⟩
    go_wp2_with fail
    refine HK.out.mono ?_
    rintro e w' ⟨rfl, rfl⟩
    go_wp2_with fail
    go_ret2
    exact ⟨Below.refl _ _, by rw [HR.out]; exact ⟨none, 0, rfl, ⟨World.ownsRow_nil _ _ _ _, fun g hg => by cases hg⟩⟩⟩

theorem specReadWords (s : ByteArray) (w : World) (hs : s.size ≤ 1048576) :
    Calls Tryd.prog 10 #[.string s] w (ReadEnd w (readsW s)) := by
  cases hd : (s.toList == [45])
  · have hlen := cut_len s
    have HS := Go.Lib.hid (specSplit s w (by omega))
    have hsz : ∀ z ∈ cut s, z.size ≤ maxLen := fun z hz => by
      have := cut_sizes _ z hz
      unfold maxLen; omega
    have HZ := Go.Lib.hid hsz
    clear hsz
    have hr : readsW s = if wordsB (cut s) && decide ((cut s).length ≤ 60) then some (cut s) else none := by
      unfold readsW
      rw [hd]
      rfl
    obtain ⟨X, hX⟩ : ∃ X, X = cut s := ⟨_, rfl⟩
    rw [← hX] at hlen HS HZ hr
    clear hX
    have HR := Go.Lib.hid hr
    clear hr
    cases hb : wordsB X
    · go_enter Tryd.func10, Tryd.ntmps10
      go_wp2_with fail
      refine HS.out.mono ?_
      rintro e w1 ⟨A, cap, rfl, ho, hb1⟩
      have HK := Go.Lib.hid (specAll A X.length cap X w.heap.size w1.heap.size w1 ho.rd (by omega) HZ.out)
      go_wp2_with fail
      refine HK.out.mono ?_
      rintro e w' ⟨rfl, rfl⟩
      go_wp2_with fail
      go_ret2
      exact ⟨hb1, by rw [HR.out, hb]; rfl⟩
    · by_cases h60 : (60 : Int) < (X.length : Int)
      · go_enter Tryd.func10, Tryd.ntmps10
        go_wp2_with fail
        refine HS.out.mono ?_
        rintro e w1 ⟨A, cap, rfl, ho, hb1⟩
        have HK := Go.Lib.hid (specAll A X.length cap X w.heap.size w1.heap.size w1 ho.rd (by omega) HZ.out)
        go_wp2_with fail
        refine HK.out.mono ?_
        rintro e w' ⟨rfl, rfl⟩
        go_wp2_with fail
        go_ret2
        exact ⟨hb1, by rw [HR.out, hb, decide_eq_false (by omega)]; rfl⟩
      · go_enter Tryd.func10, Tryd.ntmps10
        go_wp2_with fail
        refine HS.out.mono ?_
        rintro e w1 ⟨A, cap, rfl, ho, hb1⟩
        have HK := Go.Lib.hid (specAll A X.length cap X w.heap.size w1.heap.size w1 ho.rd (by omega) HZ.out)
        go_wp2_with fail
        refine HK.out.mono ?_
        rintro e w' ⟨rfl, rfl⟩
        go_wp2_with fail
        go_ret2
        exact ⟨hb1, by rw [HR.out, hb, decide_eq_true (by omega)]; exact ⟨A, cap, rfl, ho⟩⟩
  · have hr : readsW s = some [] := by unfold readsW; rw [hd]; rfl
    have HR := Go.Lib.hid hr
    clear hr
    go_enter Tryd.func10, Tryd.ntmps10
    go_wp2_with fail
    go_ret2
    exact ⟨(Below.refl _ _).alloc (Nat.le_refl _) _, by
      rw [HR.out]
      refine ⟨some ⟨w.heap.size, 0, none⟩, 0, rfl, ⟨World.ownsRow_made w #[] 0 (Nat.le_refl _) (Nat.zero_le _) rfl, fun g hg => ?_⟩⟩
      rw [← show w.heap.size = g by simpa [Value.ownBlock] using hg]
      simp⟩

def zsOf (r : Option (List ByteArray)) : List ByteArray := r.getD []
def codeOf (r : Option (List ByteArray)) : Int := if r.isSome then 0 else 6
theorem ReadEnd.one {w w' : World} {r : Option (List ByteArray)} {e : Ending} (h : ReadEnd w r e w') :
    ∃ A cap, e = .returned (.tuple #[.slice A (zsOf r).length cap, .int .i64 (codeOf r)]) ∧ Ow w' w.heap.size w'.heap.size 9 A (zsOf r).length cap (bas (zsOf r)) ∧ Below w.heap.size w w' := by
  obtain ⟨hb, h⟩ := h
  cases r with
  | none => exact ⟨none, 0, h, ⟨World.ownsRow_nil _ _ _ _, fun g hg => by cases hg⟩, hb⟩
  | some zs => obtain ⟨A, cap, he, ho⟩ := h; exact ⟨A, cap, he, ho, hb⟩
theorem readsW_len (s : ByteArray) : (zsOf (readsW s)).length ≤ 60 := by
  unfold readsW zsOf
  split
  · simp
  · split
    · rename_i h
      simp only [Bool.and_eq_true, decide_eq_true_eq] at h
      exact h.2
    · simp
end Go.Proofs.YtbagolmojenohaaDoor
