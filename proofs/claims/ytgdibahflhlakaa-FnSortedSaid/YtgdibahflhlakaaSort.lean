/- The walk of impl.SortNumbers. -/
import Derived.Test.YtgdibahflhlakaaVals
import Derived.Test.YtgdibahflhlakaaInts
import Derived.Test.YtgdibahflhlakaaShelf
import Derived.Sort.OwnSortedInts
import Derived.Maps.AppendAt
import Derived.Deep.AppendLies
namespace Go.Proofs.Ytgdibahflhlakaa
open Go.RowKit

/-- What SortNumbers answers, and what it hands back. -/
def sortR (zs : List Int) : List Int := if codeB zs = 0 then zs.mergeSort (fun x y => decide (x ≤ y)) else []
def SortEnd (w : World) (zs : List Int) (e : Ending) (w' : World) : Prop :=
  ∃ A cap, e = .returned (.tuple #[.slice A (sortR zs).length cap, .int .i64 (codeB zs)]) ∧ Ow w' w.heap.size w'.heap.size 2 A (sortR zs).length cap (ints (sortR zs)) ∧ Below w.heap.size w w'
theorem sortR_bad {zs : List Int} (h : ¬ codeB zs = 0) : sortR zs = [] := by unfold sortR; rw [if_neg h]
theorem sortR_good {zs : List Int} (h : codeB zs = 0) : sortR zs = zs.mergeSort (fun x y => decide (x ≤ y)) := by unfold sortR; rw [if_pos h]
theorem SortEnd.bad {w w' : World} {zs : List Int} {c : Int} (hc : codeB zs = c) (h : ¬ c = 0) (hb : Below w.heap.size w w') : SortEnd w zs (.returned (.tuple #[.slice none 0 0, .int .i64 c])) w' := by
  subst hc
  unfold SortEnd
  rw [sortR_bad h]
  exact ⟨none, 0, rfl, ⟨World.ownsRow_nil _ _ _ _, fun g hg => by cases hg⟩, hb⟩
theorem SortEnd.good {w w' : World} {zs ys : List Int} {A : Option Addr} {n cap : Nat} (hc : codeB zs = 0) (hy : ys = zs.mergeSort (fun x y => decide (x ≤ y))) (hn : ys.length = n) (ho : Ow w' w.heap.size w'.heap.size 2 A n cap (ints ys)) (hb : Below w.heap.size w w') :
    SortEnd w zs (.returned (.tuple #[.slice A n cap, .int .i64 0])) w' := by
  unfold SortEnd
  rw [sortR_good hc, ← hy, hc, hn]
  exact ⟨A, cap, rfl, ho, hb⟩

/-- Behind the library's sort of a row of the call's own. -/
theorem sorted_own {w1 : World} {base g n cap : Nat} {zs : List Int} (hz : zs.length = n) (hown : w1.ownsRow base 2 1 (.slice (some ⟨g, 0, none⟩) n cap) n (ints zs)) :
    Go.Sort.Holds (Value.int .i64) w1 g 0 zs.toArray ∧ ∀ q os', (Go.Sort.grow (Go.Sort.putRow (Value.int .i64) (Go.Sort.ahead w1 q) g 0 (zs.mergeSort (fun x y => decide (x ≤ y))).toArray) os').ownsRow base 2 1 (.slice (some ⟨g, 0, none⟩) n cap) n (ints (zs.mergeSort (fun x y => decide (x ≤ y)))) := by
  subst hz
  rcases hown.2 with ⟨h0, _⟩ | ⟨g', cap', cur, hv, hg, hh, hle, hcap, hsz, htk⟩
  · cases h0
  · cases hv
    rw [Nat.mul_one] at htk
    exact ⟨Go.holds_of_blockI hh htk, fun q os' => Go.ownsRow_sortedI (by simp) hg hh hle hcap hsz⟩

theorem implSort (g n cap : Nat) (zs : List Int) (w : World) (lo : Nat) (h : Rd w lo w.heap.size (some ⟨g, 0, none⟩) n (ints zs)) (hn : n ≤ 1048576) :
    Calls Try.prog 9 #[.slice (some ⟨g, 0, none⟩) n cap] w (SortEnd w zs) := by
  have hz : zs.length = n := by have := h.len; rwa [ints_len] at this
  obtain ⟨i0, hi, hz0, hz1, hz2⟩ := info_parts infoInt
  have hnews : ∀ j u, (ints zs)[j]? = some u → w.cell? ((⟨g, 0, none⟩ : Addr).add j) = some u := fun j u hu => by
    have hj : j < n := by
      rcases Nat.lt_or_ge j n with hj | hj
      · exact hj
      · rw [List.getElem?_eq_none (by rw [ints_len]; omega)] at hu; cases hu
    obtain ⟨b, off, e, _, _, hc⟩ := h.at_ hj
    cases e
    have := hc j u hu
    by_cases hj0 : j = 0
    · subst hj0; simpa [Addr.add] using this
    · simpa [Addr.add, hj0] using this
  have hone : ∀ u ∈ ints zs, u.oneCell' = true := fun u hu => by
    simp only [ints, List.mem_map] at hu
    obtain ⟨x, _, rfl⟩ := hu
    rfl
  have hlen : (ints zs).length = n * 1 := by rw [ints_len]; omega
  have hk := checkList (some ⟨g, 0, none⟩) n cap zs lo w.heap.size w h (by omega)
  cases hc : decide (codeB zs = 0)
  · have hc' : ¬ codeB zs = 0 := by simpa using hc
    have hne : (codeB zs != 0) = true := by simpa using hc'
    have HC := Go.Lib.hid hc'
    have HK := Go.Lib.hid hk
    clear hc hc' hk
    go_enter Try.func9, Try.ntmps9
    go_wp2_with fail
    refine HK.out.mono ?_
    rintro e w' ⟨rfl, rfl⟩
    go_wp2_with fail
    go_ret2
    exact SortEnd.bad rfl HC.out (Below.refl _ _)
  · have hc' : codeB zs = 0 := by simpa using hc
    rw [hc'] at hk
    have HC := Go.Lib.hid hc'
    have HK := Go.Lib.hid hk
    have HZ := Go.Lib.hid hz
    clear hc hc' hk hz
    go_enter Try.func9, Try.ntmps9
    go_wp2_with fail
    refine HK.out.mono ?_
    rintro e w' ⟨rfl, rfl⟩
    go_wp2_with (at_builtin; refine wpList_append_own_at _ rfl _ _ 24 rfl w.heap.size 2 i0 (.int .i64 0) 1 8 Try.underlying24 hi hz0 hz1 hz2 rfl (by omega) _ 0 [] rfl (World.ownsRow_nil _ _ _ _) ⟨g, 0, none⟩ n cap (ints zs) rfl hlen hnews hone (by unfold maxLen; omega) (by omega) (Nat.le_refl _) ?_; intro v1 w1 hown hgrow hnil hat)
    have hnil' : v1 = Value.slice none 0 0 ↔ n = 0 := hnil.trans ⟨fun h => h.2, fun h => ⟨rfl, h⟩⟩
    have hgrow' : w.grownBy w1 none := hgrow
    have hb1 : Below w.heap.size w w1 := (Below.refl _ _).grown hgrow' (Nat.le_refl _) (by simp)
    rw [Nat.zero_add, List.nil_append] at hown
    clear hnil hgrow hat hgrow' hnews hone hlen h
    by_cases h0 : n = 0
    · obtain rfl := hnil'.2 h0
      subst h0
      clear hown hnil'
      refine (Try.slices_Sort_int_none none 0 w1).mono ?_
      rintro e w2 ⟨rfl, rfl⟩
      go_wp2_with fail
      go_ret2
      have hz0 : zs = [] := List.length_eq_zero_iff.1 HZ.out
      exact SortEnd.good (ys := []) HC.out (by rw [hz0]; simp) rfl ⟨World.ownsRow_nil _ _ _ _, fun g hg => by cases hg⟩ hb1
    · obtain ⟨g1, cap1, rfl, hg1, hlt1⟩ := hown.form (by omega)
      have hso := sorted_own HZ.out hown
      obtain ⟨hH, hO⟩ := hso
      have HO := Go.Lib.hid hO
      have hsrt := Try.slices_Sort_int g1 0 cap1 zs w1 hH hlt1 (by have := HZ.out; omega)
      rw [HZ.out] at hsrt
      clear hO hnil' hown hH
      refine hsrt.mono ?_
      rintro e w2 ⟨rfl, q, os, rfl⟩
      have hb2 : Below w.heap.size w (Go.Sort.grow (Go.Sort.putRow (Value.int .i64) (Go.Sort.ahead w1 q) g1 0 (zs.mergeSort (fun x y => decide (x ≤ y))).toArray) os) := hb1.grown (Go.grownBy_sortedI _) hb1.size (fun j hj => by rw [← show g1 = j by simpa using hj]; exact hg1)
      have ho2 := HO.out q os
      have HW := Go.Lib.hid (And.intro hb2 ho2)
      have hlt2 : g1 < (Go.Sort.grow (Go.Sort.putRow (Value.int .i64) (Go.Sort.ahead w1 q) g1 0 (zs.mergeSort (fun x y => decide (x ≤ y))).toArray) os).heap.size := (ho2.lt g1 rfl).2
      have HL := Go.Lib.hid hlt2
      clear hb2 ho2 hlt2
      generalize Go.Sort.grow (Go.Sort.putRow (Value.int .i64) (Go.Sort.ahead w1 q) g1 0 (zs.mergeSort (fun x y => decide (x ≤ y))).toArray) os = w3 at HW HL ⊢
      go_wp2_with fail
      go_ret2
      exact SortEnd.good (ys := zs.mergeSort (fun x y => decide (x ≤ y))) HC.out rfl (by rw [List.length_mergeSort]; exact HZ.out) ⟨HW.out.2, fun j hj => by rw [← show g1 = j by simpa [Value.ownBlock] using hj]; exact HL.out⟩ HW.out.1
end Go.Proofs.Ytgdibahflhlakaa
