/- Letters in the making, strings byte by byte; the index of a letter. -/
import Derived.Test.YthedanpldebjcaaPlainMoves
import Derived.Test.YthedanpldebjcaaTenB
import Derived.Test.YthedanpldebjcaaGearI1
import Derived.Lib.Bytealg
import Derived.Laws.IdiomStrings
namespace Go.Proofs.Ythedanpldebjcaa
open Go.RowKit
set_option linter.unusedSimpArgs false
set_option linter.unusedVariables false

def GivesSN (p : List UInt8 × Int) (w : World) (e : Ending) (w' : World) : Prop := e = .returned (.tuple #[.string ⟨p.1.toArray⟩, .int .i64 p.2]) ∧ Below w.heap.size w w'
theorem GivesSN.of {p : List UInt8 × Int} {t : List UInt8} {z : Int} {w w' : World} (hp : p = (t, z)) (hb : Below w.heap.size w w') : GivesSN p w (.returned (.tuple #[.string ⟨t.toArray⟩, .int .i64 z])) w' := by
  subst hp
  exact ⟨rfl, hb⟩
theorem infoU8 : (Try.prog.info? 5).map (fun i => (i.zero, i.size, i.bytes)) = some (some (.int .u8 0), 1, 1) := by kernel_rfl
def u8s (l : List UInt8) : List Value := l.map fun b => .int .u8 (b.toNat : Int)
/-- Letters in the making. -/
structure GatU (w : World) (l : List UInt8) (v : Value) (wr : World) : Prop where
  row : wr.ownsRow w.heap.size 5 1 v l.length (u8s l)
  b : Below w.heap.size w wr
theorem GatU.nil (w : World) : GatU w [] (.slice none 0 0) w := ⟨World.ownsRow_nil _ _ _ _, Below.refl _ _⟩
theorem GatU.step {w wr w3 : World} {l : List UInt8} {v v' : Value} {b : UInt8} {o : Obj} (h : GatU w l v wr) (hown : w3.ownsRow w.heap.size 5 1 v' (l.length + 1) (u8s l ++ [.int .u8 (b.toNat : Int)])) (hgrow : (wr.alloc o).grownBy w3 v.ownBlock) : GatU w (l ++ [b]) v' w3 := by
  have e : u8s (l ++ [b]) = u8s l ++ [.int .u8 (b.toNat : Int)] := by simp [u8s]
  refine ⟨by rw [e, List.length_append]; exact hown, h.b.trans ((((Below.refl w.heap.size wr).alloc h.b.size o).grown hgrow (by simp; have := h.b.size; omega) fun j ej => ?_))⟩
  rcases h.row.2 with ⟨rfl, _⟩ | ⟨g, cap, cur, rfl, hb, _, _⟩
  · simp [Value.ownBlock] at ej
  · obtain rfl : g = j := by simpa [Value.ownBlock] using ej
    exact hb
/-- The text that the letters make. -/
theorem GatU.text {w wr : World} {l : List UInt8} {v : Value} (h : GatU w l v wr) (h0 : 0 < l.length) : ∃ g cap, v = .slice (some ⟨g, 0, none⟩) l.length cap ∧ (Go.convert 22 9 (.slice (some ⟨g, 0, none⟩) l.length cap)).run Try.prog wr = .ok (.string ⟨l.toArray⟩) wr := by
  rcases h.row.2 with ⟨_, e⟩ | ⟨g, cap, cur, rfl, hb, _, _⟩
  · omega
  · refine ⟨g, cap, rfl, run_convert_bytes_back (P := Try.prog) wr 22 9 5 ⟨g, 0, none⟩ cap l Try.underlying22 Try.underlying5 Try.underlying9 fun j hj => ?_⟩
    have := h.row.cells (g := g) rfl j (.int .u8 (l[j].toNat : Int)) (by simp [u8s, hj])
    exact this
theorem rngB_all {a b : Int} {zs : List Int} (h : ∀ t, t < zs.length → a ≤ zs.getD t 0 ∧ zs.getD t 0 ≤ b) : rngB a b zs = true :=
  rngB_iff.2 fun z hz => by
    obtain ⟨t, ht, e⟩ := List.getElem_of_mem hz
    have := h t ht
    rw [List.getD_eq_getElem?_getD, List.getElem?_eq_getElem ht] at this
    simp only [Option.getD_some] at this
    rwa [e] at this
theorem rngB_no {a b : Int} {zs : List Int} {k : Nat} (hk : k < zs.length) (h : ¬ (a ≤ zs.getD k 0 ∧ zs.getD k 0 ≤ b)) : rngB a b zs = false := by
  rw [← Bool.not_eq_true]
  intro hr
  apply h
  rw [List.getD_eq_getElem?_getD, List.getElem?_eq_getElem hk]
  exact rngB_iff.1 hr _ (List.getElem_mem hk)
theorem all_no {l : List UInt8} {k : Nat} (hk : k < l.length) (h : okM (l.getD k 0) = false) : l.all okM = false := by
  rw [← Bool.not_eq_true]
  intro ha
  have := List.all_eq_true.1 ha _ (List.getElem_mem hk)
  rw [List.getD_eq_getElem?_getD, List.getElem?_eq_getElem hk] at h
  simp only [Option.getD_some] at h
  rw [h] at this
  exact absurd this (by decide)
theorem beq45 {l : List UInt8} (h : ¬ l = [45]) : (l == [45]) = false := beq_eq_false_iff_ne.2 h
theorem str_ne {l : List UInt8} (w : World) (h : ¬ l = [45]) : (Op.stringOp .eql ⟨l.toArray⟩ ⟨#[45]⟩).run Try.prog w = .ok (.bool false) w := by
  have e : (ByteArray.mk #[45]).toList = [45] := ByteArray.toList_mk [45]
  simp [Op.stringOp, e, beq45 h]
theorem str_at {l : List UInt8} (w : World) {k : Nat} (hk : k < l.length) : (Instr.index 9 (.string ⟨l.toArray⟩) (.int .i64 k)).run Try.prog w = .ok (.int .u8 (l.getD k 0).toNat) w := by
  have hs : (ByteArray.mk l.toArray).size = l.length := by simp [ByteArray.size]
  rw [run_index_string w _ _ _ _ Try.underlying9, dif_pos ⟨by omega, by omega⟩]
  have e : l.getD k 0 = l[k] := by simp [List.getD, hk]
  rw [e]
  rfl
theorem idx_dulr (c : UInt8) : Go.Lib.indexByte [100, 117, 108, 114] c = if okM c then unD c else -1 := by
  by_cases h1 : c = 100
  · subst h1; decide
  · by_cases h2 : c = 117
    · subst h2; decide
    · by_cases h3 : c = 108
      · subst h3; decide
      · by_cases h4 : c = 114
        · subst h4; decide
        · have e1 : (100 == c) = false := beq_eq_false_iff_ne.2 (Ne.symm h1)
          have e2 : (117 == c) = false := beq_eq_false_iff_ne.2 (Ne.symm h2)
          have e3 : (108 == c) = false := beq_eq_false_iff_ne.2 (Ne.symm h3)
          have e4 : (114 == c) = false := beq_eq_false_iff_ne.2 (Ne.symm h4)
          simp [Go.Lib.indexByte, okM, e1, e2, e3, e4, h1, h2, h3, h4]
set_option maxRecDepth 100000 in
theorem implIdxL (s : ByteArray) (c : Int) (w : World) : Calls Try.prog 92 #[.string s, .int .u8 c] w (Just (.int .i64 (Go.Lib.indexByte s.data.toList c.toNat.toUInt8)) w) := by
  go_enter Try.func92, Try.ntmps92
  go_wp2_with fail
  rw [run_callFunc_extern Try.func100 (by kernel_rfl) (by kernel_rfl) (by kernel_rfl) (e := Extern.BytealgIndexByte.indexByte) (by kernel_rfl), Lib.run_indexByteString]
  simp only [Result.andThen]
  rw [Oper.upon_value]
  go_wp2_with fail
  go_ret
  exact ⟨rfl, rfl⟩
set_option maxRecDepth 100000 in
theorem implIdx (b : UInt8) (w : World) : Calls Try.prog 75 #[.string ⟨#[100, 117, 108, 114]⟩, .int .u8 (b.toNat : Int)] w (Just (.int .i64 (if okM b then unD b else -1)) w) := by
  have H := Go.Lib.hid (implIdxL ⟨#[100, 117, 108, 114]⟩ (b.toNat : Int) w)
  rw [show ((b.toNat : Int)).toNat.toUInt8 = b by simp, show (ByteArray.mk #[100, 117, 108, 114]).data.toList = [100, 117, 108, 114] from rfl, idx_dulr] at H
  generalize (if okM b then unD b else -1) = z at *
  go_enter Try.func75, Try.ntmps75
  go_wp2_with fail
  refine H.out.mono ?_
  rintro _ _ ⟨rfl, rfl⟩
  go_wp2_with fail
  go_ret
  exact ⟨rfl, rfl⟩
theorem implIsMove2 : True := trivial
end Go.Proofs.Ythedanpldebjcaa
