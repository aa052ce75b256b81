/- Strings as cells. -/
import Derived.Test.YthedanpldebjcaaProg
import Derived.Test.YthedanpldebjcaaMem
import Derived.KernelRfl
namespace Go.Proofs.Ythedanpldebjcaa
open Go.RowKit

theorem infoStr : (Try.prog.info? 9).map (fun i => (i.zero, i.size, i.bytes)) = some (some (.string ⟨#[]⟩), 1, 16) := by kernel_rfl

/-- Strings as cells. -/
def bas (zs : List ByteArray) : List Value := zs.map Value.string
theorem bas_len (zs : List ByteArray) : (bas zs).length = zs.length := by simp [bas]
theorem bas_at (zs : List ByteArray) (k : Nat) (h : k < zs.length) : (bas zs)[k]? = some (.string (zs.getD k ByteArray.empty)) := by simp [bas, h]

/-- What a call leaves that hands back a new list of strings. -/
def NewStrs (w : World) (zs : List ByteArray) (e : Ending) (w' : World) : Prop :=
  ∃ A cap, e = .returned (.slice A zs.length cap) ∧ Ow w' w.heap.size w'.heap.size 9 A zs.length cap (bas zs) ∧ Below w.heap.size w w'
end Go.Proofs.Ythedanpldebjcaa
