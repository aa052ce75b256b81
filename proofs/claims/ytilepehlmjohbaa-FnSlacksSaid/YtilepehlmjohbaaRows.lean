/-
  No cell of these rows narrows 'for every input' (looked for: loops, veiled, ifaces, maps, wideKeys, modest, calm, conditions, laid).
  DERIVED. THE GIVEN ROWS OF THIS SEAT. 10 by the template 'for every input the law returns true; each argument reads behind the call as it read before'; 0 by the template 'total and deterministic' (their statements: YtilepehlmjohbaaTotals.lean).
  GIVEN WITH THE SEED: the statements are not yours to turn. If you find one false, say at which input.
  Laid BY PROGRAM, IN A SANDBOX (cutbox-rows.mjs): the forced cells as the released guide's own fill.sh prints them over the translation e62d52d50d5b6918… (all of the seat's roots in one cut). By AI agents, Wed Nov 11 2026. No macro, syntax, notation, axiom, sorry.
-/
import Derived.Test.YtilepehlmjohbaaChecked
import GoSem.Claim
import GoSem.ClaimJoined
import GoSem.ClaimMapViews
import Derived.JoinedTies
import Derived.KernelRfl
namespace Go.Proofs.Ytilepehlmjohbaa
/- THE CELL 'sum', in the pinned program and in every row, IS THE sha256 OF THE DUMP (.gsa) THAT YtilepehlmjohbaaProg.lean LOADS. Nothing in Lean hashes anything: it is a label: what it is worth is what the hold of that sum in a sandbox is worth. -/
noncomputable def Try.pinned : Pinned := { name := "ytilepehlmjohbaa", sum := "e62d52d50d5b6918a5b1dba3f9ddfa5522c49f03b5fc9be13c9e51937677ac6d", checked := Try.checked }
namespace Rows
def none {H : Type} : Left H := { results := [], args := [] }

/-- 'laws.FnLinks': WHATEVER THE INPUT: true; the input reads as it did. -/
def fnLinksSpec : ChangeSpec := { name := "fnLinks", fn := fun _ => fun
  | [d] => { results := [.lit (.bool true)], args := [d] }
  | _ => none }
def fnLinksRow : OpenClaim := { program := "ytilepehlmjohbaa", sum := "e62d52d50d5b6918a5b1dba3f9ddfa5522c49f03b5fc9be13c9e51937677ac6d", func := "loop.example/g01050/laws.FnLinks", spec := "fnLinks", unfollowed := true, recurses := true, plainKeys := false, apart := false }
def FnLinksSaid : Prop := fnLinksRow.holds Try.pinned (OpenSpec.ofChange fnLinksSpec)

/-- ITS FALSE NEIGHBOUR: 'it returns false'. Refute it at one input. -/
def fnLinksWrong : ChangeSpec := { name := "fnLinks", fn := fun _ => fun
  | [d] => { results := [.lit (.bool false)], args := [d] }
  | _ => none }
def FnLinksWrongFalsely : Prop := fnLinksRow.holds Try.pinned (OpenSpec.ofChange fnLinksWrong)

/-- 'laws.FnSlacks': WHATEVER THE INPUT: true; the input reads as it did. -/
def fnSlacksSpec : ChangeSpec := { name := "fnSlacks", fn := fun _ => fun
  | [d] => { results := [.lit (.bool true)], args := [d] }
  | _ => none }
def fnSlacksRow : OpenClaim := { program := "ytilepehlmjohbaa", sum := "e62d52d50d5b6918a5b1dba3f9ddfa5522c49f03b5fc9be13c9e51937677ac6d", func := "loop.example/g01050/laws.FnSlacks", spec := "fnSlacks", unfollowed := true, recurses := true, plainKeys := false, apart := false }
def FnSlacksSaid : Prop := fnSlacksRow.holds Try.pinned (OpenSpec.ofChange fnSlacksSpec)

/-- ITS FALSE NEIGHBOUR: 'it returns false'. Refute it at one input. -/
def fnSlacksWrong : ChangeSpec := { name := "fnSlacks", fn := fun _ => fun
  | [d] => { results := [.lit (.bool false)], args := [d] }
  | _ => none }
def FnSlacksWrongFalsely : Prop := fnSlacksRow.holds Try.pinned (OpenSpec.ofChange fnSlacksWrong)

/-- 'laws.FnExactNeedOf': WHATEVER THE INPUT: true; the input reads as it did. -/
def fnExactNeedOfSpec : ChangeSpec := { name := "fnExactNeedOf", fn := fun _ => fun
  | [d1, d2, d3] => { results := [.lit (.bool true)], args := [d1, d2, d3] }
  | _ => none }
def fnExactNeedOfRow : OpenClaim := { program := "ytilepehlmjohbaa", sum := "e62d52d50d5b6918a5b1dba3f9ddfa5522c49f03b5fc9be13c9e51937677ac6d", func := "loop.example/g01050/laws.FnExactNeedOf", spec := "fnExactNeedOf", plainKeys := false, apart := false }
def FnExactNeedOfSaid : Prop := fnExactNeedOfRow.holds Try.pinned (OpenSpec.ofChange fnExactNeedOfSpec)

/-- ITS FALSE NEIGHBOUR: 'it returns false'. Refute it at one input. -/
def fnExactNeedOfWrong : ChangeSpec := { name := "fnExactNeedOf", fn := fun _ => fun
  | [d1, d2, d3] => { results := [.lit (.bool false)], args := [d1, d2, d3] }
  | _ => none }
def FnExactNeedOfWrongFalsely : Prop := fnExactNeedOfRow.holds Try.pinned (OpenSpec.ofChange fnExactNeedOfWrong)

/-- 'laws.FnExactLinksFor': WHATEVER THE INPUT: true; the input reads as it did. -/
def fnExactLinksForSpec : ChangeSpec := { name := "fnExactLinksFor", fn := fun _ => fun
  | [d1, d2, d3] => { results := [.lit (.bool true)], args := [d1, d2, d3] }
  | _ => none }
def fnExactLinksForRow : OpenClaim := { program := "ytilepehlmjohbaa", sum := "e62d52d50d5b6918a5b1dba3f9ddfa5522c49f03b5fc9be13c9e51937677ac6d", func := "loop.example/g01050/laws.FnExactLinksFor", spec := "fnExactLinksFor", plainKeys := false, apart := false }
def FnExactLinksForSaid : Prop := fnExactLinksForRow.holds Try.pinned (OpenSpec.ofChange fnExactLinksForSpec)

/-- ITS FALSE NEIGHBOUR: 'it returns false'. Refute it at one input. -/
def fnExactLinksForWrong : ChangeSpec := { name := "fnExactLinksFor", fn := fun _ => fun
  | [d1, d2, d3] => { results := [.lit (.bool false)], args := [d1, d2, d3] }
  | _ => none }
def FnExactLinksForWrongFalsely : Prop := fnExactLinksForRow.holds Try.pinned (OpenSpec.ofChange fnExactLinksForWrong)

/-- 'laws.FnExactStayFor': WHATEVER THE INPUT: true; the input reads as it did. -/
def fnExactStayForSpec : ChangeSpec := { name := "fnExactStayFor", fn := fun _ => fun
  | [d1, d2, d3] => { results := [.lit (.bool true)], args := [d1, d2, d3] }
  | _ => none }
def fnExactStayForRow : OpenClaim := { program := "ytilepehlmjohbaa", sum := "e62d52d50d5b6918a5b1dba3f9ddfa5522c49f03b5fc9be13c9e51937677ac6d", func := "loop.example/g01050/laws.FnExactStayFor", spec := "fnExactStayFor", unfollowed := true, recurses := true, plainKeys := false, apart := false }
def FnExactStayForSaid : Prop := fnExactStayForRow.holds Try.pinned (OpenSpec.ofChange fnExactStayForSpec)

/-- ITS FALSE NEIGHBOUR: 'it returns false'. Refute it at one input. -/
def fnExactStayForWrong : ChangeSpec := { name := "fnExactStayFor", fn := fun _ => fun
  | [d1, d2, d3] => { results := [.lit (.bool false)], args := [d1, d2, d3] }
  | _ => none }
def FnExactStayForWrongFalsely : Prop := fnExactStayForRow.holds Try.pinned (OpenSpec.ofChange fnExactStayForWrong)

/-- 'laws.FnExactChainForTrain': WHATEVER THE INPUT: true; the input reads as it did. -/
def fnExactChainForTrainSpec : ChangeSpec := { name := "fnExactChainForTrain", fn := fun _ => fun
  | [d1, d2] => { results := [.lit (.bool true)], args := [d1, d2] }
  | _ => none }
def fnExactChainForTrainRow : OpenClaim := { program := "ytilepehlmjohbaa", sum := "e62d52d50d5b6918a5b1dba3f9ddfa5522c49f03b5fc9be13c9e51937677ac6d", func := "loop.example/g01050/laws.FnExactChainForTrain", spec := "fnExactChainForTrain", plainKeys := false, apart := false }
def FnExactChainForTrainSaid : Prop := fnExactChainForTrainRow.holds Try.pinned (OpenSpec.ofChange fnExactChainForTrainSpec)

/-- ITS FALSE NEIGHBOUR: 'it returns false'. Refute it at one input. -/
def fnExactChainForTrainWrong : ChangeSpec := { name := "fnExactChainForTrain", fn := fun _ => fun
  | [d1, d2] => { results := [.lit (.bool false)], args := [d1, d2] }
  | _ => none }
def FnExactChainForTrainWrongFalsely : Prop := fnExactChainForTrainRow.holds Try.pinned (OpenSpec.ofChange fnExactChainForTrainWrong)

/-- 'laws.FnExactSlacksOf': WHATEVER THE INPUT: true; the input reads as it did. -/
def fnExactSlacksOfSpec : ChangeSpec := { name := "fnExactSlacksOf", fn := fun _ => fun
  | [d1, d2, d3] => { results := [.lit (.bool true)], args := [d1, d2, d3] }
  | _ => none }
def fnExactSlacksOfRow : OpenClaim := { program := "ytilepehlmjohbaa", sum := "e62d52d50d5b6918a5b1dba3f9ddfa5522c49f03b5fc9be13c9e51937677ac6d", func := "loop.example/g01050/laws.FnExactSlacksOf", spec := "fnExactSlacksOf", unfollowed := true, recurses := true, plainKeys := false, apart := false }
def FnExactSlacksOfSaid : Prop := fnExactSlacksOfRow.holds Try.pinned (OpenSpec.ofChange fnExactSlacksOfSpec)

/-- ITS FALSE NEIGHBOUR: 'it returns false'. Refute it at one input. -/
def fnExactSlacksOfWrong : ChangeSpec := { name := "fnExactSlacksOf", fn := fun _ => fun
  | [d1, d2, d3] => { results := [.lit (.bool false)], args := [d1, d2, d3] }
  | _ => none }
def FnExactSlacksOfWrongFalsely : Prop := fnExactSlacksOfRow.holds Try.pinned (OpenSpec.ofChange fnExactSlacksOfWrong)

/-- 'laws.FnExactCapacityOf': WHATEVER THE INPUT: true; the input reads as it did. -/
def fnExactCapacityOfSpec : ChangeSpec := { name := "fnExactCapacityOf", fn := fun _ => fun
  | [d] => { results := [.lit (.bool true)], args := [d] }
  | _ => none }
def fnExactCapacityOfRow : OpenClaim := { program := "ytilepehlmjohbaa", sum := "e62d52d50d5b6918a5b1dba3f9ddfa5522c49f03b5fc9be13c9e51937677ac6d", func := "loop.example/g01050/laws.FnExactCapacityOf", spec := "fnExactCapacityOf", plainKeys := false, apart := false }
def FnExactCapacityOfSaid : Prop := fnExactCapacityOfRow.holds Try.pinned (OpenSpec.ofChange fnExactCapacityOfSpec)

/-- ITS FALSE NEIGHBOUR: 'it returns false'. Refute it at one input. -/
def fnExactCapacityOfWrong : ChangeSpec := { name := "fnExactCapacityOf", fn := fun _ => fun
  | [d] => { results := [.lit (.bool false)], args := [d] }
  | _ => none }
def FnExactCapacityOfWrongFalsely : Prop := fnExactCapacityOfRow.holds Try.pinned (OpenSpec.ofChange fnExactCapacityOfWrong)

/-- 'laws.FnExactLoosestGear': WHATEVER THE INPUT: true; the input reads as it did. -/
def fnExactLoosestGearSpec : ChangeSpec := { name := "fnExactLoosestGear", fn := fun _ => fun
  | [d1, d2, d3] => { results := [.lit (.bool true)], args := [d1, d2, d3] }
  | _ => none }
def fnExactLoosestGearRow : OpenClaim := { program := "ytilepehlmjohbaa", sum := "e62d52d50d5b6918a5b1dba3f9ddfa5522c49f03b5fc9be13c9e51937677ac6d", func := "loop.example/g01050/laws.FnExactLoosestGear", spec := "fnExactLoosestGear", unfollowed := true, recurses := true, plainKeys := false, apart := false }
def FnExactLoosestGearSaid : Prop := fnExactLoosestGearRow.holds Try.pinned (OpenSpec.ofChange fnExactLoosestGearSpec)

/-- ITS FALSE NEIGHBOUR: 'it returns false'. Refute it at one input. -/
def fnExactLoosestGearWrong : ChangeSpec := { name := "fnExactLoosestGear", fn := fun _ => fun
  | [d1, d2, d3] => { results := [.lit (.bool false)], args := [d1, d2, d3] }
  | _ => none }
def FnExactLoosestGearWrongFalsely : Prop := fnExactLoosestGearRow.holds Try.pinned (OpenSpec.ofChange fnExactLoosestGearWrong)

/-- 'laws.FnExactCutLinks': WHATEVER THE INPUT: true; the input reads as it did. -/
def fnExactCutLinksSpec : ChangeSpec := { name := "fnExactCutLinks", fn := fun _ => fun
  | [d1, d2] => { results := [.lit (.bool true)], args := [d1, d2] }
  | _ => none }
def fnExactCutLinksRow : OpenClaim := { program := "ytilepehlmjohbaa", sum := "e62d52d50d5b6918a5b1dba3f9ddfa5522c49f03b5fc9be13c9e51937677ac6d", func := "loop.example/g01050/laws.FnExactCutLinks", spec := "fnExactCutLinks", plainKeys := false, apart := false }
def FnExactCutLinksSaid : Prop := fnExactCutLinksRow.holds Try.pinned (OpenSpec.ofChange fnExactCutLinksSpec)

/-- ITS FALSE NEIGHBOUR: 'it returns false'. Refute it at one input. -/
def fnExactCutLinksWrong : ChangeSpec := { name := "fnExactCutLinks", fn := fun _ => fun
  | [d1, d2] => { results := [.lit (.bool false)], args := [d1, d2] }
  | _ => none }
def FnExactCutLinksWrongFalsely : Prop := fnExactCutLinksRow.holds Try.pinned (OpenSpec.ofChange fnExactCutLinksWrong)

/- THE SECOND FORM. 'bulk': how many values and letters a reading holds, each counted each time it is reached (what is shared counts as often as it is met; a slice's spare places count too). A statement '..UptoSaid' is the law's where the arguments, and the package variables that the reading takes, are together of bulk at most 1048576: NARROWER than '..Said'. Prove '..Said' where nothing that the law and all that it calls make is longer than what came in: it says more and counts as full. Else prove '..UptoSaid'. A law counts once. -/
mutual
def uptoBulk {H : Type} : DataW H → Nat
  | .lit (.string bytes) => bytes.length + 1
  | .lit _ => 1
  | .nil => 1
  | .ptr d => uptoBulk d + 1
  | .slice elems spare => uptoBulkAll elems + uptoBulkAll spare + 1
  | .agg parts => uptoBulkAll parts + 1
  | .iface _ d => uptoBulk d + 1
  | .map entries => uptoBulkEntries entries + 1
  | .held _ => 1
def uptoBulkAll {H : Type} : List (DataW H) → Nat
  | [] => 0
  | d :: r => uptoBulk d + uptoBulkAll r
def uptoBulkEntries {H : Type} : List (Lit × DataW H) → Nat
  | [] => 0
  | x :: r => uptoBulkEntry x + uptoBulkEntries r
def uptoBulkEntry {H : Type} : Lit × DataW H → Nat
  | (.string bytes, d) => bytes.length + uptoBulk d + 1
  | (_, d) => uptoBulk d + 1
 end
def uptoSmall : (H : Type) → List (DataW H) → Bool := fun _ ds => decide (uptoBulkAll ds ≤ 1048576)
def OpenSpec.upto (s : _root_.Go.ChangeSpec) : _root_.Go.OpenSpec := { _root_.Go.OpenSpec.ofChange s with cond := some uptoSmall }

/-- 'laws.FnLinks', WHERE WHAT IT READS IS OF BULK AT MOST 1048576: true; the input reads as it did. -/
def fnLinksUptoRow : OpenClaim := { program := "ytilepehlmjohbaa", sum := "e62d52d50d5b6918a5b1dba3f9ddfa5522c49f03b5fc9be13c9e51937677ac6d", func := "loop.example/g01050/laws.FnLinks", spec := "fnLinks", unfollowed := true, recurses := true, plainKeys := false, apart := false, narrowed := true }
def FnLinksUptoSaid : Prop := fnLinksUptoRow.holds Try.pinned (OpenSpec.upto fnLinksSpec)

/-- 'laws.FnSlacks', WHERE WHAT IT READS IS OF BULK AT MOST 1048576: true; the input reads as it did. -/
def fnSlacksUptoRow : OpenClaim := { program := "ytilepehlmjohbaa", sum := "e62d52d50d5b6918a5b1dba3f9ddfa5522c49f03b5fc9be13c9e51937677ac6d", func := "loop.example/g01050/laws.FnSlacks", spec := "fnSlacks", unfollowed := true, recurses := true, plainKeys := false, apart := false, narrowed := true }
def FnSlacksUptoSaid : Prop := fnSlacksUptoRow.holds Try.pinned (OpenSpec.upto fnSlacksSpec)

/-- 'laws.FnExactNeedOf', WHERE WHAT IT READS IS OF BULK AT MOST 1048576: true; the input reads as it did. -/
def fnExactNeedOfUptoRow : OpenClaim := { program := "ytilepehlmjohbaa", sum := "e62d52d50d5b6918a5b1dba3f9ddfa5522c49f03b5fc9be13c9e51937677ac6d", func := "loop.example/g01050/laws.FnExactNeedOf", spec := "fnExactNeedOf", plainKeys := false, apart := false, narrowed := true }
def FnExactNeedOfUptoSaid : Prop := fnExactNeedOfUptoRow.holds Try.pinned (OpenSpec.upto fnExactNeedOfSpec)

/-- 'laws.FnExactLinksFor', WHERE WHAT IT READS IS OF BULK AT MOST 1048576: true; the input reads as it did. -/
def fnExactLinksForUptoRow : OpenClaim := { program := "ytilepehlmjohbaa", sum := "e62d52d50d5b6918a5b1dba3f9ddfa5522c49f03b5fc9be13c9e51937677ac6d", func := "loop.example/g01050/laws.FnExactLinksFor", spec := "fnExactLinksFor", plainKeys := false, apart := false, narrowed := true }
def FnExactLinksForUptoSaid : Prop := fnExactLinksForUptoRow.holds Try.pinned (OpenSpec.upto fnExactLinksForSpec)

/-- 'laws.FnExactStayFor', WHERE WHAT IT READS IS OF BULK AT MOST 1048576: true; the input reads as it did. -/
def fnExactStayForUptoRow : OpenClaim := { program := "ytilepehlmjohbaa", sum := "e62d52d50d5b6918a5b1dba3f9ddfa5522c49f03b5fc9be13c9e51937677ac6d", func := "loop.example/g01050/laws.FnExactStayFor", spec := "fnExactStayFor", unfollowed := true, recurses := true, plainKeys := false, apart := false, narrowed := true }
def FnExactStayForUptoSaid : Prop := fnExactStayForUptoRow.holds Try.pinned (OpenSpec.upto fnExactStayForSpec)

/-- 'laws.FnExactChainForTrain', WHERE WHAT IT READS IS OF BULK AT MOST 1048576: true; the input reads as it did. -/
def fnExactChainForTrainUptoRow : OpenClaim := { program := "ytilepehlmjohbaa", sum := "e62d52d50d5b6918a5b1dba3f9ddfa5522c49f03b5fc9be13c9e51937677ac6d", func := "loop.example/g01050/laws.FnExactChainForTrain", spec := "fnExactChainForTrain", plainKeys := false, apart := false, narrowed := true }
def FnExactChainForTrainUptoSaid : Prop := fnExactChainForTrainUptoRow.holds Try.pinned (OpenSpec.upto fnExactChainForTrainSpec)

/-- 'laws.FnExactSlacksOf', WHERE WHAT IT READS IS OF BULK AT MOST 1048576: true; the input reads as it did. -/
def fnExactSlacksOfUptoRow : OpenClaim := { program := "ytilepehlmjohbaa", sum := "e62d52d50d5b6918a5b1dba3f9ddfa5522c49f03b5fc9be13c9e51937677ac6d", func := "loop.example/g01050/laws.FnExactSlacksOf", spec := "fnExactSlacksOf", unfollowed := true, recurses := true, plainKeys := false, apart := false, narrowed := true }
def FnExactSlacksOfUptoSaid : Prop := fnExactSlacksOfUptoRow.holds Try.pinned (OpenSpec.upto fnExactSlacksOfSpec)

/-- 'laws.FnExactCapacityOf', WHERE WHAT IT READS IS OF BULK AT MOST 1048576: true; the input reads as it did. -/
def fnExactCapacityOfUptoRow : OpenClaim := { program := "ytilepehlmjohbaa", sum := "e62d52d50d5b6918a5b1dba3f9ddfa5522c49f03b5fc9be13c9e51937677ac6d", func := "loop.example/g01050/laws.FnExactCapacityOf", spec := "fnExactCapacityOf", plainKeys := false, apart := false, narrowed := true }
def FnExactCapacityOfUptoSaid : Prop := fnExactCapacityOfUptoRow.holds Try.pinned (OpenSpec.upto fnExactCapacityOfSpec)

/-- 'laws.FnExactLoosestGear', WHERE WHAT IT READS IS OF BULK AT MOST 1048576: true; the input reads as it did. -/
def fnExactLoosestGearUptoRow : OpenClaim := { program := "ytilepehlmjohbaa", sum := "e62d52d50d5b6918a5b1dba3f9ddfa5522c49f03b5fc9be13c9e51937677ac6d", func := "loop.example/g01050/laws.FnExactLoosestGear", spec := "fnExactLoosestGear", unfollowed := true, recurses := true, plainKeys := false, apart := false, narrowed := true }
def FnExactLoosestGearUptoSaid : Prop := fnExactLoosestGearUptoRow.holds Try.pinned (OpenSpec.upto fnExactLoosestGearSpec)

/-- 'laws.FnExactCutLinks', WHERE WHAT IT READS IS OF BULK AT MOST 1048576: true; the input reads as it did. -/
def fnExactCutLinksUptoRow : OpenClaim := { program := "ytilepehlmjohbaa", sum := "e62d52d50d5b6918a5b1dba3f9ddfa5522c49f03b5fc9be13c9e51937677ac6d", func := "loop.example/g01050/laws.FnExactCutLinks", spec := "fnExactCutLinks", plainKeys := false, apart := false, narrowed := true }
def FnExactCutLinksUptoSaid : Prop := fnExactCutLinksUptoRow.holds Try.pinned (OpenSpec.upto fnExactCutLinksSpec)

end Rows
end Go.Proofs.Ytilepehlmjohbaa
