/-
  No cell of these rows narrows 'for every input' (looked for: loops, veiled, ifaces, maps, wideKeys, modest, calm, conditions, laid).
  DERIVED. THE GIVEN ROWS OF THIS SEAT. 11 by the template 'for every input the law returns true; each argument reads behind the call as it read before'; 0 by the template 'total and deterministic' (their statements: YthedanpldebjcaaTotals.lean).
  GIVEN WITH THE SEED: the statements are not yours to turn. If you find one false, say at which input.
  Laid BY PROGRAM, IN A SANDBOX (cutbox-rows.mjs): the forced cells as the released guide's own fill.sh prints them over the translation b491bf30eb463083… (all of the seat's roots in one cut). By AI agents, Wed Nov 11 2026. No macro, syntax, notation, axiom, sorry.
-/
import Derived.Test.YthedanpldebjcaaChecked
import GoSem.Claim
import GoSem.ClaimJoined
import GoSem.ClaimMapViews
import Derived.JoinedTies
import Derived.KernelRfl
namespace Go.Proofs.Ythedanpldebjcaa
/- THE CELL 'sum', in the pinned program and in every row, IS THE sha256 OF THE DUMP (.gsa) THAT YthedanpldebjcaaProg.lean LOADS. Nothing in Lean hashes anything: it is a label: what it is worth is what the hold of that sum in a sandbox is worth. -/
noncomputable def Try.pinned : Pinned := { name := "ythedanpldebjcaa", sum := "b491bf30eb46308341184cafd44e474a228c4e77def1ff1fa697749eeb534f9c", checked := Try.checked }
namespace Rows
def none {H : Type} : Left H := { results := [], args := [] }

/-- 'laws.FnWays': WHATEVER THE INPUT: true; the input reads as it did. -/
def fnWaysSpec : ChangeSpec := { name := "fnWays", fn := fun _ => fun
  | [d] => { results := [.lit (.bool true)], args := [d] }
  | _ => none }
def fnWaysRow : OpenClaim := { program := "ythedanpldebjcaa", sum := "b491bf30eb46308341184cafd44e474a228c4e77def1ff1fa697749eeb534f9c", func := "loop.example/g01050/laws.FnWays", spec := "fnWays", unfollowed := true, recurses := true, plainKeys := false, apart := false }
def FnWaysSaid : Prop := fnWaysRow.holds Try.pinned (OpenSpec.ofChange fnWaysSpec)

/-- ITS FALSE NEIGHBOUR: 'it returns false'. Refute it at one input. -/
def fnWaysWrong : ChangeSpec := { name := "fnWays", fn := fun _ => fun
  | [d] => { results := [.lit (.bool false)], args := [d] }
  | _ => none }
def FnWaysWrongFalsely : Prop := fnWaysRow.holds Try.pinned (OpenSpec.ofChange fnWaysWrong)

/-- 'laws.FnUsable': WHATEVER THE INPUT: true; the input reads as it did. -/
def fnUsableSpec : ChangeSpec := { name := "fnUsable", fn := fun _ => fun
  | [d] => { results := [.lit (.bool true)], args := [d] }
  | _ => none }
def fnUsableRow : OpenClaim := { program := "ythedanpldebjcaa", sum := "b491bf30eb46308341184cafd44e474a228c4e77def1ff1fa697749eeb534f9c", func := "loop.example/g01050/laws.FnUsable", spec := "fnUsable", unfollowed := true, recurses := true, plainKeys := false, apart := false }
def FnUsableSaid : Prop := fnUsableRow.holds Try.pinned (OpenSpec.ofChange fnUsableSpec)

/-- ITS FALSE NEIGHBOUR: 'it returns false'. Refute it at one input. -/
def fnUsableWrong : ChangeSpec := { name := "fnUsable", fn := fun _ => fun
  | [d] => { results := [.lit (.bool false)], args := [d] }
  | _ => none }
def FnUsableWrongFalsely : Prop := fnUsableRow.holds Try.pinned (OpenSpec.ofChange fnUsableWrong)

/-- 'laws.FnMoveTexts': WHATEVER THE INPUT: true; the input reads as it did. -/
def fnMoveTextsSpec : ChangeSpec := { name := "fnMoveTexts", fn := fun _ => fun
  | [d] => { results := [.lit (.bool true)], args := [d] }
  | _ => none }
def fnMoveTextsRow : OpenClaim := { program := "ythedanpldebjcaa", sum := "b491bf30eb46308341184cafd44e474a228c4e77def1ff1fa697749eeb534f9c", func := "loop.example/g01050/laws.FnMoveTexts", spec := "fnMoveTexts", inPlace := ["internal/bytealg.IndexByteString"], plainKeys := false, apart := false }
def FnMoveTextsSaid : Prop := fnMoveTextsRow.holds Try.pinned (OpenSpec.ofChange fnMoveTextsSpec)

/-- ITS FALSE NEIGHBOUR: 'it returns false'. Refute it at one input. -/
def fnMoveTextsWrong : ChangeSpec := { name := "fnMoveTexts", fn := fun _ => fun
  | [d] => { results := [.lit (.bool false)], args := [d] }
  | _ => none }
def FnMoveTextsWrongFalsely : Prop := fnMoveTextsRow.holds Try.pinned (OpenSpec.ofChange fnMoveTextsWrong)

/-- 'laws.FnExactIsCrossed': WHATEVER THE INPUT: true; the input reads as it did. -/
def fnExactIsCrossedSpec : ChangeSpec := { name := "fnExactIsCrossed", fn := fun _ => fun
  | [d1, d2, d3, d4] => { results := [.lit (.bool true)], args := [d1, d2, d3, d4] }
  | _ => none }
def fnExactIsCrossedRow : OpenClaim := { program := "ythedanpldebjcaa", sum := "b491bf30eb46308341184cafd44e474a228c4e77def1ff1fa697749eeb534f9c", func := "loop.example/g01050/laws.FnExactIsCrossed", spec := "fnExactIsCrossed", plainKeys := false, apart := false }
def FnExactIsCrossedSaid : Prop := fnExactIsCrossedRow.holds Try.pinned (OpenSpec.ofChange fnExactIsCrossedSpec)

/-- ITS FALSE NEIGHBOUR: 'it returns false'. Refute it at one input. -/
def fnExactIsCrossedWrong : ChangeSpec := { name := "fnExactIsCrossed", fn := fun _ => fun
  | [d1, d2, d3, d4] => { results := [.lit (.bool false)], args := [d1, d2, d3, d4] }
  | _ => none }
def FnExactIsCrossedWrongFalsely : Prop := fnExactIsCrossedRow.holds Try.pinned (OpenSpec.ofChange fnExactIsCrossedWrong)

/-- 'laws.FnExactUsableGears': WHATEVER THE INPUT: true; the input reads as it did. -/
def fnExactUsableGearsSpec : ChangeSpec := { name := "fnExactUsableGears", fn := fun _ => fun
  | [d1, d2] => { results := [.lit (.bool true)], args := [d1, d2] }
  | _ => none }
def fnExactUsableGearsRow : OpenClaim := { program := "ythedanpldebjcaa", sum := "b491bf30eb46308341184cafd44e474a228c4e77def1ff1fa697749eeb534f9c", func := "loop.example/g01050/laws.FnExactUsableGears", spec := "fnExactUsableGears", unfollowed := true, recurses := true, plainKeys := false, apart := false }
def FnExactUsableGearsSaid : Prop := fnExactUsableGearsRow.holds Try.pinned (OpenSpec.ofChange fnExactUsableGearsSpec)

/-- ITS FALSE NEIGHBOUR: 'it returns false'. Refute it at one input. -/
def fnExactUsableGearsWrong : ChangeSpec := { name := "fnExactUsableGears", fn := fun _ => fun
  | [d1, d2] => { results := [.lit (.bool false)], args := [d1, d2] }
  | _ => none }
def FnExactUsableGearsWrongFalsely : Prop := fnExactUsableGearsRow.holds Try.pinned (OpenSpec.ofChange fnExactUsableGearsWrong)

/-- 'laws.FnExactShiftGear': WHATEVER THE INPUT: true; the input reads as it did. -/
def fnExactShiftGearSpec : ChangeSpec := { name := "fnExactShiftGear", fn := fun _ => fun
  | [d1, d2, d3, d4, d5] => { results := [.lit (.bool true)], args := [d1, d2, d3, d4, d5] }
  | _ => none }
def fnExactShiftGearRow : OpenClaim := { program := "ythedanpldebjcaa", sum := "b491bf30eb46308341184cafd44e474a228c4e77def1ff1fa697749eeb534f9c", func := "loop.example/g01050/laws.FnExactShiftGear", spec := "fnExactShiftGear", plainKeys := false, apart := false }
def FnExactShiftGearSaid : Prop := fnExactShiftGearRow.holds Try.pinned (OpenSpec.ofChange fnExactShiftGearSpec)

/-- ITS FALSE NEIGHBOUR: 'it returns false'. Refute it at one input. -/
def fnExactShiftGearWrong : ChangeSpec := { name := "fnExactShiftGear", fn := fun _ => fun
  | [d1, d2, d3, d4, d5] => { results := [.lit (.bool false)], args := [d1, d2, d3, d4, d5] }
  | _ => none }
def FnExactShiftGearWrongFalsely : Prop := fnExactShiftGearRow.holds Try.pinned (OpenSpec.ofChange fnExactShiftGearWrong)

/-- 'laws.FnExactShortestWay': WHATEVER THE INPUT: true; the input reads as it did. -/
def fnExactShortestWaySpec : ChangeSpec := { name := "fnExactShortestWay", fn := fun _ => fun
  | [d1, d2, d3, d4, d5, d6] => { results := [.lit (.bool true)], args := [d1, d2, d3, d4, d5, d6] }
  | _ => none }
def fnExactShortestWayRow : OpenClaim := { program := "ythedanpldebjcaa", sum := "b491bf30eb46308341184cafd44e474a228c4e77def1ff1fa697749eeb534f9c", func := "loop.example/g01050/laws.FnExactShortestWay", spec := "fnExactShortestWay", unfollowed := true, recurses := true, plainKeys := false, apart := false }
def FnExactShortestWaySaid : Prop := fnExactShortestWayRow.holds Try.pinned (OpenSpec.ofChange fnExactShortestWaySpec)

/-- ITS FALSE NEIGHBOUR: 'it returns false'. Refute it at one input. -/
def fnExactShortestWayWrong : ChangeSpec := { name := "fnExactShortestWay", fn := fun _ => fun
  | [d1, d2, d3, d4, d5, d6] => { results := [.lit (.bool false)], args := [d1, d2, d3, d4, d5, d6] }
  | _ => none }
def FnExactShortestWayWrongFalsely : Prop := fnExactShortestWayRow.holds Try.pinned (OpenSpec.ofChange fnExactShortestWayWrong)

/-- 'laws.FnExactReachableGears': WHATEVER THE INPUT: true; the input reads as it did. -/
def fnExactReachableGearsSpec : ChangeSpec := { name := "fnExactReachableGears", fn := fun _ => fun
  | [d1, d2, d3, d4] => { results := [.lit (.bool true)], args := [d1, d2, d3, d4] }
  | _ => none }
def fnExactReachableGearsRow : OpenClaim := { program := "ythedanpldebjcaa", sum := "b491bf30eb46308341184cafd44e474a228c4e77def1ff1fa697749eeb534f9c", func := "loop.example/g01050/laws.FnExactReachableGears", spec := "fnExactReachableGears", unfollowed := true, recurses := true, plainKeys := false, apart := false }
def FnExactReachableGearsSaid : Prop := fnExactReachableGearsRow.holds Try.pinned (OpenSpec.ofChange fnExactReachableGearsSpec)

/-- ITS FALSE NEIGHBOUR: 'it returns false'. Refute it at one input. -/
def fnExactReachableGearsWrong : ChangeSpec := { name := "fnExactReachableGears", fn := fun _ => fun
  | [d1, d2, d3, d4] => { results := [.lit (.bool false)], args := [d1, d2, d3, d4] }
  | _ => none }
def FnExactReachableGearsWrongFalsely : Prop := fnExactReachableGearsRow.holds Try.pinned (OpenSpec.ofChange fnExactReachableGearsWrong)

/-- 'laws.FnExactRingShifts': WHATEVER THE INPUT: true; the input reads as it did. -/
def fnExactRingShiftsSpec : ChangeSpec := { name := "fnExactRingShifts", fn := fun _ => fun
  | [d1, d2] => { results := [.lit (.bool true)], args := [d1, d2] }
  | _ => none }
def fnExactRingShiftsRow : OpenClaim := { program := "ythedanpldebjcaa", sum := "b491bf30eb46308341184cafd44e474a228c4e77def1ff1fa697749eeb534f9c", func := "loop.example/g01050/laws.FnExactRingShifts", spec := "fnExactRingShifts", unfollowed := true, recurses := true, plainKeys := false, apart := false }
def FnExactRingShiftsSaid : Prop := fnExactRingShiftsRow.holds Try.pinned (OpenSpec.ofChange fnExactRingShiftsSpec)

/-- ITS FALSE NEIGHBOUR: 'it returns false'. Refute it at one input. -/
def fnExactRingShiftsWrong : ChangeSpec := { name := "fnExactRingShifts", fn := fun _ => fun
  | [d1, d2] => { results := [.lit (.bool false)], args := [d1, d2] }
  | _ => none }
def FnExactRingShiftsWrongFalsely : Prop := fnExactRingShiftsRow.holds Try.pinned (OpenSpec.ofChange fnExactRingShiftsWrong)

/-- 'laws.FnExactMovesText': WHATEVER THE INPUT: true; the input reads as it did. -/
def fnExactMovesTextSpec : ChangeSpec := { name := "fnExactMovesText", fn := fun _ => fun
  | [d] => { results := [.lit (.bool true)], args := [d] }
  | _ => none }
def fnExactMovesTextRow : OpenClaim := { program := "ythedanpldebjcaa", sum := "b491bf30eb46308341184cafd44e474a228c4e77def1ff1fa697749eeb534f9c", func := "loop.example/g01050/laws.FnExactMovesText", spec := "fnExactMovesText", plainKeys := false, apart := false }
def FnExactMovesTextSaid : Prop := fnExactMovesTextRow.holds Try.pinned (OpenSpec.ofChange fnExactMovesTextSpec)

/-- ITS FALSE NEIGHBOUR: 'it returns false'. Refute it at one input. -/
def fnExactMovesTextWrong : ChangeSpec := { name := "fnExactMovesText", fn := fun _ => fun
  | [d] => { results := [.lit (.bool false)], args := [d] }
  | _ => none }
def FnExactMovesTextWrongFalsely : Prop := fnExactMovesTextRow.holds Try.pinned (OpenSpec.ofChange fnExactMovesTextWrong)

/-- 'laws.FnExactReadMoves': WHATEVER THE INPUT: true; the input reads as it did. -/
def fnExactReadMovesSpec : ChangeSpec := { name := "fnExactReadMoves", fn := fun _ => fun
  | [d] => { results := [.lit (.bool true)], args := [d] }
  | _ => none }
def fnExactReadMovesRow : OpenClaim := { program := "ythedanpldebjcaa", sum := "b491bf30eb46308341184cafd44e474a228c4e77def1ff1fa697749eeb534f9c", func := "loop.example/g01050/laws.FnExactReadMoves", spec := "fnExactReadMoves", inPlace := ["internal/bytealg.IndexByteString"], plainKeys := false, apart := false }
def FnExactReadMovesSaid : Prop := fnExactReadMovesRow.holds Try.pinned (OpenSpec.ofChange fnExactReadMovesSpec)

/-- ITS FALSE NEIGHBOUR: 'it returns false'. Refute it at one input. -/
def fnExactReadMovesWrong : ChangeSpec := { name := "fnExactReadMoves", fn := fun _ => fun
  | [d] => { results := [.lit (.bool false)], args := [d] }
  | _ => none }
def FnExactReadMovesWrongFalsely : Prop := fnExactReadMovesRow.holds Try.pinned (OpenSpec.ofChange fnExactReadMovesWrong)

/- THE SECOND FORM. 'bulk': how many values and letters a reading holds, each counted each time it is reached (what is shared counts as often as it is met; a slice's spare places count too). A statement '..UptoSaid' is the law's where the arguments, and the package variables that the reading takes, are together of bulk at most 1048576: NARROWER than '..Said'. Prove '..Said' where nothing that the law and all that it calls make is longer than what came in: it says more and counts as full. Else prove '..UptoSaid'. A law counts once. -/
mutual
def uptoBulk {H : Type} : DataW H → Nat
  | .lit (.string bytes) => bytes.length + 1
  | .lit _ => 1
  | .nil => 1
  | .ptr d => uptoBulk d + 1
  | .slice elems spare => uptoBulkAll elems + uptoBulkAll spare + 1
  | .agg parts => uptoBulkAll parts + 1
  | .iface _ d => uptoBulk d + 1
  | .map entries => uptoBulkEntries entries + 1
  | .held _ => 1
def uptoBulkAll {H : Type} : List (DataW H) → Nat
  | [] => 0
  | d :: r => uptoBulk d + uptoBulkAll r
def uptoBulkEntries {H : Type} : List (Lit × DataW H) → Nat
  | [] => 0
  | x :: r => uptoBulkEntry x + uptoBulkEntries r
def uptoBulkEntry {H : Type} : Lit × DataW H → Nat
  | (.string bytes, d) => bytes.length + uptoBulk d + 1
  | (_, d) => uptoBulk d + 1
 end
def uptoSmall : (H : Type) → List (DataW H) → Bool := fun _ ds => decide (uptoBulkAll ds ≤ 1048576)
def OpenSpec.upto (s : _root_.Go.ChangeSpec) : _root_.Go.OpenSpec := { _root_.Go.OpenSpec.ofChange s with cond := some uptoSmall }

/-- 'laws.FnWays', WHERE WHAT IT READS IS OF BULK AT MOST 1048576: true; the input reads as it did. -/
def fnWaysUptoRow : OpenClaim := { program := "ythedanpldebjcaa", sum := "b491bf30eb46308341184cafd44e474a228c4e77def1ff1fa697749eeb534f9c", func := "loop.example/g01050/laws.FnWays", spec := "fnWays", unfollowed := true, recurses := true, plainKeys := false, apart := false, narrowed := true }
def FnWaysUptoSaid : Prop := fnWaysUptoRow.holds Try.pinned (OpenSpec.upto fnWaysSpec)

/-- 'laws.FnUsable', WHERE WHAT IT READS IS OF BULK AT MOST 1048576: true; the input reads as it did. -/
def fnUsableUptoRow : OpenClaim := { program := "ythedanpldebjcaa", sum := "b491bf30eb46308341184cafd44e474a228c4e77def1ff1fa697749eeb534f9c", func := "loop.example/g01050/laws.FnUsable", spec := "fnUsable", unfollowed := true, recurses := true, plainKeys := false, apart := false, narrowed := true }
def FnUsableUptoSaid : Prop := fnUsableUptoRow.holds Try.pinned (OpenSpec.upto fnUsableSpec)

/-- 'laws.FnMoveTexts', WHERE WHAT IT READS IS OF BULK AT MOST 1048576: true; the input reads as it did. -/
def fnMoveTextsUptoRow : OpenClaim := { program := "ythedanpldebjcaa", sum := "b491bf30eb46308341184cafd44e474a228c4e77def1ff1fa697749eeb534f9c", func := "loop.example/g01050/laws.FnMoveTexts", spec := "fnMoveTexts", inPlace := ["internal/bytealg.IndexByteString"], plainKeys := false, apart := false, narrowed := true }
def FnMoveTextsUptoSaid : Prop := fnMoveTextsUptoRow.holds Try.pinned (OpenSpec.upto fnMoveTextsSpec)

/-- 'laws.FnExactIsCrossed', WHERE WHAT IT READS IS OF BULK AT MOST 1048576: true; the input reads as it did. -/
def fnExactIsCrossedUptoRow : OpenClaim := { program := "ythedanpldebjcaa", sum := "b491bf30eb46308341184cafd44e474a228c4e77def1ff1fa697749eeb534f9c", func := "loop.example/g01050/laws.FnExactIsCrossed", spec := "fnExactIsCrossed", plainKeys := false, apart := false, narrowed := true }
def FnExactIsCrossedUptoSaid : Prop := fnExactIsCrossedUptoRow.holds Try.pinned (OpenSpec.upto fnExactIsCrossedSpec)

/-- 'laws.FnExactUsableGears', WHERE WHAT IT READS IS OF BULK AT MOST 1048576: true; the input reads as it did. -/
def fnExactUsableGearsUptoRow : OpenClaim := { program := "ythedanpldebjcaa", sum := "b491bf30eb46308341184cafd44e474a228c4e77def1ff1fa697749eeb534f9c", func := "loop.example/g01050/laws.FnExactUsableGears", spec := "fnExactUsableGears", unfollowed := true, recurses := true, plainKeys := false, apart := false, narrowed := true }
def FnExactUsableGearsUptoSaid : Prop := fnExactUsableGearsUptoRow.holds Try.pinned (OpenSpec.upto fnExactUsableGearsSpec)

/-- 'laws.FnExactShiftGear', WHERE WHAT IT READS IS OF BULK AT MOST 1048576: true; the input reads as it did. -/
def fnExactShiftGearUptoRow : OpenClaim := { program := "ythedanpldebjcaa", sum := "b491bf30eb46308341184cafd44e474a228c4e77def1ff1fa697749eeb534f9c", func := "loop.example/g01050/laws.FnExactShiftGear", spec := "fnExactShiftGear", plainKeys := false, apart := false, narrowed := true }
def FnExactShiftGearUptoSaid : Prop := fnExactShiftGearUptoRow.holds Try.pinned (OpenSpec.upto fnExactShiftGearSpec)

/-- 'laws.FnExactShortestWay', WHERE WHAT IT READS IS OF BULK AT MOST 1048576: true; the input reads as it did. -/
def fnExactShortestWayUptoRow : OpenClaim := { program := "ythedanpldebjcaa", sum := "b491bf30eb46308341184cafd44e474a228c4e77def1ff1fa697749eeb534f9c", func := "loop.example/g01050/laws.FnExactShortestWay", spec := "fnExactShortestWay", unfollowed := true, recurses := true, plainKeys := false, apart := false, narrowed := true }
def FnExactShortestWayUptoSaid : Prop := fnExactShortestWayUptoRow.holds Try.pinned (OpenSpec.upto fnExactShortestWaySpec)

/-- 'laws.FnExactReachableGears', WHERE WHAT IT READS IS OF BULK AT MOST 1048576: true; the input reads as it did. -/
def fnExactReachableGearsUptoRow : OpenClaim := { program := "ythedanpldebjcaa", sum := "b491bf30eb46308341184cafd44e474a228c4e77def1ff1fa697749eeb534f9c", func := "loop.example/g01050/laws.FnExactReachableGears", spec := "fnExactReachableGears", unfollowed := true, recurses := true, plainKeys := false, apart := false, narrowed := true }
def FnExactReachableGearsUptoSaid : Prop := fnExactReachableGearsUptoRow.holds Try.pinned (OpenSpec.upto fnExactReachableGearsSpec)

/-- 'laws.FnExactRingShifts', WHERE WHAT IT READS IS OF BULK AT MOST 1048576: true; the input reads as it did. -/
def fnExactRingShiftsUptoRow : OpenClaim := { program := "ythedanpldebjcaa", sum := "b491bf30eb46308341184cafd44e474a228c4e77def1ff1fa697749eeb534f9c", func := "loop.example/g01050/laws.FnExactRingShifts", spec := "fnExactRingShifts", unfollowed := true, recurses := true, plainKeys := false, apart := false, narrowed := true }
def FnExactRingShiftsUptoSaid : Prop := fnExactRingShiftsUptoRow.holds Try.pinned (OpenSpec.upto fnExactRingShiftsSpec)

/-- 'laws.FnExactMovesText', WHERE WHAT IT READS IS OF BULK AT MOST 1048576: true; the input reads as it did. -/
def fnExactMovesTextUptoRow : OpenClaim := { program := "ythedanpldebjcaa", sum := "b491bf30eb46308341184cafd44e474a228c4e77def1ff1fa697749eeb534f9c", func := "loop.example/g01050/laws.FnExactMovesText", spec := "fnExactMovesText", plainKeys := false, apart := false, narrowed := true }
def FnExactMovesTextUptoSaid : Prop := fnExactMovesTextUptoRow.holds Try.pinned (OpenSpec.upto fnExactMovesTextSpec)

/-- 'laws.FnExactReadMoves', WHERE WHAT IT READS IS OF BULK AT MOST 1048576: true; the input reads as it did. -/
def fnExactReadMovesUptoRow : OpenClaim := { program := "ythedanpldebjcaa", sum := "b491bf30eb46308341184cafd44e474a228c4e77def1ff1fa697749eeb534f9c", func := "loop.example/g01050/laws.FnExactReadMoves", spec := "fnExactReadMoves", inPlace := ["internal/bytealg.IndexByteString"], plainKeys := false, apart := false, narrowed := true }
def FnExactReadMovesUptoSaid : Prop := fnExactReadMovesUptoRow.holds Try.pinned (OpenSpec.upto fnExactReadMovesSpec)

end Rows
end Go.Proofs.Ythedanpldebjcaa
