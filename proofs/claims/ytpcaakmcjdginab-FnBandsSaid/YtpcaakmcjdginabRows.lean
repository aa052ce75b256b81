/-
  No cell of these rows narrows 'for every input' (looked for: loops, veiled, ifaces, maps, wideKeys, modest, calm, conditions, laid).
  DERIVED. THE GIVEN ROWS OF THIS SEAT. 7 by the template 'for every input the law returns true; each argument reads behind the call as it read before'; 0 by the template 'total and deterministic' (their statements: YtpcaakmcjdginabTotals.lean).
  GIVEN WITH THE SEED: the statements are not yours to turn. If you find one false, say at which input.
  Laid BY PROGRAM, IN A SANDBOX (cutbox-rows.mjs): the forced cells as the released guide's own fill.sh prints them over the translation 07bd34cf1a009b3a… (all of the seat's roots in one cut). By AI agents, Wed Nov 11 2026. No macro, syntax, notation, axiom, sorry.
-/
import Derived.Test.YtpcaakmcjdginabChecked
import GoSem.Claim
import GoSem.ClaimJoined
import GoSem.ClaimMapViews
import Derived.JoinedTies
import Derived.KernelRfl
namespace Go.Proofs.Ytpcaakmcjdginab
/- THE CELL 'sum', in the pinned program and in every row, IS THE sha256 OF THE DUMP (.gsa) THAT YtpcaakmcjdginabProg.lean LOADS. Nothing in Lean hashes anything: it is a label: what it is worth is what the hold of that sum in a sandbox is worth. -/
noncomputable def Try.pinned : Pinned := { name := "ytpcaakmcjdginab", sum := "07bd34cf1a009b3a6d14533cb51445d8bfb4cbc5b9946c10871d96ba7c9d0796", checked := Try.checked }
namespace Rows
def none {H : Type} : Left H := { results := [], args := [] }

/-- 'laws.FnNipples': WHATEVER THE INPUT: true; the input reads as it did. -/
def fnNipplesSpec : ChangeSpec := { name := "fnNipples", fn := fun _ => fun
  | [d] => { results := [.lit (.bool true)], args := [d] }
  | _ => none }
def fnNipplesRow : OpenClaim := { program := "ytpcaakmcjdginab", sum := "07bd34cf1a009b3a6d14533cb51445d8bfb4cbc5b9946c10871d96ba7c9d0796", func := "loop.example/g01050/laws.FnNipples", spec := "fnNipples", apart := false }
def FnNipplesSaid : Prop := fnNipplesRow.holds Try.pinned (OpenSpec.ofChange fnNipplesSpec)

/-- ITS FALSE NEIGHBOUR: 'it returns false'. Refute it at one input. -/
def fnNipplesWrong : ChangeSpec := { name := "fnNipples", fn := fun _ => fun
  | [d] => { results := [.lit (.bool false)], args := [d] }
  | _ => none }
def FnNipplesWrongFalsely : Prop := fnNipplesRow.holds Try.pinned (OpenSpec.ofChange fnNipplesWrong)

/-- 'laws.FnMeans': WHATEVER THE INPUT: true; the input reads as it did. -/
def fnMeansSpec : ChangeSpec := { name := "fnMeans", fn := fun _ => fun
  | [d] => { results := [.lit (.bool true)], args := [d] }
  | _ => none }
def fnMeansRow : OpenClaim := { program := "ytpcaakmcjdginab", sum := "07bd34cf1a009b3a6d14533cb51445d8bfb4cbc5b9946c10871d96ba7c9d0796", func := "loop.example/g01050/laws.FnMeans", spec := "fnMeans", apart := false }
def FnMeansSaid : Prop := fnMeansRow.holds Try.pinned (OpenSpec.ofChange fnMeansSpec)

/-- ITS FALSE NEIGHBOUR: 'it returns false'. Refute it at one input. -/
def fnMeansWrong : ChangeSpec := { name := "fnMeans", fn := fun _ => fun
  | [d] => { results := [.lit (.bool false)], args := [d] }
  | _ => none }
def FnMeansWrongFalsely : Prop := fnMeansRow.holds Try.pinned (OpenSpec.ofChange fnMeansWrong)

/-- 'laws.FnBands': WHATEVER THE INPUT: true; the input reads as it did. -/
def fnBandsSpec : ChangeSpec := { name := "fnBands", fn := fun _ => fun
  | [d] => { results := [.lit (.bool true)], args := [d] }
  | _ => none }
def fnBandsRow : OpenClaim := { program := "ytpcaakmcjdginab", sum := "07bd34cf1a009b3a6d14533cb51445d8bfb4cbc5b9946c10871d96ba7c9d0796", func := "loop.example/g01050/laws.FnBands", spec := "fnBands", apart := false }
def FnBandsSaid : Prop := fnBandsRow.holds Try.pinned (OpenSpec.ofChange fnBandsSpec)

/-- ITS FALSE NEIGHBOUR: 'it returns false'. Refute it at one input. -/
def fnBandsWrong : ChangeSpec := { name := "fnBands", fn := fun _ => fun
  | [d] => { results := [.lit (.bool false)], args := [d] }
  | _ => none }
def FnBandsWrongFalsely : Prop := fnBandsRow.holds Try.pinned (OpenSpec.ofChange fnBandsWrong)

/-- 'laws.FnExactSumOfTensions': WHATEVER THE INPUT: true; the input reads as it did. -/
def fnExactSumOfTensionsSpec : ChangeSpec := { name := "fnExactSumOfTensions", fn := fun _ => fun
  | [d] => { results := [.lit (.bool true)], args := [d] }
  | _ => none }
def fnExactSumOfTensionsRow : OpenClaim := { program := "ytpcaakmcjdginab", sum := "07bd34cf1a009b3a6d14533cb51445d8bfb4cbc5b9946c10871d96ba7c9d0796", func := "loop.example/g01050/laws.FnExactSumOfTensions", spec := "fnExactSumOfTensions", apart := false }
def FnExactSumOfTensionsSaid : Prop := fnExactSumOfTensionsRow.holds Try.pinned (OpenSpec.ofChange fnExactSumOfTensionsSpec)

/-- ITS FALSE NEIGHBOUR: 'it returns false'. Refute it at one input. -/
def fnExactSumOfTensionsWrong : ChangeSpec := { name := "fnExactSumOfTensions", fn := fun _ => fun
  | [d] => { results := [.lit (.bool false)], args := [d] }
  | _ => none }
def FnExactSumOfTensionsWrongFalsely : Prop := fnExactSumOfTensionsRow.holds Try.pinned (OpenSpec.ofChange fnExactSumOfTensionsWrong)

/-- 'laws.FnExactMeanTension': WHATEVER THE INPUT: true; the input reads as it did. -/
def fnExactMeanTensionSpec : ChangeSpec := { name := "fnExactMeanTension", fn := fun _ => fun
  | [d] => { results := [.lit (.bool true)], args := [d] }
  | _ => none }
def fnExactMeanTensionRow : OpenClaim := { program := "ytpcaakmcjdginab", sum := "07bd34cf1a009b3a6d14533cb51445d8bfb4cbc5b9946c10871d96ba7c9d0796", func := "loop.example/g01050/laws.FnExactMeanTension", spec := "fnExactMeanTension", apart := false }
def FnExactMeanTensionSaid : Prop := fnExactMeanTensionRow.holds Try.pinned (OpenSpec.ofChange fnExactMeanTensionSpec)

/-- ITS FALSE NEIGHBOUR: 'it returns false'. Refute it at one input. -/
def fnExactMeanTensionWrong : ChangeSpec := { name := "fnExactMeanTension", fn := fun _ => fun
  | [d] => { results := [.lit (.bool false)], args := [d] }
  | _ => none }
def FnExactMeanTensionWrongFalsely : Prop := fnExactMeanTensionRow.holds Try.pinned (OpenSpec.ofChange fnExactMeanTensionWrong)

/-- 'laws.FnExactOutOfBand': WHATEVER THE INPUT: true; the input reads as it did. -/
def fnExactOutOfBandSpec : ChangeSpec := { name := "fnExactOutOfBand", fn := fun _ => fun
  | [d1, d2] => { results := [.lit (.bool true)], args := [d1, d2] }
  | _ => none }
def fnExactOutOfBandRow : OpenClaim := { program := "ytpcaakmcjdginab", sum := "07bd34cf1a009b3a6d14533cb51445d8bfb4cbc5b9946c10871d96ba7c9d0796", func := "loop.example/g01050/laws.FnExactOutOfBand", spec := "fnExactOutOfBand", apart := false }
def FnExactOutOfBandSaid : Prop := fnExactOutOfBandRow.holds Try.pinned (OpenSpec.ofChange fnExactOutOfBandSpec)

/-- ITS FALSE NEIGHBOUR: 'it returns false'. Refute it at one input. -/
def fnExactOutOfBandWrong : ChangeSpec := { name := "fnExactOutOfBand", fn := fun _ => fun
  | [d1, d2] => { results := [.lit (.bool false)], args := [d1, d2] }
  | _ => none }
def FnExactOutOfBandWrongFalsely : Prop := fnExactOutOfBandRow.holds Try.pinned (OpenSpec.ofChange fnExactOutOfBandWrong)

/-- 'laws.FnExactTurnsForMean': WHATEVER THE INPUT: true; the input reads as it did. -/
def fnExactTurnsForMeanSpec : ChangeSpec := { name := "fnExactTurnsForMean", fn := fun _ => fun
  | [d1, d2, d3] => { results := [.lit (.bool true)], args := [d1, d2, d3] }
  | _ => none }
def fnExactTurnsForMeanRow : OpenClaim := { program := "ytpcaakmcjdginab", sum := "07bd34cf1a009b3a6d14533cb51445d8bfb4cbc5b9946c10871d96ba7c9d0796", func := "loop.example/g01050/laws.FnExactTurnsForMean", spec := "fnExactTurnsForMean", apart := false }
def FnExactTurnsForMeanSaid : Prop := fnExactTurnsForMeanRow.holds Try.pinned (OpenSpec.ofChange fnExactTurnsForMeanSpec)

/-- ITS FALSE NEIGHBOUR: 'it returns false'. Refute it at one input. -/
def fnExactTurnsForMeanWrong : ChangeSpec := { name := "fnExactTurnsForMean", fn := fun _ => fun
  | [d1, d2, d3] => { results := [.lit (.bool false)], args := [d1, d2, d3] }
  | _ => none }
def FnExactTurnsForMeanWrongFalsely : Prop := fnExactTurnsForMeanRow.holds Try.pinned (OpenSpec.ofChange fnExactTurnsForMeanWrong)

/- THE SECOND FORM. 'bulk': how many values and letters a reading holds, each counted each time it is reached (what is shared counts as often as it is met; a slice's spare places count too). A statement '..UptoSaid' is the law's where the arguments, and the package variables that the reading takes, are together of bulk at most 1048576: NARROWER than '..Said'. Prove '..Said' where nothing that the law and all that it calls make is longer than what came in: it says more and counts as full. Else prove '..UptoSaid'. A law counts once. -/
mutual
def uptoBulk {H : Type} : DataW H → Nat
  | .lit (.string bytes) => bytes.length + 1
  | .lit _ => 1
  | .nil => 1
  | .ptr d => uptoBulk d + 1
  | .slice elems spare => uptoBulkAll elems + uptoBulkAll spare + 1
  | .agg parts => uptoBulkAll parts + 1
  | .iface _ d => uptoBulk d + 1
  | .map entries => uptoBulkEntries entries + 1
  | .held _ => 1
def uptoBulkAll {H : Type} : List (DataW H) → Nat
  | [] => 0
  | d :: r => uptoBulk d + uptoBulkAll r
def uptoBulkEntries {H : Type} : List (Lit × DataW H) → Nat
  | [] => 0
  | x :: r => uptoBulkEntry x + uptoBulkEntries r
def uptoBulkEntry {H : Type} : Lit × DataW H → Nat
  | (.string bytes, d) => bytes.length + uptoBulk d + 1
  | (_, d) => uptoBulk d + 1
 end
def uptoSmall : (H : Type) → List (DataW H) → Bool := fun _ ds => decide (uptoBulkAll ds ≤ 1048576)
def OpenSpec.upto (s : _root_.Go.ChangeSpec) : _root_.Go.OpenSpec := { _root_.Go.OpenSpec.ofChange s with cond := some uptoSmall }

/-- 'laws.FnNipples', WHERE WHAT IT READS IS OF BULK AT MOST 1048576: true; the input reads as it did. -/
def fnNipplesUptoRow : OpenClaim := { program := "ytpcaakmcjdginab", sum := "07bd34cf1a009b3a6d14533cb51445d8bfb4cbc5b9946c10871d96ba7c9d0796", func := "loop.example/g01050/laws.FnNipples", spec := "fnNipples", apart := false, narrowed := true }
def FnNipplesUptoSaid : Prop := fnNipplesUptoRow.holds Try.pinned (OpenSpec.upto fnNipplesSpec)

/-- 'laws.FnMeans', WHERE WHAT IT READS IS OF BULK AT MOST 1048576: true; the input reads as it did. -/
def fnMeansUptoRow : OpenClaim := { program := "ytpcaakmcjdginab", sum := "07bd34cf1a009b3a6d14533cb51445d8bfb4cbc5b9946c10871d96ba7c9d0796", func := "loop.example/g01050/laws.FnMeans", spec := "fnMeans", apart := false, narrowed := true }
def FnMeansUptoSaid : Prop := fnMeansUptoRow.holds Try.pinned (OpenSpec.upto fnMeansSpec)

/-- 'laws.FnBands', WHERE WHAT IT READS IS OF BULK AT MOST 1048576: true; the input reads as it did. -/
def fnBandsUptoRow : OpenClaim := { program := "ytpcaakmcjdginab", sum := "07bd34cf1a009b3a6d14533cb51445d8bfb4cbc5b9946c10871d96ba7c9d0796", func := "loop.example/g01050/laws.FnBands", spec := "fnBands", apart := false, narrowed := true }
def FnBandsUptoSaid : Prop := fnBandsUptoRow.holds Try.pinned (OpenSpec.upto fnBandsSpec)

/-- 'laws.FnExactSumOfTensions', WHERE WHAT IT READS IS OF BULK AT MOST 1048576: true; the input reads as it did. -/
def fnExactSumOfTensionsUptoRow : OpenClaim := { program := "ytpcaakmcjdginab", sum := "07bd34cf1a009b3a6d14533cb51445d8bfb4cbc5b9946c10871d96ba7c9d0796", func := "loop.example/g01050/laws.FnExactSumOfTensions", spec := "fnExactSumOfTensions", apart := false, narrowed := true }
def FnExactSumOfTensionsUptoSaid : Prop := fnExactSumOfTensionsUptoRow.holds Try.pinned (OpenSpec.upto fnExactSumOfTensionsSpec)

/-- 'laws.FnExactMeanTension', WHERE WHAT IT READS IS OF BULK AT MOST 1048576: true; the input reads as it did. -/
def fnExactMeanTensionUptoRow : OpenClaim := { program := "ytpcaakmcjdginab", sum := "07bd34cf1a009b3a6d14533cb51445d8bfb4cbc5b9946c10871d96ba7c9d0796", func := "loop.example/g01050/laws.FnExactMeanTension", spec := "fnExactMeanTension", apart := false, narrowed := true }
def FnExactMeanTensionUptoSaid : Prop := fnExactMeanTensionUptoRow.holds Try.pinned (OpenSpec.upto fnExactMeanTensionSpec)

/-- 'laws.FnExactOutOfBand', WHERE WHAT IT READS IS OF BULK AT MOST 1048576: true; the input reads as it did. -/
def fnExactOutOfBandUptoRow : OpenClaim := { program := "ytpcaakmcjdginab", sum := "07bd34cf1a009b3a6d14533cb51445d8bfb4cbc5b9946c10871d96ba7c9d0796", func := "loop.example/g01050/laws.FnExactOutOfBand", spec := "fnExactOutOfBand", apart := false, narrowed := true }
def FnExactOutOfBandUptoSaid : Prop := fnExactOutOfBandUptoRow.holds Try.pinned (OpenSpec.upto fnExactOutOfBandSpec)

/-- 'laws.FnExactTurnsForMean', WHERE WHAT IT READS IS OF BULK AT MOST 1048576: true; the input reads as it did. -/
def fnExactTurnsForMeanUptoRow : OpenClaim := { program := "ytpcaakmcjdginab", sum := "07bd34cf1a009b3a6d14533cb51445d8bfb4cbc5b9946c10871d96ba7c9d0796", func := "loop.example/g01050/laws.FnExactTurnsForMean", spec := "fnExactTurnsForMean", apart := false, narrowed := true }
def FnExactTurnsForMeanUptoSaid : Prop := fnExactTurnsForMeanUptoRow.holds Try.pinned (OpenSpec.upto fnExactTurnsForMeanSpec)

end Rows
end Go.Proofs.Ytpcaakmcjdginab
