/-
  No cell of these rows narrows 'for every input' (looked for: loops, veiled, ifaces, maps, wideKeys, modest, calm, conditions, laid).
  DERIVED. THE GIVEN ROWS OF THIS SEAT. 12 by the template 'for every input the law returns true; each argument reads behind the call as it read before'; 0 by the template 'total and deterministic' (their statements: YthlpmbddpenpmabTotals.lean).
  GIVEN WITH THE SEED: the statements are not yours to turn. If you find one false, say at which input.
  Laid BY PROGRAM, IN A SANDBOX (cutbox-rows.mjs): the forced cells as the released guide's own fill.sh prints them over the translation b0fdae866fde003a… (all of the seat's roots in one cut). By AI agents, Wed Nov 11 2026. No macro, syntax, notation, axiom, sorry.
-/
import Derived.Test.YthlpmbddpenpmabChecked
import GoSem.Claim
import GoSem.ClaimJoined
import GoSem.ClaimMapViews
import Derived.JoinedTies
import Derived.KernelRfl
namespace Go.Proofs.Ythlpmbddpenpmab
/- THE CELL 'sum', in the pinned program and in every row, IS THE sha256 OF THE DUMP (.gsa) THAT YthlpmbddpenpmabProg.lean LOADS. Nothing in Lean hashes anything: it is a label: what it is worth is what the hold of that sum in a sandbox is worth. -/
noncomputable def Try.pinned : Pinned := { name := "ythlpmbddpenpmab", sum := "b0fdae866fde003a81acd8bfc5bb4e6eadf2e14b0792c98696e66fb31f2b2a41", checked := Try.checked }
namespace Rows
def none {H : Type} : Left H := { results := [], args := [] }

/-- 'laws.FnExactBlendOf': WHATEVER THE INPUT: true; the input reads as it did. -/
def fnExactBlendOfSpec : ChangeSpec := { name := "fnExactBlendOf", fn := fun _ => fun
  | [d1, d2] => { results := [.lit (.bool true)], args := [d1, d2] }
  | _ => none }
def fnExactBlendOfRow : OpenClaim := { program := "ythlpmbddpenpmab", sum := "b0fdae866fde003a81acd8bfc5bb4e6eadf2e14b0792c98696e66fb31f2b2a41", func := "loop.example/g01375/laws.FnExactBlendOf", spec := "fnExactBlendOf", inPlace := ["math.Float64bits", "math.Float64frombits"], unfollowed := true, recurses := true, apart := false }
def FnExactBlendOfSaid : Prop := fnExactBlendOfRow.holds Try.pinned (OpenSpec.ofChange fnExactBlendOfSpec)

/-- ITS FALSE NEIGHBOUR: 'it returns false'. Refute it at one input. -/
def fnExactBlendOfWrong : ChangeSpec := { name := "fnExactBlendOf", fn := fun _ => fun
  | [d1, d2] => { results := [.lit (.bool false)], args := [d1, d2] }
  | _ => none }
def FnExactBlendOfWrongFalsely : Prop := fnExactBlendOfRow.holds Try.pinned (OpenSpec.ofChange fnExactBlendOfWrong)

/-- 'laws.FnExactMiddleBlend': WHATEVER THE INPUT: true; the input reads as it did. -/
def fnExactMiddleBlendSpec : ChangeSpec := { name := "fnExactMiddleBlend", fn := fun _ => fun
  | [d] => { results := [.lit (.bool true)], args := [d] }
  | _ => none }
def fnExactMiddleBlendRow : OpenClaim := { program := "ythlpmbddpenpmab", sum := "b0fdae866fde003a81acd8bfc5bb4e6eadf2e14b0792c98696e66fb31f2b2a41", func := "loop.example/g01375/laws.FnExactMiddleBlend", spec := "fnExactMiddleBlend", inPlace := ["math.Float64bits", "math.Float64frombits"], unfollowed := true, recurses := true, apart := false }
def FnExactMiddleBlendSaid : Prop := fnExactMiddleBlendRow.holds Try.pinned (OpenSpec.ofChange fnExactMiddleBlendSpec)

/-- ITS FALSE NEIGHBOUR: 'it returns false'. Refute it at one input. -/
def fnExactMiddleBlendWrong : ChangeSpec := { name := "fnExactMiddleBlend", fn := fun _ => fun
  | [d] => { results := [.lit (.bool false)], args := [d] }
  | _ => none }
def FnExactMiddleBlendWrongFalsely : Prop := fnExactMiddleBlendRow.holds Try.pinned (OpenSpec.ofChange fnExactMiddleBlendWrong)

/-- 'laws.FnExactTreeSums': WHATEVER THE INPUT: true; the input reads as it did. -/
def fnExactTreeSumsSpec : ChangeSpec := { name := "fnExactTreeSums", fn := fun _ => fun
  | [d1, d2] => { results := [.lit (.bool true)], args := [d1, d2] }
  | _ => none }
def fnExactTreeSumsRow : OpenClaim := { program := "ythlpmbddpenpmab", sum := "b0fdae866fde003a81acd8bfc5bb4e6eadf2e14b0792c98696e66fb31f2b2a41", func := "loop.example/g01375/laws.FnExactTreeSums", spec := "fnExactTreeSums", inPlace := ["math.Float64bits", "math.Float64frombits"], apart := false }
def FnExactTreeSumsSaid : Prop := fnExactTreeSumsRow.holds Try.pinned (OpenSpec.ofChange fnExactTreeSumsSpec)

/-- ITS FALSE NEIGHBOUR: 'it returns false'. Refute it at one input. -/
def fnExactTreeSumsWrong : ChangeSpec := { name := "fnExactTreeSums", fn := fun _ => fun
  | [d1, d2] => { results := [.lit (.bool false)], args := [d1, d2] }
  | _ => none }
def FnExactTreeSumsWrongFalsely : Prop := fnExactTreeSumsRow.holds Try.pinned (OpenSpec.ofChange fnExactTreeSumsWrong)

/-- 'laws.FnExactIsTreeSum': WHATEVER THE INPUT: true; the input reads as it did. -/
def fnExactIsTreeSumSpec : ChangeSpec := { name := "fnExactIsTreeSum", fn := fun _ => fun
  | [d1, d2, d3] => { results := [.lit (.bool true)], args := [d1, d2, d3] }
  | _ => none }
def fnExactIsTreeSumRow : OpenClaim := { program := "ythlpmbddpenpmab", sum := "b0fdae866fde003a81acd8bfc5bb4e6eadf2e14b0792c98696e66fb31f2b2a41", func := "loop.example/g01375/laws.FnExactIsTreeSum", spec := "fnExactIsTreeSum", inPlace := ["math.Float64bits", "math.Float64frombits"], apart := false }
def FnExactIsTreeSumSaid : Prop := fnExactIsTreeSumRow.holds Try.pinned (OpenSpec.ofChange fnExactIsTreeSumSpec)

/-- ITS FALSE NEIGHBOUR: 'it returns false'. Refute it at one input. -/
def fnExactIsTreeSumWrong : ChangeSpec := { name := "fnExactIsTreeSum", fn := fun _ => fun
  | [d1, d2, d3] => { results := [.lit (.bool false)], args := [d1, d2, d3] }
  | _ => none }
def FnExactIsTreeSumWrongFalsely : Prop := fnExactIsTreeSumRow.holds Try.pinned (OpenSpec.ofChange fnExactIsTreeSumWrong)

/-- 'laws.FnExactSumUp': WHATEVER THE INPUT: true; the input reads as it did. -/
def fnExactSumUpSpec : ChangeSpec := { name := "fnExactSumUp", fn := fun _ => fun
  | [d1, d2] => { results := [.lit (.bool true)], args := [d1, d2] }
  | _ => none }
def fnExactSumUpRow : OpenClaim := { program := "ythlpmbddpenpmab", sum := "b0fdae866fde003a81acd8bfc5bb4e6eadf2e14b0792c98696e66fb31f2b2a41", func := "loop.example/g01375/laws.FnExactSumUp", spec := "fnExactSumUp", inPlace := ["math.Float64bits", "math.Float64frombits"], apart := false }
def FnExactSumUpSaid : Prop := fnExactSumUpRow.holds Try.pinned (OpenSpec.ofChange fnExactSumUpSpec)

/-- ITS FALSE NEIGHBOUR: 'it returns false'. Refute it at one input. -/
def fnExactSumUpWrong : ChangeSpec := { name := "fnExactSumUp", fn := fun _ => fun
  | [d1, d2] => { results := [.lit (.bool false)], args := [d1, d2] }
  | _ => none }
def FnExactSumUpWrongFalsely : Prop := fnExactSumUpRow.holds Try.pinned (OpenSpec.ofChange fnExactSumUpWrong)

/-- 'laws.FnExactSplitDown': WHATEVER THE INPUT: true; the input reads as it did. -/
def fnExactSplitDownSpec : ChangeSpec := { name := "fnExactSplitDown", fn := fun _ => fun
  | [d1, d2] => { results := [.lit (.bool true)], args := [d1, d2] }
  | _ => none }
def fnExactSplitDownRow : OpenClaim := { program := "ythlpmbddpenpmab", sum := "b0fdae866fde003a81acd8bfc5bb4e6eadf2e14b0792c98696e66fb31f2b2a41", func := "loop.example/g01375/laws.FnExactSplitDown", spec := "fnExactSplitDown", inPlace := ["math.Float64bits", "math.Float64frombits"], apart := false }
def FnExactSplitDownSaid : Prop := fnExactSplitDownRow.holds Try.pinned (OpenSpec.ofChange fnExactSplitDownSpec)

/-- ITS FALSE NEIGHBOUR: 'it returns false'. Refute it at one input. -/
def fnExactSplitDownWrong : ChangeSpec := { name := "fnExactSplitDown", fn := fun _ => fun
  | [d1, d2] => { results := [.lit (.bool false)], args := [d1, d2] }
  | _ => none }
def FnExactSplitDownWrongFalsely : Prop := fnExactSplitDownRow.holds Try.pinned (OpenSpec.ofChange fnExactSplitDownWrong)

/-- 'laws.FnExactLearnWeights': WHATEVER THE INPUT: true; the input reads as it did. -/
def fnExactLearnWeightsSpec : ChangeSpec := { name := "fnExactLearnWeights", fn := fun _ => fun
  | [d1, d2, d3] => { results := [.lit (.bool true)], args := [d1, d2, d3] }
  | _ => none }
def fnExactLearnWeightsRow : OpenClaim := { program := "ythlpmbddpenpmab", sum := "b0fdae866fde003a81acd8bfc5bb4e6eadf2e14b0792c98696e66fb31f2b2a41", func := "loop.example/g01375/laws.FnExactLearnWeights", spec := "fnExactLearnWeights", inPlace := ["math.Float64frombits", "math.Float64bits"], apart := false }
def FnExactLearnWeightsSaid : Prop := fnExactLearnWeightsRow.holds Try.pinned (OpenSpec.ofChange fnExactLearnWeightsSpec)

/-- ITS FALSE NEIGHBOUR: 'it returns false'. Refute it at one input. -/
def fnExactLearnWeightsWrong : ChangeSpec := { name := "fnExactLearnWeights", fn := fun _ => fun
  | [d1, d2, d3] => { results := [.lit (.bool false)], args := [d1, d2, d3] }
  | _ => none }
def FnExactLearnWeightsWrongFalsely : Prop := fnExactLearnWeightsRow.holds Try.pinned (OpenSpec.ofChange fnExactLearnWeightsWrong)

/-- 'laws.FnExactRanksMiss': WHATEVER THE INPUT: true; the input reads as it did. -/
def fnExactRanksMissSpec : ChangeSpec := { name := "fnExactRanksMiss", fn := fun _ => fun
  | [d1, d2] => { results := [.lit (.bool true)], args := [d1, d2] }
  | _ => none }
def fnExactRanksMissRow : OpenClaim := { program := "ythlpmbddpenpmab", sum := "b0fdae866fde003a81acd8bfc5bb4e6eadf2e14b0792c98696e66fb31f2b2a41", func := "loop.example/g01375/laws.FnExactRanksMiss", spec := "fnExactRanksMiss", inPlace := ["math.sqrt", "math.Float64bits", "math.Float64frombits"], unfollowed := true, recurses := true, apart := false }
def FnExactRanksMissSaid : Prop := fnExactRanksMissRow.holds Try.pinned (OpenSpec.ofChange fnExactRanksMissSpec)

/-- ITS FALSE NEIGHBOUR: 'it returns false'. Refute it at one input. -/
def fnExactRanksMissWrong : ChangeSpec := { name := "fnExactRanksMiss", fn := fun _ => fun
  | [d1, d2] => { results := [.lit (.bool false)], args := [d1, d2] }
  | _ => none }
def FnExactRanksMissWrongFalsely : Prop := fnExactRanksMissRow.holds Try.pinned (OpenSpec.ofChange fnExactRanksMissWrong)

/-- 'laws.FnExactBestKind': WHATEVER THE INPUT: true; the input reads as it did. -/
def fnExactBestKindSpec : ChangeSpec := { name := "fnExactBestKind", fn := fun _ => fun
  | [d1, d2, d3, d4] => { results := [.lit (.bool true)], args := [d1, d2, d3, d4] }
  | _ => none }
def fnExactBestKindRow : OpenClaim := { program := "ythlpmbddpenpmab", sum := "b0fdae866fde003a81acd8bfc5bb4e6eadf2e14b0792c98696e66fb31f2b2a41", func := "loop.example/g01375/laws.FnExactBestKind", spec := "fnExactBestKind", inPlace := ["math.Float64bits", "math.Float64frombits"], unfollowed := true, recurses := true, apart := false }
def FnExactBestKindSaid : Prop := fnExactBestKindRow.holds Try.pinned (OpenSpec.ofChange fnExactBestKindSpec)

/-- ITS FALSE NEIGHBOUR: 'it returns false'. Refute it at one input. -/
def fnExactBestKindWrong : ChangeSpec := { name := "fnExactBestKind", fn := fun _ => fun
  | [d1, d2, d3, d4] => { results := [.lit (.bool false)], args := [d1, d2, d3, d4] }
  | _ => none }
def FnExactBestKindWrongFalsely : Prop := fnExactBestKindRow.holds Try.pinned (OpenSpec.ofChange fnExactBestKindWrong)

/-- 'laws.FnExactRunStock': WHATEVER THE INPUT: true; the input reads as it did. -/
def fnExactRunStockSpec : ChangeSpec := { name := "fnExactRunStock", fn := fun _ => fun
  | [d1, d2, d3, d4, d5] => { results := [.lit (.bool true)], args := [d1, d2, d3, d4, d5] }
  | _ => none }
def fnExactRunStockRow : OpenClaim := { program := "ythlpmbddpenpmab", sum := "b0fdae866fde003a81acd8bfc5bb4e6eadf2e14b0792c98696e66fb31f2b2a41", func := "loop.example/g01375/laws.FnExactRunStock", spec := "fnExactRunStock", inPlace := ["math.Float64bits", "math.Float64frombits"], unfollowed := true, recurses := true, apart := false }
def FnExactRunStockSaid : Prop := fnExactRunStockRow.holds Try.pinned (OpenSpec.ofChange fnExactRunStockSpec)

/-- ITS FALSE NEIGHBOUR: 'it returns false'. Refute it at one input. -/
def fnExactRunStockWrong : ChangeSpec := { name := "fnExactRunStock", fn := fun _ => fun
  | [d1, d2, d3, d4, d5] => { results := [.lit (.bool false)], args := [d1, d2, d3, d4, d5] }
  | _ => none }
def FnExactRunStockWrongFalsely : Prop := fnExactRunStockRow.holds Try.pinned (OpenSpec.ofChange fnExactRunStockWrong)

/-- 'laws.FnExactStockLevel': WHATEVER THE INPUT: true; the input reads as it did. -/
def fnExactStockLevelSpec : ChangeSpec := { name := "fnExactStockLevel", fn := fun _ => fun
  | [d1, d2, d3] => { results := [.lit (.bool true)], args := [d1, d2, d3] }
  | _ => none }
def fnExactStockLevelRow : OpenClaim := { program := "ythlpmbddpenpmab", sum := "b0fdae866fde003a81acd8bfc5bb4e6eadf2e14b0792c98696e66fb31f2b2a41", func := "loop.example/g01375/laws.FnExactStockLevel", spec := "fnExactStockLevel", inPlace := ["math.Float64bits", "math.Float64frombits"], unfollowed := true, recurses := true, apart := false }
def FnExactStockLevelSaid : Prop := fnExactStockLevelRow.holds Try.pinned (OpenSpec.ofChange fnExactStockLevelSpec)

/-- ITS FALSE NEIGHBOUR: 'it returns false'. Refute it at one input. -/
def fnExactStockLevelWrong : ChangeSpec := { name := "fnExactStockLevel", fn := fun _ => fun
  | [d1, d2, d3] => { results := [.lit (.bool false)], args := [d1, d2, d3] }
  | _ => none }
def FnExactStockLevelWrongFalsely : Prop := fnExactStockLevelRow.holds Try.pinned (OpenSpec.ofChange fnExactStockLevelWrong)

/-- 'laws.FnExactWeightsByMiss': WHATEVER THE INPUT: true; the input reads as it did. -/
def fnExactWeightsByMissSpec : ChangeSpec := { name := "fnExactWeightsByMiss", fn := fun _ => fun
  | [d] => { results := [.lit (.bool true)], args := [d] }
  | _ => none }
def fnExactWeightsByMissRow : OpenClaim := { program := "ythlpmbddpenpmab", sum := "b0fdae866fde003a81acd8bfc5bb4e6eadf2e14b0792c98696e66fb31f2b2a41", func := "loop.example/g01375/laws.FnExactWeightsByMiss", spec := "fnExactWeightsByMiss", inPlace := ["math.Float64bits", "math.Float64frombits"], unfollowed := true, recurses := true, apart := false }
def FnExactWeightsByMissSaid : Prop := fnExactWeightsByMissRow.holds Try.pinned (OpenSpec.ofChange fnExactWeightsByMissSpec)

/-- ITS FALSE NEIGHBOUR: 'it returns false'. Refute it at one input. -/
def fnExactWeightsByMissWrong : ChangeSpec := { name := "fnExactWeightsByMiss", fn := fun _ => fun
  | [d] => { results := [.lit (.bool false)], args := [d] }
  | _ => none }
def FnExactWeightsByMissWrongFalsely : Prop := fnExactWeightsByMissRow.holds Try.pinned (OpenSpec.ofChange fnExactWeightsByMissWrong)

/- THE SECOND FORM. 'bulk': how many values and letters a reading holds, each counted each time it is reached (what is shared counts as often as it is met; a slice's spare places count too). A statement '..UptoSaid' is the law's where the arguments, and the package variables that the reading takes, are together of bulk at most 1048576: NARROWER than '..Said'. Prove '..Said' where nothing that the law and all that it calls make is longer than what came in: it says more and counts as full. Else prove '..UptoSaid'. A law counts once. -/
mutual
def uptoBulk {H : Type} : DataW H → Nat
  | .lit (.string bytes) => bytes.length + 1
  | .lit _ => 1
  | .nil => 1
  | .ptr d => uptoBulk d + 1
  | .slice elems spare => uptoBulkAll elems + uptoBulkAll spare + 1
  | .agg parts => uptoBulkAll parts + 1
  | .iface _ d => uptoBulk d + 1
  | .map entries => uptoBulkEntries entries + 1
  | .held _ => 1
def uptoBulkAll {H : Type} : List (DataW H) → Nat
  | [] => 0
  | d :: r => uptoBulk d + uptoBulkAll r
def uptoBulkEntries {H : Type} : List (Lit × DataW H) → Nat
  | [] => 0
  | x :: r => uptoBulkEntry x + uptoBulkEntries r
def uptoBulkEntry {H : Type} : Lit × DataW H → Nat
  | (.string bytes, d) => bytes.length + uptoBulk d + 1
  | (_, d) => uptoBulk d + 1
 end
def uptoSmall : (H : Type) → List (DataW H) → Bool := fun _ ds => decide (uptoBulkAll ds ≤ 1048576)
def OpenSpec.upto (s : _root_.Go.ChangeSpec) : _root_.Go.OpenSpec := { _root_.Go.OpenSpec.ofChange s with cond := some uptoSmall }

/-- 'laws.FnExactBlendOf', WHERE WHAT IT READS IS OF BULK AT MOST 1048576: true; the input reads as it did. -/
def fnExactBlendOfUptoRow : OpenClaim := { program := "ythlpmbddpenpmab", sum := "b0fdae866fde003a81acd8bfc5bb4e6eadf2e14b0792c98696e66fb31f2b2a41", func := "loop.example/g01375/laws.FnExactBlendOf", spec := "fnExactBlendOf", inPlace := ["math.Float64bits", "math.Float64frombits"], unfollowed := true, recurses := true, apart := false, narrowed := true }
def FnExactBlendOfUptoSaid : Prop := fnExactBlendOfUptoRow.holds Try.pinned (OpenSpec.upto fnExactBlendOfSpec)

/-- 'laws.FnExactMiddleBlend', WHERE WHAT IT READS IS OF BULK AT MOST 1048576: true; the input reads as it did. -/
def fnExactMiddleBlendUptoRow : OpenClaim := { program := "ythlpmbddpenpmab", sum := "b0fdae866fde003a81acd8bfc5bb4e6eadf2e14b0792c98696e66fb31f2b2a41", func := "loop.example/g01375/laws.FnExactMiddleBlend", spec := "fnExactMiddleBlend", inPlace := ["math.Float64bits", "math.Float64frombits"], unfollowed := true, recurses := true, apart := false, narrowed := true }
def FnExactMiddleBlendUptoSaid : Prop := fnExactMiddleBlendUptoRow.holds Try.pinned (OpenSpec.upto fnExactMiddleBlendSpec)

/-- 'laws.FnExactTreeSums', WHERE WHAT IT READS IS OF BULK AT MOST 1048576: true; the input reads as it did. -/
def fnExactTreeSumsUptoRow : OpenClaim := { program := "ythlpmbddpenpmab", sum := "b0fdae866fde003a81acd8bfc5bb4e6eadf2e14b0792c98696e66fb31f2b2a41", func := "loop.example/g01375/laws.FnExactTreeSums", spec := "fnExactTreeSums", inPlace := ["math.Float64bits", "math.Float64frombits"], apart := false, narrowed := true }
def FnExactTreeSumsUptoSaid : Prop := fnExactTreeSumsUptoRow.holds Try.pinned (OpenSpec.upto fnExactTreeSumsSpec)

/-- 'laws.FnExactIsTreeSum', WHERE WHAT IT READS IS OF BULK AT MOST 1048576: true; the input reads as it did. -/
def fnExactIsTreeSumUptoRow : OpenClaim := { program := "ythlpmbddpenpmab", sum := "b0fdae866fde003a81acd8bfc5bb4e6eadf2e14b0792c98696e66fb31f2b2a41", func := "loop.example/g01375/laws.FnExactIsTreeSum", spec := "fnExactIsTreeSum", inPlace := ["math.Float64bits", "math.Float64frombits"], apart := false, narrowed := true }
def FnExactIsTreeSumUptoSaid : Prop := fnExactIsTreeSumUptoRow.holds Try.pinned (OpenSpec.upto fnExactIsTreeSumSpec)

/-- 'laws.FnExactSumUp', WHERE WHAT IT READS IS OF BULK AT MOST 1048576: true; the input reads as it did. -/
def fnExactSumUpUptoRow : OpenClaim := { program := "ythlpmbddpenpmab", sum := "b0fdae866fde003a81acd8bfc5bb4e6eadf2e14b0792c98696e66fb31f2b2a41", func := "loop.example/g01375/laws.FnExactSumUp", spec := "fnExactSumUp", inPlace := ["math.Float64bits", "math.Float64frombits"], apart := false, narrowed := true }
def FnExactSumUpUptoSaid : Prop := fnExactSumUpUptoRow.holds Try.pinned (OpenSpec.upto fnExactSumUpSpec)

/-- 'laws.FnExactSplitDown', WHERE WHAT IT READS IS OF BULK AT MOST 1048576: true; the input reads as it did. -/
def fnExactSplitDownUptoRow : OpenClaim := { program := "ythlpmbddpenpmab", sum := "b0fdae866fde003a81acd8bfc5bb4e6eadf2e14b0792c98696e66fb31f2b2a41", func := "loop.example/g01375/laws.FnExactSplitDown", spec := "fnExactSplitDown", inPlace := ["math.Float64bits", "math.Float64frombits"], apart := false, narrowed := true }
def FnExactSplitDownUptoSaid : Prop := fnExactSplitDownUptoRow.holds Try.pinned (OpenSpec.upto fnExactSplitDownSpec)

/-- 'laws.FnExactLearnWeights', WHERE WHAT IT READS IS OF BULK AT MOST 1048576: true; the input reads as it did. -/
def fnExactLearnWeightsUptoRow : OpenClaim := { program := "ythlpmbddpenpmab", sum := "b0fdae866fde003a81acd8bfc5bb4e6eadf2e14b0792c98696e66fb31f2b2a41", func := "loop.example/g01375/laws.FnExactLearnWeights", spec := "fnExactLearnWeights", inPlace := ["math.Float64frombits", "math.Float64bits"], apart := false, narrowed := true }
def FnExactLearnWeightsUptoSaid : Prop := fnExactLearnWeightsUptoRow.holds Try.pinned (OpenSpec.upto fnExactLearnWeightsSpec)

/-- 'laws.FnExactRanksMiss', WHERE WHAT IT READS IS OF BULK AT MOST 1048576: true; the input reads as it did. -/
def fnExactRanksMissUptoRow : OpenClaim := { program := "ythlpmbddpenpmab", sum := "b0fdae866fde003a81acd8bfc5bb4e6eadf2e14b0792c98696e66fb31f2b2a41", func := "loop.example/g01375/laws.FnExactRanksMiss", spec := "fnExactRanksMiss", inPlace := ["math.sqrt", "math.Float64bits", "math.Float64frombits"], unfollowed := true, recurses := true, apart := false, narrowed := true }
def FnExactRanksMissUptoSaid : Prop := fnExactRanksMissUptoRow.holds Try.pinned (OpenSpec.upto fnExactRanksMissSpec)

/-- 'laws.FnExactBestKind', WHERE WHAT IT READS IS OF BULK AT MOST 1048576: true; the input reads as it did. -/
def fnExactBestKindUptoRow : OpenClaim := { program := "ythlpmbddpenpmab", sum := "b0fdae866fde003a81acd8bfc5bb4e6eadf2e14b0792c98696e66fb31f2b2a41", func := "loop.example/g01375/laws.FnExactBestKind", spec := "fnExactBestKind", inPlace := ["math.Float64bits", "math.Float64frombits"], unfollowed := true, recurses := true, apart := false, narrowed := true }
def FnExactBestKindUptoSaid : Prop := fnExactBestKindUptoRow.holds Try.pinned (OpenSpec.upto fnExactBestKindSpec)

/-- 'laws.FnExactRunStock', WHERE WHAT IT READS IS OF BULK AT MOST 1048576: true; the input reads as it did. -/
def fnExactRunStockUptoRow : OpenClaim := { program := "ythlpmbddpenpmab", sum := "b0fdae866fde003a81acd8bfc5bb4e6eadf2e14b0792c98696e66fb31f2b2a41", func := "loop.example/g01375/laws.FnExactRunStock", spec := "fnExactRunStock", inPlace := ["math.Float64bits", "math.Float64frombits"], unfollowed := true, recurses := true, apart := false, narrowed := true }
def FnExactRunStockUptoSaid : Prop := fnExactRunStockUptoRow.holds Try.pinned (OpenSpec.upto fnExactRunStockSpec)

/-- 'laws.FnExactStockLevel', WHERE WHAT IT READS IS OF BULK AT MOST 1048576: true; the input reads as it did. -/
def fnExactStockLevelUptoRow : OpenClaim := { program := "ythlpmbddpenpmab", sum := "b0fdae866fde003a81acd8bfc5bb4e6eadf2e14b0792c98696e66fb31f2b2a41", func := "loop.example/g01375/laws.FnExactStockLevel", spec := "fnExactStockLevel", inPlace := ["math.Float64bits", "math.Float64frombits"], unfollowed := true, recurses := true, apart := false, narrowed := true }
def FnExactStockLevelUptoSaid : Prop := fnExactStockLevelUptoRow.holds Try.pinned (OpenSpec.upto fnExactStockLevelSpec)

/-- 'laws.FnExactWeightsByMiss', WHERE WHAT IT READS IS OF BULK AT MOST 1048576: true; the input reads as it did. -/
def fnExactWeightsByMissUptoRow : OpenClaim := { program := "ythlpmbddpenpmab", sum := "b0fdae866fde003a81acd8bfc5bb4e6eadf2e14b0792c98696e66fb31f2b2a41", func := "loop.example/g01375/laws.FnExactWeightsByMiss", spec := "fnExactWeightsByMiss", inPlace := ["math.Float64bits", "math.Float64frombits"], unfollowed := true, recurses := true, apart := false, narrowed := true }
def FnExactWeightsByMissUptoSaid : Prop := fnExactWeightsByMissUptoRow.holds Try.pinned (OpenSpec.upto fnExactWeightsByMissSpec)

end Rows
end Go.Proofs.Ythlpmbddpenpmab
