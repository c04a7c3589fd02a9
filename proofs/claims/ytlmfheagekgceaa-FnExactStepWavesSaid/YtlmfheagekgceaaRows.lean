/-
  No cell of these rows narrows 'for every input' (looked for: loops, veiled, ifaces, maps, wideKeys, modest, calm, conditions, laid).
  DERIVED. THE GIVEN ROWS OF THIS SEAT. 12 by the template 'for every input the law returns true; each argument reads behind the call as it read before'; 0 by the template 'total and deterministic' (their statements: YtlmfheagekgceaaTotals.lean).
  GIVEN WITH THE SEED: the statements are not yours to turn. If you find one false, say at which input.
  Laid BY PROGRAM, IN A SANDBOX (cutbox-rows.mjs): the forced cells as the released guide's own fill.sh prints them over the translation 9d3ed67145ad0664… (all of the seat's roots in one cut). By AI agents, Wed Nov 11 2026. No macro, syntax, notation, axiom, sorry.
-/
import Derived.Test.YtlmfheagekgceaaChecked
import GoSem.Claim
import GoSem.ClaimJoined
import GoSem.ClaimMapViews
import Derived.JoinedTies
import Derived.KernelRfl
namespace Go.Proofs.Ytlmfheagekgceaa
/- THE CELL 'sum', in the pinned program and in every row, IS THE sha256 OF THE DUMP (.gsa) THAT YtlmfheagekgceaaProg.lean LOADS. Nothing in Lean hashes anything: it is a label: what it is worth is what the hold of that sum in a sandbox is worth. -/
noncomputable def Try.pinned : Pinned := { name := "ytlmfheagekgceaa", sum := "9d3ed67145ad06645ca7f9ed5739b5c938122088d8d3f02bdec486512e848222", checked := Try.checked }
namespace Rows
def none {H : Type} : Left H := { results := [], args := [] }

/-- 'laws.FnExactSeasonOf': WHATEVER THE INPUT: true; the input reads as it did. -/
def fnExactSeasonOfSpec : ChangeSpec := { name := "fnExactSeasonOf", fn := fun _ => fun
  | [d1, d2] => { results := [.lit (.bool true)], args := [d1, d2] }
  | _ => none }
def fnExactSeasonOfRow : OpenClaim := { program := "ytlmfheagekgceaa", sum := "9d3ed67145ad06645ca7f9ed5739b5c938122088d8d3f02bdec486512e848222", func := "loop.example/g01375/laws.FnExactSeasonOf", spec := "fnExactSeasonOf", inPlace := ["math.Float64bits", "math.Float64frombits"], unfollowed := true, recurses := true, apart := false }
def FnExactSeasonOfSaid : Prop := fnExactSeasonOfRow.holds Try.pinned (OpenSpec.ofChange fnExactSeasonOfSpec)

/-- ITS FALSE NEIGHBOUR: 'it returns false'. Refute it at one input. -/
def fnExactSeasonOfWrong : ChangeSpec := { name := "fnExactSeasonOf", fn := fun _ => fun
  | [d1, d2] => { results := [.lit (.bool false)], args := [d1, d2] }
  | _ => none }
def FnExactSeasonOfWrongFalsely : Prop := fnExactSeasonOfRow.holds Try.pinned (OpenSpec.ofChange fnExactSeasonOfWrong)

/-- 'laws.FnExactFittedOf': WHATEVER THE INPUT: true; the input reads as it did. -/
def fnExactFittedOfSpec : ChangeSpec := { name := "fnExactFittedOf", fn := fun _ => fun
  | [d1, d2] => { results := [.lit (.bool true)], args := [d1, d2] }
  | _ => none }
def fnExactFittedOfRow : OpenClaim := { program := "ytlmfheagekgceaa", sum := "9d3ed67145ad06645ca7f9ed5739b5c938122088d8d3f02bdec486512e848222", func := "loop.example/g01375/laws.FnExactFittedOf", spec := "fnExactFittedOf", inPlace := ["math.Float64bits", "math.Float64frombits"], unfollowed := true, recurses := true, apart := false }
def FnExactFittedOfSaid : Prop := fnExactFittedOfRow.holds Try.pinned (OpenSpec.ofChange fnExactFittedOfSpec)

/-- ITS FALSE NEIGHBOUR: 'it returns false'. Refute it at one input. -/
def fnExactFittedOfWrong : ChangeSpec := { name := "fnExactFittedOf", fn := fun _ => fun
  | [d1, d2] => { results := [.lit (.bool false)], args := [d1, d2] }
  | _ => none }
def FnExactFittedOfWrongFalsely : Prop := fnExactFittedOfRow.holds Try.pinned (OpenSpec.ofChange fnExactFittedOfWrong)

/-- 'laws.FnExactRestOfFit': WHATEVER THE INPUT: true; the input reads as it did. -/
def fnExactRestOfFitSpec : ChangeSpec := { name := "fnExactRestOfFit", fn := fun _ => fun
  | [d1, d2] => { results := [.lit (.bool true)], args := [d1, d2] }
  | _ => none }
def fnExactRestOfFitRow : OpenClaim := { program := "ytlmfheagekgceaa", sum := "9d3ed67145ad06645ca7f9ed5739b5c938122088d8d3f02bdec486512e848222", func := "loop.example/g01375/laws.FnExactRestOfFit", spec := "fnExactRestOfFit", inPlace := ["math.Float64bits", "math.Float64frombits"], unfollowed := true, recurses := true, apart := false }
def FnExactRestOfFitSaid : Prop := fnExactRestOfFitRow.holds Try.pinned (OpenSpec.ofChange fnExactRestOfFitSpec)

/-- ITS FALSE NEIGHBOUR: 'it returns false'. Refute it at one input. -/
def fnExactRestOfFitWrong : ChangeSpec := { name := "fnExactRestOfFit", fn := fun _ => fun
  | [d1, d2] => { results := [.lit (.bool false)], args := [d1, d2] }
  | _ => none }
def FnExactRestOfFitWrongFalsely : Prop := fnExactRestOfFitRow.holds Try.pinned (OpenSpec.ofChange fnExactRestOfFitWrong)

/-- 'laws.FnExactLagColumns': WHATEVER THE INPUT: true; the input reads as it did. -/
def fnExactLagColumnsSpec : ChangeSpec := { name := "fnExactLagColumns", fn := fun _ => fun
  | [d1, d2] => { results := [.lit (.bool true)], args := [d1, d2] }
  | _ => none }
def fnExactLagColumnsRow : OpenClaim := { program := "ytlmfheagekgceaa", sum := "9d3ed67145ad06645ca7f9ed5739b5c938122088d8d3f02bdec486512e848222", func := "loop.example/g01375/laws.FnExactLagColumns", spec := "fnExactLagColumns", inPlace := ["math.Float64bits", "math.Float64frombits"], apart := false }
def FnExactLagColumnsSaid : Prop := fnExactLagColumnsRow.holds Try.pinned (OpenSpec.ofChange fnExactLagColumnsSpec)

/-- ITS FALSE NEIGHBOUR: 'it returns false'. Refute it at one input. -/
def fnExactLagColumnsWrong : ChangeSpec := { name := "fnExactLagColumns", fn := fun _ => fun
  | [d1, d2] => { results := [.lit (.bool false)], args := [d1, d2] }
  | _ => none }
def FnExactLagColumnsWrongFalsely : Prop := fnExactLagColumnsRow.holds Try.pinned (OpenSpec.ofChange fnExactLagColumnsWrong)

/-- 'laws.FnExactColumnFit': WHATEVER THE INPUT: true; the input reads as it did. -/
def fnExactColumnFitSpec : ChangeSpec := { name := "fnExactColumnFit", fn := fun _ => fun
  | [d1, d2] => { results := [.lit (.bool true)], args := [d1, d2] }
  | _ => none }
def fnExactColumnFitRow : OpenClaim := { program := "ytlmfheagekgceaa", sum := "9d3ed67145ad06645ca7f9ed5739b5c938122088d8d3f02bdec486512e848222", func := "loop.example/g01375/laws.FnExactColumnFit", spec := "fnExactColumnFit", inPlace := ["math.Float64bits", "math.Float64frombits"], unfollowed := true, recurses := true, apart := false }
def FnExactColumnFitSaid : Prop := fnExactColumnFitRow.holds Try.pinned (OpenSpec.ofChange fnExactColumnFitSpec)

/-- ITS FALSE NEIGHBOUR: 'it returns false'. Refute it at one input. -/
def fnExactColumnFitWrong : ChangeSpec := { name := "fnExactColumnFit", fn := fun _ => fun
  | [d1, d2] => { results := [.lit (.bool false)], args := [d1, d2] }
  | _ => none }
def FnExactColumnFitWrongFalsely : Prop := fnExactColumnFitRow.holds Try.pinned (OpenSpec.ofChange fnExactColumnFitWrong)

/-- 'laws.FnExactLineFit': WHATEVER THE INPUT: true; the input reads as it did. -/
def fnExactLineFitSpec : ChangeSpec := { name := "fnExactLineFit", fn := fun _ => fun
  | [d] => { results := [.lit (.bool true)], args := [d] }
  | _ => none }
def fnExactLineFitRow : OpenClaim := { program := "ytlmfheagekgceaa", sum := "9d3ed67145ad06645ca7f9ed5739b5c938122088d8d3f02bdec486512e848222", func := "loop.example/g01375/laws.FnExactLineFit", spec := "fnExactLineFit", inPlace := ["math.Float64bits", "math.Float64frombits"], unfollowed := true, recurses := true, apart := false }
def FnExactLineFitSaid : Prop := fnExactLineFitRow.holds Try.pinned (OpenSpec.ofChange fnExactLineFitSpec)

/-- ITS FALSE NEIGHBOUR: 'it returns false'. Refute it at one input. -/
def fnExactLineFitWrong : ChangeSpec := { name := "fnExactLineFit", fn := fun _ => fun
  | [d] => { results := [.lit (.bool false)], args := [d] }
  | _ => none }
def FnExactLineFitWrongFalsely : Prop := fnExactLineFitRow.holds Try.pinned (OpenSpec.ofChange fnExactLineFitWrong)

/-- 'laws.FnExactWeightFit': WHATEVER THE INPUT: true; the input reads as it did. -/
def fnExactWeightFitSpec : ChangeSpec := { name := "fnExactWeightFit", fn := fun _ => fun
  | [d1, d2, d3] => { results := [.lit (.bool true)], args := [d1, d2, d3] }
  | _ => none }
def fnExactWeightFitRow : OpenClaim := { program := "ytlmfheagekgceaa", sum := "9d3ed67145ad06645ca7f9ed5739b5c938122088d8d3f02bdec486512e848222", func := "loop.example/g01375/laws.FnExactWeightFit", spec := "fnExactWeightFit", inPlace := ["math.Float64bits", "math.Float64frombits"], unfollowed := true, recurses := true, apart := false }
def FnExactWeightFitSaid : Prop := fnExactWeightFitRow.holds Try.pinned (OpenSpec.ofChange fnExactWeightFitSpec)

/-- ITS FALSE NEIGHBOUR: 'it returns false'. Refute it at one input. -/
def fnExactWeightFitWrong : ChangeSpec := { name := "fnExactWeightFit", fn := fun _ => fun
  | [d1, d2, d3] => { results := [.lit (.bool false)], args := [d1, d2, d3] }
  | _ => none }
def FnExactWeightFitWrongFalsely : Prop := fnExactWeightFitRow.holds Try.pinned (OpenSpec.ofChange fnExactWeightFitWrong)

/-- 'laws.FnExactMiddleSlope': WHATEVER THE INPUT: true; the input reads as it did. -/
def fnExactMiddleSlopeSpec : ChangeSpec := { name := "fnExactMiddleSlope", fn := fun _ => fun
  | [d] => { results := [.lit (.bool true)], args := [d] }
  | _ => none }
def fnExactMiddleSlopeRow : OpenClaim := { program := "ytlmfheagekgceaa", sum := "9d3ed67145ad06645ca7f9ed5739b5c938122088d8d3f02bdec486512e848222", func := "loop.example/g01375/laws.FnExactMiddleSlope", spec := "fnExactMiddleSlope", inPlace := ["math.Float64bits", "math.Float64frombits"], unfollowed := true, recurses := true, apart := false }
def FnExactMiddleSlopeSaid : Prop := fnExactMiddleSlopeRow.holds Try.pinned (OpenSpec.ofChange fnExactMiddleSlopeSpec)

/-- ITS FALSE NEIGHBOUR: 'it returns false'. Refute it at one input. -/
def fnExactMiddleSlopeWrong : ChangeSpec := { name := "fnExactMiddleSlope", fn := fun _ => fun
  | [d] => { results := [.lit (.bool false)], args := [d] }
  | _ => none }
def FnExactMiddleSlopeWrongFalsely : Prop := fnExactMiddleSlopeRow.holds Try.pinned (OpenSpec.ofChange fnExactMiddleSlopeWrong)

/-- 'laws.FnExactStepWaves': WHATEVER THE INPUT: true; the input reads as it did. -/
def fnExactStepWavesSpec : ChangeSpec := { name := "fnExactStepWaves", fn := fun _ => fun
  | [d] => { results := [.lit (.bool true)], args := [d] }
  | _ => none }
def fnExactStepWavesRow : OpenClaim := { program := "ytlmfheagekgceaa", sum := "9d3ed67145ad06645ca7f9ed5739b5c938122088d8d3f02bdec486512e848222", func := "loop.example/g01375/laws.FnExactStepWaves", spec := "fnExactStepWaves", inPlace := ["math.Float64bits", "math.Float64frombits"], unfollowed := true, recurses := true, apart := false }
def FnExactStepWavesSaid : Prop := fnExactStepWavesRow.holds Try.pinned (OpenSpec.ofChange fnExactStepWavesSpec)

/-- ITS FALSE NEIGHBOUR: 'it returns false'. Refute it at one input. -/
def fnExactStepWavesWrong : ChangeSpec := { name := "fnExactStepWaves", fn := fun _ => fun
  | [d] => { results := [.lit (.bool false)], args := [d] }
  | _ => none }
def FnExactStepWavesWrongFalsely : Prop := fnExactStepWavesRow.holds Try.pinned (OpenSpec.ofChange fnExactStepWavesWrong)

/-- 'laws.FnExactBackOfWaves': WHATEVER THE INPUT: true; the input reads as it did. -/
def fnExactBackOfWavesSpec : ChangeSpec := { name := "fnExactBackOfWaves", fn := fun _ => fun
  | [d1, d2] => { results := [.lit (.bool true)], args := [d1, d2] }
  | _ => none }
def fnExactBackOfWavesRow : OpenClaim := { program := "ytlmfheagekgceaa", sum := "9d3ed67145ad06645ca7f9ed5739b5c938122088d8d3f02bdec486512e848222", func := "loop.example/g01375/laws.FnExactBackOfWaves", spec := "fnExactBackOfWaves", inPlace := ["math.Float64bits", "math.Float64frombits"], unfollowed := true, recurses := true, apart := false }
def FnExactBackOfWavesSaid : Prop := fnExactBackOfWavesRow.holds Try.pinned (OpenSpec.ofChange fnExactBackOfWavesSpec)

/-- ITS FALSE NEIGHBOUR: 'it returns false'. Refute it at one input. -/
def fnExactBackOfWavesWrong : ChangeSpec := { name := "fnExactBackOfWaves", fn := fun _ => fun
  | [d1, d2] => { results := [.lit (.bool false)], args := [d1, d2] }
  | _ => none }
def FnExactBackOfWavesWrongFalsely : Prop := fnExactBackOfWavesRow.holds Try.pinned (OpenSpec.ofChange fnExactBackOfWavesWrong)

/-- 'laws.FnExactFoldedBy': WHATEVER THE INPUT: true; the input reads as it did. -/
def fnExactFoldedBySpec : ChangeSpec := { name := "fnExactFoldedBy", fn := fun _ => fun
  | [d1, d2] => { results := [.lit (.bool true)], args := [d1, d2] }
  | _ => none }
def fnExactFoldedByRow : OpenClaim := { program := "ytlmfheagekgceaa", sum := "9d3ed67145ad06645ca7f9ed5739b5c938122088d8d3f02bdec486512e848222", func := "loop.example/g01375/laws.FnExactFoldedBy", spec := "fnExactFoldedBy", inPlace := ["math.Float64bits", "math.Float64frombits"], unfollowed := true, recurses := true, apart := false }
def FnExactFoldedBySaid : Prop := fnExactFoldedByRow.holds Try.pinned (OpenSpec.ofChange fnExactFoldedBySpec)

/-- ITS FALSE NEIGHBOUR: 'it returns false'. Refute it at one input. -/
def fnExactFoldedByWrong : ChangeSpec := { name := "fnExactFoldedBy", fn := fun _ => fun
  | [d1, d2] => { results := [.lit (.bool false)], args := [d1, d2] }
  | _ => none }
def FnExactFoldedByWrongFalsely : Prop := fnExactFoldedByRow.holds Try.pinned (OpenSpec.ofChange fnExactFoldedByWrong)

/-- 'laws.FnExactPairCount': WHATEVER THE INPUT: true; the input reads as it did. -/
def fnExactPairCountSpec : ChangeSpec := { name := "fnExactPairCount", fn := fun _ => fun
  | [d1, d2] => { results := [.lit (.bool true)], args := [d1, d2] }
  | _ => none }
def fnExactPairCountRow : OpenClaim := { program := "ytlmfheagekgceaa", sum := "9d3ed67145ad06645ca7f9ed5739b5c938122088d8d3f02bdec486512e848222", func := "loop.example/g01375/laws.FnExactPairCount", spec := "fnExactPairCount", inPlace := ["math.Float64bits", "math.Float64frombits"], apart := false }
def FnExactPairCountSaid : Prop := fnExactPairCountRow.holds Try.pinned (OpenSpec.ofChange fnExactPairCountSpec)

/-- ITS FALSE NEIGHBOUR: 'it returns false'. Refute it at one input. -/
def fnExactPairCountWrong : ChangeSpec := { name := "fnExactPairCount", fn := fun _ => fun
  | [d1, d2] => { results := [.lit (.bool false)], args := [d1, d2] }
  | _ => none }
def FnExactPairCountWrongFalsely : Prop := fnExactPairCountRow.holds Try.pinned (OpenSpec.ofChange fnExactPairCountWrong)

/- THE SECOND FORM. 'bulk': how many values and letters a reading holds, each counted each time it is reached (what is shared counts as often as it is met; a slice's spare places count too). A statement '..UptoSaid' is the law's where the arguments, and the package variables that the reading takes, are together of bulk at most 1048576: NARROWER than '..Said'. Prove '..Said' where nothing that the law and all that it calls make is longer than what came in: it says more and counts as full. Else prove '..UptoSaid'. A law counts once. -/
mutual
def uptoBulk {H : Type} : DataW H → Nat
  | .lit (.string bytes) => bytes.length + 1
  | .lit _ => 1
  | .nil => 1
  | .ptr d => uptoBulk d + 1
  | .slice elems spare => uptoBulkAll elems + uptoBulkAll spare + 1
  | .agg parts => uptoBulkAll parts + 1
  | .iface _ d => uptoBulk d + 1
  | .map entries => uptoBulkEntries entries + 1
  | .held _ => 1
def uptoBulkAll {H : Type} : List (DataW H) → Nat
  | [] => 0
  | d :: r => uptoBulk d + uptoBulkAll r
def uptoBulkEntries {H : Type} : List (Lit × DataW H) → Nat
  | [] => 0
  | x :: r => uptoBulkEntry x + uptoBulkEntries r
def uptoBulkEntry {H : Type} : Lit × DataW H → Nat
  | (.string bytes, d) => bytes.length + uptoBulk d + 1
  | (_, d) => uptoBulk d + 1
 end
def uptoSmall : (H : Type) → List (DataW H) → Bool := fun _ ds => decide (uptoBulkAll ds ≤ 1048576)
def OpenSpec.upto (s : _root_.Go.ChangeSpec) : _root_.Go.OpenSpec := { _root_.Go.OpenSpec.ofChange s with cond := some uptoSmall }

/-- 'laws.FnExactSeasonOf', WHERE WHAT IT READS IS OF BULK AT MOST 1048576: true; the input reads as it did. -/
def fnExactSeasonOfUptoRow : OpenClaim := { program := "ytlmfheagekgceaa", sum := "9d3ed67145ad06645ca7f9ed5739b5c938122088d8d3f02bdec486512e848222", func := "loop.example/g01375/laws.FnExactSeasonOf", spec := "fnExactSeasonOf", inPlace := ["math.Float64bits", "math.Float64frombits"], unfollowed := true, recurses := true, apart := false, narrowed := true }
def FnExactSeasonOfUptoSaid : Prop := fnExactSeasonOfUptoRow.holds Try.pinned (OpenSpec.upto fnExactSeasonOfSpec)

/-- 'laws.FnExactFittedOf', WHERE WHAT IT READS IS OF BULK AT MOST 1048576: true; the input reads as it did. -/
def fnExactFittedOfUptoRow : OpenClaim := { program := "ytlmfheagekgceaa", sum := "9d3ed67145ad06645ca7f9ed5739b5c938122088d8d3f02bdec486512e848222", func := "loop.example/g01375/laws.FnExactFittedOf", spec := "fnExactFittedOf", inPlace := ["math.Float64bits", "math.Float64frombits"], unfollowed := true, recurses := true, apart := false, narrowed := true }
def FnExactFittedOfUptoSaid : Prop := fnExactFittedOfUptoRow.holds Try.pinned (OpenSpec.upto fnExactFittedOfSpec)

/-- 'laws.FnExactRestOfFit', WHERE WHAT IT READS IS OF BULK AT MOST 1048576: true; the input reads as it did. -/
def fnExactRestOfFitUptoRow : OpenClaim := { program := "ytlmfheagekgceaa", sum := "9d3ed67145ad06645ca7f9ed5739b5c938122088d8d3f02bdec486512e848222", func := "loop.example/g01375/laws.FnExactRestOfFit", spec := "fnExactRestOfFit", inPlace := ["math.Float64bits", "math.Float64frombits"], unfollowed := true, recurses := true, apart := false, narrowed := true }
def FnExactRestOfFitUptoSaid : Prop := fnExactRestOfFitUptoRow.holds Try.pinned (OpenSpec.upto fnExactRestOfFitSpec)

/-- 'laws.FnExactLagColumns', WHERE WHAT IT READS IS OF BULK AT MOST 1048576: true; the input reads as it did. -/
def fnExactLagColumnsUptoRow : OpenClaim := { program := "ytlmfheagekgceaa", sum := "9d3ed67145ad06645ca7f9ed5739b5c938122088d8d3f02bdec486512e848222", func := "loop.example/g01375/laws.FnExactLagColumns", spec := "fnExactLagColumns", inPlace := ["math.Float64bits", "math.Float64frombits"], apart := false, narrowed := true }
def FnExactLagColumnsUptoSaid : Prop := fnExactLagColumnsUptoRow.holds Try.pinned (OpenSpec.upto fnExactLagColumnsSpec)

/-- 'laws.FnExactColumnFit', WHERE WHAT IT READS IS OF BULK AT MOST 1048576: true; the input reads as it did. -/
def fnExactColumnFitUptoRow : OpenClaim := { program := "ytlmfheagekgceaa", sum := "9d3ed67145ad06645ca7f9ed5739b5c938122088d8d3f02bdec486512e848222", func := "loop.example/g01375/laws.FnExactColumnFit", spec := "fnExactColumnFit", inPlace := ["math.Float64bits", "math.Float64frombits"], unfollowed := true, recurses := true, apart := false, narrowed := true }
def FnExactColumnFitUptoSaid : Prop := fnExactColumnFitUptoRow.holds Try.pinned (OpenSpec.upto fnExactColumnFitSpec)

/-- 'laws.FnExactLineFit', WHERE WHAT IT READS IS OF BULK AT MOST 1048576: true; the input reads as it did. -/
def fnExactLineFitUptoRow : OpenClaim := { program := "ytlmfheagekgceaa", sum := "9d3ed67145ad06645ca7f9ed5739b5c938122088d8d3f02bdec486512e848222", func := "loop.example/g01375/laws.FnExactLineFit", spec := "fnExactLineFit", inPlace := ["math.Float64bits", "math.Float64frombits"], unfollowed := true, recurses := true, apart := false, narrowed := true }
def FnExactLineFitUptoSaid : Prop := fnExactLineFitUptoRow.holds Try.pinned (OpenSpec.upto fnExactLineFitSpec)

/-- 'laws.FnExactWeightFit', WHERE WHAT IT READS IS OF BULK AT MOST 1048576: true; the input reads as it did. -/
def fnExactWeightFitUptoRow : OpenClaim := { program := "ytlmfheagekgceaa", sum := "9d3ed67145ad06645ca7f9ed5739b5c938122088d8d3f02bdec486512e848222", func := "loop.example/g01375/laws.FnExactWeightFit", spec := "fnExactWeightFit", inPlace := ["math.Float64bits", "math.Float64frombits"], unfollowed := true, recurses := true, apart := false, narrowed := true }
def FnExactWeightFitUptoSaid : Prop := fnExactWeightFitUptoRow.holds Try.pinned (OpenSpec.upto fnExactWeightFitSpec)

/-- 'laws.FnExactMiddleSlope', WHERE WHAT IT READS IS OF BULK AT MOST 1048576: true; the input reads as it did. -/
def fnExactMiddleSlopeUptoRow : OpenClaim := { program := "ytlmfheagekgceaa", sum := "9d3ed67145ad06645ca7f9ed5739b5c938122088d8d3f02bdec486512e848222", func := "loop.example/g01375/laws.FnExactMiddleSlope", spec := "fnExactMiddleSlope", inPlace := ["math.Float64bits", "math.Float64frombits"], unfollowed := true, recurses := true, apart := false, narrowed := true }
def FnExactMiddleSlopeUptoSaid : Prop := fnExactMiddleSlopeUptoRow.holds Try.pinned (OpenSpec.upto fnExactMiddleSlopeSpec)

/-- 'laws.FnExactStepWaves', WHERE WHAT IT READS IS OF BULK AT MOST 1048576: true; the input reads as it did. -/
def fnExactStepWavesUptoRow : OpenClaim := { program := "ytlmfheagekgceaa", sum := "9d3ed67145ad06645ca7f9ed5739b5c938122088d8d3f02bdec486512e848222", func := "loop.example/g01375/laws.FnExactStepWaves", spec := "fnExactStepWaves", inPlace := ["math.Float64bits", "math.Float64frombits"], unfollowed := true, recurses := true, apart := false, narrowed := true }
def FnExactStepWavesUptoSaid : Prop := fnExactStepWavesUptoRow.holds Try.pinned (OpenSpec.upto fnExactStepWavesSpec)

/-- 'laws.FnExactBackOfWaves', WHERE WHAT IT READS IS OF BULK AT MOST 1048576: true; the input reads as it did. -/
def fnExactBackOfWavesUptoRow : OpenClaim := { program := "ytlmfheagekgceaa", sum := "9d3ed67145ad06645ca7f9ed5739b5c938122088d8d3f02bdec486512e848222", func := "loop.example/g01375/laws.FnExactBackOfWaves", spec := "fnExactBackOfWaves", inPlace := ["math.Float64bits", "math.Float64frombits"], unfollowed := true, recurses := true, apart := false, narrowed := true }
def FnExactBackOfWavesUptoSaid : Prop := fnExactBackOfWavesUptoRow.holds Try.pinned (OpenSpec.upto fnExactBackOfWavesSpec)

/-- 'laws.FnExactFoldedBy', WHERE WHAT IT READS IS OF BULK AT MOST 1048576: true; the input reads as it did. -/
def fnExactFoldedByUptoRow : OpenClaim := { program := "ytlmfheagekgceaa", sum := "9d3ed67145ad06645ca7f9ed5739b5c938122088d8d3f02bdec486512e848222", func := "loop.example/g01375/laws.FnExactFoldedBy", spec := "fnExactFoldedBy", inPlace := ["math.Float64bits", "math.Float64frombits"], unfollowed := true, recurses := true, apart := false, narrowed := true }
def FnExactFoldedByUptoSaid : Prop := fnExactFoldedByUptoRow.holds Try.pinned (OpenSpec.upto fnExactFoldedBySpec)

/-- 'laws.FnExactPairCount', WHERE WHAT IT READS IS OF BULK AT MOST 1048576: true; the input reads as it did. -/
def fnExactPairCountUptoRow : OpenClaim := { program := "ytlmfheagekgceaa", sum := "9d3ed67145ad06645ca7f9ed5739b5c938122088d8d3f02bdec486512e848222", func := "loop.example/g01375/laws.FnExactPairCount", spec := "fnExactPairCount", inPlace := ["math.Float64bits", "math.Float64frombits"], apart := false, narrowed := true }
def FnExactPairCountUptoSaid : Prop := fnExactPairCountUptoRow.holds Try.pinned (OpenSpec.upto fnExactPairCountSpec)

end Rows
end Go.Proofs.Ytlmfheagekgceaa
