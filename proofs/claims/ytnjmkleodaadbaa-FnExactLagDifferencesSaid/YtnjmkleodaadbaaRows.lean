/-
  No cell of these rows narrows 'for every input' (looked for: loops, veiled, ifaces, maps, wideKeys, modest, calm, conditions, laid).
  DERIVED. THE GIVEN ROWS OF THIS SEAT. 12 by the template 'for every input the law returns true; each argument reads behind the call as it read before'; 0 by the template 'total and deterministic' (their statements: YtnjmkleodaadbaaTotals.lean).
  GIVEN WITH THE SEED: the statements are not yours to turn. If you find one false, say at which input.
  Laid BY PROGRAM, IN A SANDBOX (cutbox-rows.mjs): the forced cells as the released guide's own fill.sh prints them over the translation d16ab78dab40a418… (all of the seat's roots in one cut). By AI agents, Wed Nov 11 2026. No macro, syntax, notation, axiom, sorry.
-/
import Derived.Test.YtnjmkleodaadbaaChecked
import GoSem.Claim
import GoSem.ClaimJoined
import GoSem.ClaimMapViews
import Derived.JoinedTies
import Derived.KernelRfl
namespace Go.Proofs.Ytnjmkleodaadbaa
/- THE CELL 'sum', in the pinned program and in every row, IS THE sha256 OF THE DUMP (.gsa) THAT YtnjmkleodaadbaaProg.lean LOADS. Nothing in Lean hashes anything: it is a label: what it is worth is what the hold of that sum in a sandbox is worth. -/
noncomputable def Try.pinned : Pinned := { name := "ytnjmkleodaadbaa", sum := "d16ab78dab40a41811df1b73d811c27f51e505f1e930f0b19e88557d5ca33013", checked := Try.checked }
namespace Rows
def none {H : Type} : Left H := { results := [], args := [] }

/-- 'laws.FnExactIsSeries': WHATEVER THE INPUT: true; the input reads as it did. -/
def fnExactIsSeriesSpec : ChangeSpec := { name := "fnExactIsSeries", fn := fun _ => fun
  | [d] => { results := [.lit (.bool true)], args := [d] }
  | _ => none }
def fnExactIsSeriesRow : OpenClaim := { program := "ytnjmkleodaadbaa", sum := "d16ab78dab40a41811df1b73d811c27f51e505f1e930f0b19e88557d5ca33013", func := "loop.example/g01375/laws.FnExactIsSeries", spec := "fnExactIsSeries", inPlace := ["math.Float64bits", "math.Float64frombits"], apart := false }
def FnExactIsSeriesSaid : Prop := fnExactIsSeriesRow.holds Try.pinned (OpenSpec.ofChange fnExactIsSeriesSpec)

/-- ITS FALSE NEIGHBOUR: 'it returns false'. Refute it at one input. -/
def fnExactIsSeriesWrong : ChangeSpec := { name := "fnExactIsSeries", fn := fun _ => fun
  | [d] => { results := [.lit (.bool false)], args := [d] }
  | _ => none }
def FnExactIsSeriesWrongFalsely : Prop := fnExactIsSeriesRow.holds Try.pinned (OpenSpec.ofChange fnExactIsSeriesWrong)

/-- 'laws.FnExactMeanOf': WHATEVER THE INPUT: true; the input reads as it did. -/
def fnExactMeanOfSpec : ChangeSpec := { name := "fnExactMeanOf", fn := fun _ => fun
  | [d] => { results := [.lit (.bool true)], args := [d] }
  | _ => none }
def fnExactMeanOfRow : OpenClaim := { program := "ytnjmkleodaadbaa", sum := "d16ab78dab40a41811df1b73d811c27f51e505f1e930f0b19e88557d5ca33013", func := "loop.example/g01375/laws.FnExactMeanOf", spec := "fnExactMeanOf", inPlace := ["math.Float64bits", "math.Float64frombits"], apart := false }
def FnExactMeanOfSaid : Prop := fnExactMeanOfRow.holds Try.pinned (OpenSpec.ofChange fnExactMeanOfSpec)

/-- ITS FALSE NEIGHBOUR: 'it returns false'. Refute it at one input. -/
def fnExactMeanOfWrong : ChangeSpec := { name := "fnExactMeanOf", fn := fun _ => fun
  | [d] => { results := [.lit (.bool false)], args := [d] }
  | _ => none }
def FnExactMeanOfWrongFalsely : Prop := fnExactMeanOfRow.holds Try.pinned (OpenSpec.ofChange fnExactMeanOfWrong)

/-- 'laws.FnExactSpreadOf': WHATEVER THE INPUT: true; the input reads as it did. -/
def fnExactSpreadOfSpec : ChangeSpec := { name := "fnExactSpreadOf", fn := fun _ => fun
  | [d] => { results := [.lit (.bool true)], args := [d] }
  | _ => none }
def fnExactSpreadOfRow : OpenClaim := { program := "ytnjmkleodaadbaa", sum := "d16ab78dab40a41811df1b73d811c27f51e505f1e930f0b19e88557d5ca33013", func := "loop.example/g01375/laws.FnExactSpreadOf", spec := "fnExactSpreadOf", inPlace := ["math.sqrt", "math.Float64bits", "math.Float64frombits"], apart := false }
def FnExactSpreadOfSaid : Prop := fnExactSpreadOfRow.holds Try.pinned (OpenSpec.ofChange fnExactSpreadOfSpec)

/-- ITS FALSE NEIGHBOUR: 'it returns false'. Refute it at one input. -/
def fnExactSpreadOfWrong : ChangeSpec := { name := "fnExactSpreadOf", fn := fun _ => fun
  | [d] => { results := [.lit (.bool false)], args := [d] }
  | _ => none }
def FnExactSpreadOfWrongFalsely : Prop := fnExactSpreadOfRow.holds Try.pinned (OpenSpec.ofChange fnExactSpreadOfWrong)

/-- 'laws.FnExactRunningSums': WHATEVER THE INPUT: true; the input reads as it did. -/
def fnExactRunningSumsSpec : ChangeSpec := { name := "fnExactRunningSums", fn := fun _ => fun
  | [d] => { results := [.lit (.bool true)], args := [d] }
  | _ => none }
def fnExactRunningSumsRow : OpenClaim := { program := "ytnjmkleodaadbaa", sum := "d16ab78dab40a41811df1b73d811c27f51e505f1e930f0b19e88557d5ca33013", func := "loop.example/g01375/laws.FnExactRunningSums", spec := "fnExactRunningSums", inPlace := ["math.Float64bits", "math.Float64frombits"], unfollowed := true, recurses := true, apart := false }
def FnExactRunningSumsSaid : Prop := fnExactRunningSumsRow.holds Try.pinned (OpenSpec.ofChange fnExactRunningSumsSpec)

/-- ITS FALSE NEIGHBOUR: 'it returns false'. Refute it at one input. -/
def fnExactRunningSumsWrong : ChangeSpec := { name := "fnExactRunningSums", fn := fun _ => fun
  | [d] => { results := [.lit (.bool false)], args := [d] }
  | _ => none }
def FnExactRunningSumsWrongFalsely : Prop := fnExactRunningSumsRow.holds Try.pinned (OpenSpec.ofChange fnExactRunningSumsWrong)

/-- 'laws.FnExactJoinSteps': WHATEVER THE INPUT: true; the input reads as it did. -/
def fnExactJoinStepsSpec : ChangeSpec := { name := "fnExactJoinSteps", fn := fun _ => fun
  | [d1, d2] => { results := [.lit (.bool true)], args := [d1, d2] }
  | _ => none }
def fnExactJoinStepsRow : OpenClaim := { program := "ytnjmkleodaadbaa", sum := "d16ab78dab40a41811df1b73d811c27f51e505f1e930f0b19e88557d5ca33013", func := "loop.example/g01375/laws.FnExactJoinSteps", spec := "fnExactJoinSteps", inPlace := ["math.Float64bits", "math.Float64frombits"], unfollowed := true, recurses := true, apart := false }
def FnExactJoinStepsSaid : Prop := fnExactJoinStepsRow.holds Try.pinned (OpenSpec.ofChange fnExactJoinStepsSpec)

/-- ITS FALSE NEIGHBOUR: 'it returns false'. Refute it at one input. -/
def fnExactJoinStepsWrong : ChangeSpec := { name := "fnExactJoinSteps", fn := fun _ => fun
  | [d1, d2] => { results := [.lit (.bool false)], args := [d1, d2] }
  | _ => none }
def FnExactJoinStepsWrongFalsely : Prop := fnExactJoinStepsRow.holds Try.pinned (OpenSpec.ofChange fnExactJoinStepsWrong)

/-- 'laws.FnExactThinSteps': WHATEVER THE INPUT: true; the input reads as it did. -/
def fnExactThinStepsSpec : ChangeSpec := { name := "fnExactThinSteps", fn := fun _ => fun
  | [d1, d2] => { results := [.lit (.bool true)], args := [d1, d2] }
  | _ => none }
def fnExactThinStepsRow : OpenClaim := { program := "ytnjmkleodaadbaa", sum := "d16ab78dab40a41811df1b73d811c27f51e505f1e930f0b19e88557d5ca33013", func := "loop.example/g01375/laws.FnExactThinSteps", spec := "fnExactThinSteps", inPlace := ["math.Float64bits", "math.Float64frombits"], apart := false }
def FnExactThinStepsSaid : Prop := fnExactThinStepsRow.holds Try.pinned (OpenSpec.ofChange fnExactThinStepsSpec)

/-- ITS FALSE NEIGHBOUR: 'it returns false'. Refute it at one input. -/
def fnExactThinStepsWrong : ChangeSpec := { name := "fnExactThinSteps", fn := fun _ => fun
  | [d1, d2] => { results := [.lit (.bool false)], args := [d1, d2] }
  | _ => none }
def FnExactThinStepsWrongFalsely : Prop := fnExactThinStepsRow.holds Try.pinned (OpenSpec.ofChange fnExactThinStepsWrong)

/-- 'laws.FnExactLagDifferences': WHATEVER THE INPUT: true; the input reads as it did. -/
def fnExactLagDifferencesSpec : ChangeSpec := { name := "fnExactLagDifferences", fn := fun _ => fun
  | [d1, d2] => { results := [.lit (.bool true)], args := [d1, d2] }
  | _ => none }
def fnExactLagDifferencesRow : OpenClaim := { program := "ytnjmkleodaadbaa", sum := "d16ab78dab40a41811df1b73d811c27f51e505f1e930f0b19e88557d5ca33013", func := "loop.example/g01375/laws.FnExactLagDifferences", spec := "fnExactLagDifferences", inPlace := ["math.Float64bits", "math.Float64frombits"], unfollowed := true, recurses := true, apart := false }
def FnExactLagDifferencesSaid : Prop := fnExactLagDifferencesRow.holds Try.pinned (OpenSpec.ofChange fnExactLagDifferencesSpec)

/-- ITS FALSE NEIGHBOUR: 'it returns false'. Refute it at one input. -/
def fnExactLagDifferencesWrong : ChangeSpec := { name := "fnExactLagDifferences", fn := fun _ => fun
  | [d1, d2] => { results := [.lit (.bool false)], args := [d1, d2] }
  | _ => none }
def FnExactLagDifferencesWrongFalsely : Prop := fnExactLagDifferencesRow.holds Try.pinned (OpenSpec.ofChange fnExactLagDifferencesWrong)

/-- 'laws.FnExactMovingMean': WHATEVER THE INPUT: true; the input reads as it did. -/
def fnExactMovingMeanSpec : ChangeSpec := { name := "fnExactMovingMean", fn := fun _ => fun
  | [d1, d2] => { results := [.lit (.bool true)], args := [d1, d2] }
  | _ => none }
def fnExactMovingMeanRow : OpenClaim := { program := "ytnjmkleodaadbaa", sum := "d16ab78dab40a41811df1b73d811c27f51e505f1e930f0b19e88557d5ca33013", func := "loop.example/g01375/laws.FnExactMovingMean", spec := "fnExactMovingMean", inPlace := ["math.Float64bits", "math.Float64frombits"], unfollowed := true, recurses := true, apart := false }
def FnExactMovingMeanSaid : Prop := fnExactMovingMeanRow.holds Try.pinned (OpenSpec.ofChange fnExactMovingMeanSpec)

/-- ITS FALSE NEIGHBOUR: 'it returns false'. Refute it at one input. -/
def fnExactMovingMeanWrong : ChangeSpec := { name := "fnExactMovingMean", fn := fun _ => fun
  | [d1, d2] => { results := [.lit (.bool false)], args := [d1, d2] }
  | _ => none }
def FnExactMovingMeanWrongFalsely : Prop := fnExactMovingMeanRow.holds Try.pinned (OpenSpec.ofChange fnExactMovingMeanWrong)

/-- 'laws.FnExactRanksOf': WHATEVER THE INPUT: true; the input reads as it did. -/
def fnExactRanksOfSpec : ChangeSpec := { name := "fnExactRanksOf", fn := fun _ => fun
  | [d] => { results := [.lit (.bool true)], args := [d] }
  | _ => none }
def fnExactRanksOfRow : OpenClaim := { program := "ytnjmkleodaadbaa", sum := "d16ab78dab40a41811df1b73d811c27f51e505f1e930f0b19e88557d5ca33013", func := "loop.example/g01375/laws.FnExactRanksOf", spec := "fnExactRanksOf", inPlace := ["math.Float64bits", "math.Float64frombits"], unfollowed := true, recurses := true, apart := false }
def FnExactRanksOfSaid : Prop := fnExactRanksOfRow.holds Try.pinned (OpenSpec.ofChange fnExactRanksOfSpec)

/-- ITS FALSE NEIGHBOUR: 'it returns false'. Refute it at one input. -/
def fnExactRanksOfWrong : ChangeSpec := { name := "fnExactRanksOf", fn := fun _ => fun
  | [d] => { results := [.lit (.bool false)], args := [d] }
  | _ => none }
def FnExactRanksOfWrongFalsely : Prop := fnExactRanksOfRow.holds Try.pinned (OpenSpec.ofChange fnExactRanksOfWrong)

/-- 'laws.FnExactEvenSeries': WHATEVER THE INPUT: true; the input reads as it did. -/
def fnExactEvenSeriesSpec : ChangeSpec := { name := "fnExactEvenSeries", fn := fun _ => fun
  | [d] => { results := [.lit (.bool true)], args := [d] }
  | _ => none }
def fnExactEvenSeriesRow : OpenClaim := { program := "ytnjmkleodaadbaa", sum := "d16ab78dab40a41811df1b73d811c27f51e505f1e930f0b19e88557d5ca33013", func := "loop.example/g01375/laws.FnExactEvenSeries", spec := "fnExactEvenSeries", inPlace := ["math.sqrt", "math.Float64bits", "math.Float64frombits"], unfollowed := true, recurses := true, apart := false }
def FnExactEvenSeriesSaid : Prop := fnExactEvenSeriesRow.holds Try.pinned (OpenSpec.ofChange fnExactEvenSeriesSpec)

/-- ITS FALSE NEIGHBOUR: 'it returns false'. Refute it at one input. -/
def fnExactEvenSeriesWrong : ChangeSpec := { name := "fnExactEvenSeries", fn := fun _ => fun
  | [d] => { results := [.lit (.bool false)], args := [d] }
  | _ => none }
def FnExactEvenSeriesWrongFalsely : Prop := fnExactEvenSeriesRow.holds Try.pinned (OpenSpec.ofChange fnExactEvenSeriesWrong)

/-- 'laws.FnExactUndoDifferences': WHATEVER THE INPUT: true; the input reads as it did. -/
def fnExactUndoDifferencesSpec : ChangeSpec := { name := "fnExactUndoDifferences", fn := fun _ => fun
  | [d1, d2] => { results := [.lit (.bool true)], args := [d1, d2] }
  | _ => none }
def fnExactUndoDifferencesRow : OpenClaim := { program := "ytnjmkleodaadbaa", sum := "d16ab78dab40a41811df1b73d811c27f51e505f1e930f0b19e88557d5ca33013", func := "loop.example/g01375/laws.FnExactUndoDifferences", spec := "fnExactUndoDifferences", inPlace := ["math.Float64bits", "math.Float64frombits"], apart := false }
def FnExactUndoDifferencesSaid : Prop := fnExactUndoDifferencesRow.holds Try.pinned (OpenSpec.ofChange fnExactUndoDifferencesSpec)

/-- ITS FALSE NEIGHBOUR: 'it returns false'. Refute it at one input. -/
def fnExactUndoDifferencesWrong : ChangeSpec := { name := "fnExactUndoDifferences", fn := fun _ => fun
  | [d1, d2] => { results := [.lit (.bool false)], args := [d1, d2] }
  | _ => none }
def FnExactUndoDifferencesWrongFalsely : Prop := fnExactUndoDifferencesRow.holds Try.pinned (OpenSpec.ofChange fnExactUndoDifferencesWrong)

/-- 'laws.FnExactSeasonOf': WHATEVER THE INPUT: true; the input reads as it did. -/
def fnExactSeasonOfSpec : ChangeSpec := { name := "fnExactSeasonOf", fn := fun _ => fun
  | [d1, d2] => { results := [.lit (.bool true)], args := [d1, d2] }
  | _ => none }
def fnExactSeasonOfRow : OpenClaim := { program := "ytnjmkleodaadbaa", sum := "d16ab78dab40a41811df1b73d811c27f51e505f1e930f0b19e88557d5ca33013", func := "loop.example/g01375/laws.FnExactSeasonOf", spec := "fnExactSeasonOf", inPlace := ["math.Float64bits", "math.Float64frombits"], unfollowed := true, recurses := true, apart := false }
def FnExactSeasonOfSaid : Prop := fnExactSeasonOfRow.holds Try.pinned (OpenSpec.ofChange fnExactSeasonOfSpec)

/-- ITS FALSE NEIGHBOUR: 'it returns false'. Refute it at one input. -/
def fnExactSeasonOfWrong : ChangeSpec := { name := "fnExactSeasonOf", fn := fun _ => fun
  | [d1, d2] => { results := [.lit (.bool false)], args := [d1, d2] }
  | _ => none }
def FnExactSeasonOfWrongFalsely : Prop := fnExactSeasonOfRow.holds Try.pinned (OpenSpec.ofChange fnExactSeasonOfWrong)

/- THE SECOND FORM. 'bulk': how many values and letters a reading holds, each counted each time it is reached (what is shared counts as often as it is met; a slice's spare places count too). A statement '..UptoSaid' is the law's where the arguments, and the package variables that the reading takes, are together of bulk at most 1048576: NARROWER than '..Said'. Prove '..Said' where nothing that the law and all that it calls make is longer than what came in: it says more and counts as full. Else prove '..UptoSaid'. A law counts once. -/
mutual
def uptoBulk {H : Type} : DataW H → Nat
  | .lit (.string bytes) => bytes.length + 1
  | .lit _ => 1
  | .nil => 1
  | .ptr d => uptoBulk d + 1
  | .slice elems spare => uptoBulkAll elems + uptoBulkAll spare + 1
  | .agg parts => uptoBulkAll parts + 1
  | .iface _ d => uptoBulk d + 1
  | .map entries => uptoBulkEntries entries + 1
  | .held _ => 1
def uptoBulkAll {H : Type} : List (DataW H) → Nat
  | [] => 0
  | d :: r => uptoBulk d + uptoBulkAll r
def uptoBulkEntries {H : Type} : List (Lit × DataW H) → Nat
  | [] => 0
  | x :: r => uptoBulkEntry x + uptoBulkEntries r
def uptoBulkEntry {H : Type} : Lit × DataW H → Nat
  | (.string bytes, d) => bytes.length + uptoBulk d + 1
  | (_, d) => uptoBulk d + 1
 end
def uptoSmall : (H : Type) → List (DataW H) → Bool := fun _ ds => decide (uptoBulkAll ds ≤ 1048576)
def OpenSpec.upto (s : _root_.Go.ChangeSpec) : _root_.Go.OpenSpec := { _root_.Go.OpenSpec.ofChange s with cond := some uptoSmall }

/-- 'laws.FnExactIsSeries', WHERE WHAT IT READS IS OF BULK AT MOST 1048576: true; the input reads as it did. -/
def fnExactIsSeriesUptoRow : OpenClaim := { program := "ytnjmkleodaadbaa", sum := "d16ab78dab40a41811df1b73d811c27f51e505f1e930f0b19e88557d5ca33013", func := "loop.example/g01375/laws.FnExactIsSeries", spec := "fnExactIsSeries", inPlace := ["math.Float64bits", "math.Float64frombits"], apart := false, narrowed := true }
def FnExactIsSeriesUptoSaid : Prop := fnExactIsSeriesUptoRow.holds Try.pinned (OpenSpec.upto fnExactIsSeriesSpec)

/-- 'laws.FnExactMeanOf', WHERE WHAT IT READS IS OF BULK AT MOST 1048576: true; the input reads as it did. -/
def fnExactMeanOfUptoRow : OpenClaim := { program := "ytnjmkleodaadbaa", sum := "d16ab78dab40a41811df1b73d811c27f51e505f1e930f0b19e88557d5ca33013", func := "loop.example/g01375/laws.FnExactMeanOf", spec := "fnExactMeanOf", inPlace := ["math.Float64bits", "math.Float64frombits"], apart := false, narrowed := true }
def FnExactMeanOfUptoSaid : Prop := fnExactMeanOfUptoRow.holds Try.pinned (OpenSpec.upto fnExactMeanOfSpec)

/-- 'laws.FnExactSpreadOf', WHERE WHAT IT READS IS OF BULK AT MOST 1048576: true; the input reads as it did. -/
def fnExactSpreadOfUptoRow : OpenClaim := { program := "ytnjmkleodaadbaa", sum := "d16ab78dab40a41811df1b73d811c27f51e505f1e930f0b19e88557d5ca33013", func := "loop.example/g01375/laws.FnExactSpreadOf", spec := "fnExactSpreadOf", inPlace := ["math.sqrt", "math.Float64bits", "math.Float64frombits"], apart := false, narrowed := true }
def FnExactSpreadOfUptoSaid : Prop := fnExactSpreadOfUptoRow.holds Try.pinned (OpenSpec.upto fnExactSpreadOfSpec)

/-- 'laws.FnExactRunningSums', WHERE WHAT IT READS IS OF BULK AT MOST 1048576: true; the input reads as it did. -/
def fnExactRunningSumsUptoRow : OpenClaim := { program := "ytnjmkleodaadbaa", sum := "d16ab78dab40a41811df1b73d811c27f51e505f1e930f0b19e88557d5ca33013", func := "loop.example/g01375/laws.FnExactRunningSums", spec := "fnExactRunningSums", inPlace := ["math.Float64bits", "math.Float64frombits"], unfollowed := true, recurses := true, apart := false, narrowed := true }
def FnExactRunningSumsUptoSaid : Prop := fnExactRunningSumsUptoRow.holds Try.pinned (OpenSpec.upto fnExactRunningSumsSpec)

/-- 'laws.FnExactJoinSteps', WHERE WHAT IT READS IS OF BULK AT MOST 1048576: true; the input reads as it did. -/
def fnExactJoinStepsUptoRow : OpenClaim := { program := "ytnjmkleodaadbaa", sum := "d16ab78dab40a41811df1b73d811c27f51e505f1e930f0b19e88557d5ca33013", func := "loop.example/g01375/laws.FnExactJoinSteps", spec := "fnExactJoinSteps", inPlace := ["math.Float64bits", "math.Float64frombits"], unfollowed := true, recurses := true, apart := false, narrowed := true }
def FnExactJoinStepsUptoSaid : Prop := fnExactJoinStepsUptoRow.holds Try.pinned (OpenSpec.upto fnExactJoinStepsSpec)

/-- 'laws.FnExactThinSteps', WHERE WHAT IT READS IS OF BULK AT MOST 1048576: true; the input reads as it did. -/
def fnExactThinStepsUptoRow : OpenClaim := { program := "ytnjmkleodaadbaa", sum := "d16ab78dab40a41811df1b73d811c27f51e505f1e930f0b19e88557d5ca33013", func := "loop.example/g01375/laws.FnExactThinSteps", spec := "fnExactThinSteps", inPlace := ["math.Float64bits", "math.Float64frombits"], apart := false, narrowed := true }
def FnExactThinStepsUptoSaid : Prop := fnExactThinStepsUptoRow.holds Try.pinned (OpenSpec.upto fnExactThinStepsSpec)

/-- 'laws.FnExactLagDifferences', WHERE WHAT IT READS IS OF BULK AT MOST 1048576: true; the input reads as it did. -/
def fnExactLagDifferencesUptoRow : OpenClaim := { program := "ytnjmkleodaadbaa", sum := "d16ab78dab40a41811df1b73d811c27f51e505f1e930f0b19e88557d5ca33013", func := "loop.example/g01375/laws.FnExactLagDifferences", spec := "fnExactLagDifferences", inPlace := ["math.Float64bits", "math.Float64frombits"], unfollowed := true, recurses := true, apart := false, narrowed := true }
def FnExactLagDifferencesUptoSaid : Prop := fnExactLagDifferencesUptoRow.holds Try.pinned (OpenSpec.upto fnExactLagDifferencesSpec)

/-- 'laws.FnExactMovingMean', WHERE WHAT IT READS IS OF BULK AT MOST 1048576: true; the input reads as it did. -/
def fnExactMovingMeanUptoRow : OpenClaim := { program := "ytnjmkleodaadbaa", sum := "d16ab78dab40a41811df1b73d811c27f51e505f1e930f0b19e88557d5ca33013", func := "loop.example/g01375/laws.FnExactMovingMean", spec := "fnExactMovingMean", inPlace := ["math.Float64bits", "math.Float64frombits"], unfollowed := true, recurses := true, apart := false, narrowed := true }
def FnExactMovingMeanUptoSaid : Prop := fnExactMovingMeanUptoRow.holds Try.pinned (OpenSpec.upto fnExactMovingMeanSpec)

/-- 'laws.FnExactRanksOf', WHERE WHAT IT READS IS OF BULK AT MOST 1048576: true; the input reads as it did. -/
def fnExactRanksOfUptoRow : OpenClaim := { program := "ytnjmkleodaadbaa", sum := "d16ab78dab40a41811df1b73d811c27f51e505f1e930f0b19e88557d5ca33013", func := "loop.example/g01375/laws.FnExactRanksOf", spec := "fnExactRanksOf", inPlace := ["math.Float64bits", "math.Float64frombits"], unfollowed := true, recurses := true, apart := false, narrowed := true }
def FnExactRanksOfUptoSaid : Prop := fnExactRanksOfUptoRow.holds Try.pinned (OpenSpec.upto fnExactRanksOfSpec)

/-- 'laws.FnExactEvenSeries', WHERE WHAT IT READS IS OF BULK AT MOST 1048576: true; the input reads as it did. -/
def fnExactEvenSeriesUptoRow : OpenClaim := { program := "ytnjmkleodaadbaa", sum := "d16ab78dab40a41811df1b73d811c27f51e505f1e930f0b19e88557d5ca33013", func := "loop.example/g01375/laws.FnExactEvenSeries", spec := "fnExactEvenSeries", inPlace := ["math.sqrt", "math.Float64bits", "math.Float64frombits"], unfollowed := true, recurses := true, apart := false, narrowed := true }
def FnExactEvenSeriesUptoSaid : Prop := fnExactEvenSeriesUptoRow.holds Try.pinned (OpenSpec.upto fnExactEvenSeriesSpec)

/-- 'laws.FnExactUndoDifferences', WHERE WHAT IT READS IS OF BULK AT MOST 1048576: true; the input reads as it did. -/
def fnExactUndoDifferencesUptoRow : OpenClaim := { program := "ytnjmkleodaadbaa", sum := "d16ab78dab40a41811df1b73d811c27f51e505f1e930f0b19e88557d5ca33013", func := "loop.example/g01375/laws.FnExactUndoDifferences", spec := "fnExactUndoDifferences", inPlace := ["math.Float64bits", "math.Float64frombits"], apart := false, narrowed := true }
def FnExactUndoDifferencesUptoSaid : Prop := fnExactUndoDifferencesUptoRow.holds Try.pinned (OpenSpec.upto fnExactUndoDifferencesSpec)

/-- 'laws.FnExactSeasonOf', WHERE WHAT IT READS IS OF BULK AT MOST 1048576: true; the input reads as it did. -/
def fnExactSeasonOfUptoRow : OpenClaim := { program := "ytnjmkleodaadbaa", sum := "d16ab78dab40a41811df1b73d811c27f51e505f1e930f0b19e88557d5ca33013", func := "loop.example/g01375/laws.FnExactSeasonOf", spec := "fnExactSeasonOf", inPlace := ["math.Float64bits", "math.Float64frombits"], unfollowed := true, recurses := true, apart := false, narrowed := true }
def FnExactSeasonOfUptoSaid : Prop := fnExactSeasonOfUptoRow.holds Try.pinned (OpenSpec.upto fnExactSeasonOfSpec)

end Rows
end Go.Proofs.Ytnjmkleodaadbaa
