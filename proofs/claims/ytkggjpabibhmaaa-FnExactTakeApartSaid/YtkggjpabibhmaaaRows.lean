/-
  No cell of these rows narrows 'for every input' (looked for: loops, veiled, ifaces, maps, wideKeys, modest, calm, conditions, laid).
  DERIVED. THE GIVEN ROWS OF THIS SEAT. 12 by the template 'for every input the law returns true; each argument reads behind the call as it read before'; 0 by the template 'total and deterministic' (their statements: YtkggjpabibhmaaaTotals.lean).
  GIVEN WITH THE SEED: the statements are not yours to turn. If you find one false, say at which input.
  Laid BY PROGRAM, IN A SANDBOX (cutbox-rows.mjs): the forced cells as the released guide's own fill.sh prints them over the translation 69c457c725d174c7… (all of the seat's roots in one cut). By AI agents, Wed Nov 11 2026. No macro, syntax, notation, axiom, sorry.
-/
import Derived.Test.YtkggjpabibhmaaaChecked
import GoSem.Claim
import GoSem.ClaimJoined
import GoSem.ClaimMapViews
import Derived.JoinedTies
import Derived.KernelRfl
namespace Go.Proofs.Ytkggjpabibhmaaa
/- THE CELL 'sum', in the pinned program and in every row, IS THE sha256 OF THE DUMP (.gsa) THAT YtkggjpabibhmaaaProg.lean LOADS. Nothing in Lean hashes anything: it is a label: what it is worth is what the hold of that sum in a sandbox is worth. -/
noncomputable def Try.pinned : Pinned := { name := "ytkggjpabibhmaaa", sum := "69c457c725d174c7c9ffee7c9f659c46a6a4a8ff6253c3edcd1d4bb30107c8ba", checked := Try.checked }
namespace Rows
def none {H : Type} : Left H := { results := [], args := [] }

/-- 'laws.FnExactSpreadOf': WHATEVER THE INPUT: true; the input reads as it did. -/
def fnExactSpreadOfSpec : ChangeSpec := { name := "fnExactSpreadOf", fn := fun _ => fun
  | [d] => { results := [.lit (.bool true)], args := [d] }
  | _ => none }
def fnExactSpreadOfRow : OpenClaim := { program := "ytkggjpabibhmaaa", sum := "69c457c725d174c7c9ffee7c9f659c46a6a4a8ff6253c3edcd1d4bb30107c8ba", func := "loop.example/g01375/laws.FnExactSpreadOf", spec := "fnExactSpreadOf", inPlace := ["math.sqrt", "math.Float64bits", "math.Float64frombits"], apart := false }
def FnExactSpreadOfSaid : Prop := fnExactSpreadOfRow.holds Try.pinned (OpenSpec.ofChange fnExactSpreadOfSpec)

/-- ITS FALSE NEIGHBOUR: 'it returns false'. Refute it at one input. -/
def fnExactSpreadOfWrong : ChangeSpec := { name := "fnExactSpreadOf", fn := fun _ => fun
  | [d] => { results := [.lit (.bool false)], args := [d] }
  | _ => none }
def FnExactSpreadOfWrongFalsely : Prop := fnExactSpreadOfRow.holds Try.pinned (OpenSpec.ofChange fnExactSpreadOfWrong)

/-- 'laws.FnExactLagDifferences': WHATEVER THE INPUT: true; the input reads as it did. -/
def fnExactLagDifferencesSpec : ChangeSpec := { name := "fnExactLagDifferences", fn := fun _ => fun
  | [d1, d2] => { results := [.lit (.bool true)], args := [d1, d2] }
  | _ => none }
def fnExactLagDifferencesRow : OpenClaim := { program := "ytkggjpabibhmaaa", sum := "69c457c725d174c7c9ffee7c9f659c46a6a4a8ff6253c3edcd1d4bb30107c8ba", func := "loop.example/g01375/laws.FnExactLagDifferences", spec := "fnExactLagDifferences", inPlace := ["math.Float64bits", "math.Float64frombits"], unfollowed := true, recurses := true, apart := false }
def FnExactLagDifferencesSaid : Prop := fnExactLagDifferencesRow.holds Try.pinned (OpenSpec.ofChange fnExactLagDifferencesSpec)

/-- ITS FALSE NEIGHBOUR: 'it returns false'. Refute it at one input. -/
def fnExactLagDifferencesWrong : ChangeSpec := { name := "fnExactLagDifferences", fn := fun _ => fun
  | [d1, d2] => { results := [.lit (.bool false)], args := [d1, d2] }
  | _ => none }
def FnExactLagDifferencesWrongFalsely : Prop := fnExactLagDifferencesRow.holds Try.pinned (OpenSpec.ofChange fnExactLagDifferencesWrong)

/-- 'laws.FnExactUndoDifferences': WHATEVER THE INPUT: true; the input reads as it did. -/
def fnExactUndoDifferencesSpec : ChangeSpec := { name := "fnExactUndoDifferences", fn := fun _ => fun
  | [d1, d2] => { results := [.lit (.bool true)], args := [d1, d2] }
  | _ => none }
def fnExactUndoDifferencesRow : OpenClaim := { program := "ytkggjpabibhmaaa", sum := "69c457c725d174c7c9ffee7c9f659c46a6a4a8ff6253c3edcd1d4bb30107c8ba", func := "loop.example/g01375/laws.FnExactUndoDifferences", spec := "fnExactUndoDifferences", inPlace := ["math.Float64bits", "math.Float64frombits"], apart := false }
def FnExactUndoDifferencesSaid : Prop := fnExactUndoDifferencesRow.holds Try.pinned (OpenSpec.ofChange fnExactUndoDifferencesSpec)

/-- ITS FALSE NEIGHBOUR: 'it returns false'. Refute it at one input. -/
def fnExactUndoDifferencesWrong : ChangeSpec := { name := "fnExactUndoDifferences", fn := fun _ => fun
  | [d1, d2] => { results := [.lit (.bool false)], args := [d1, d2] }
  | _ => none }
def FnExactUndoDifferencesWrongFalsely : Prop := fnExactUndoDifferencesRow.holds Try.pinned (OpenSpec.ofChange fnExactUndoDifferencesWrong)

/-- 'laws.FnExactRunningSums': WHATEVER THE INPUT: true; the input reads as it did. -/
def fnExactRunningSumsSpec : ChangeSpec := { name := "fnExactRunningSums", fn := fun _ => fun
  | [d] => { results := [.lit (.bool true)], args := [d] }
  | _ => none }
def fnExactRunningSumsRow : OpenClaim := { program := "ytkggjpabibhmaaa", sum := "69c457c725d174c7c9ffee7c9f659c46a6a4a8ff6253c3edcd1d4bb30107c8ba", func := "loop.example/g01375/laws.FnExactRunningSums", spec := "fnExactRunningSums", inPlace := ["math.Float64bits", "math.Float64frombits"], unfollowed := true, recurses := true, apart := false }
def FnExactRunningSumsSaid : Prop := fnExactRunningSumsRow.holds Try.pinned (OpenSpec.ofChange fnExactRunningSumsSpec)

/-- ITS FALSE NEIGHBOUR: 'it returns false'. Refute it at one input. -/
def fnExactRunningSumsWrong : ChangeSpec := { name := "fnExactRunningSums", fn := fun _ => fun
  | [d] => { results := [.lit (.bool false)], args := [d] }
  | _ => none }
def FnExactRunningSumsWrongFalsely : Prop := fnExactRunningSumsRow.holds Try.pinned (OpenSpec.ofChange fnExactRunningSumsWrong)

/-- 'laws.FnExactSeasonOf': WHATEVER THE INPUT: true; the input reads as it did. -/
def fnExactSeasonOfSpec : ChangeSpec := { name := "fnExactSeasonOf", fn := fun _ => fun
  | [d1, d2] => { results := [.lit (.bool true)], args := [d1, d2] }
  | _ => none }
def fnExactSeasonOfRow : OpenClaim := { program := "ytkggjpabibhmaaa", sum := "69c457c725d174c7c9ffee7c9f659c46a6a4a8ff6253c3edcd1d4bb30107c8ba", func := "loop.example/g01375/laws.FnExactSeasonOf", spec := "fnExactSeasonOf", inPlace := ["math.Float64bits", "math.Float64frombits"], unfollowed := true, recurses := true, apart := false }
def FnExactSeasonOfSaid : Prop := fnExactSeasonOfRow.holds Try.pinned (OpenSpec.ofChange fnExactSeasonOfSpec)

/-- ITS FALSE NEIGHBOUR: 'it returns false'. Refute it at one input. -/
def fnExactSeasonOfWrong : ChangeSpec := { name := "fnExactSeasonOf", fn := fun _ => fun
  | [d1, d2] => { results := [.lit (.bool false)], args := [d1, d2] }
  | _ => none }
def FnExactSeasonOfWrongFalsely : Prop := fnExactSeasonOfRow.holds Try.pinned (OpenSpec.ofChange fnExactSeasonOfWrong)

/-- 'laws.FnExactFillGaps': WHATEVER THE INPUT: true; the input reads as it did. -/
def fnExactFillGapsSpec : ChangeSpec := { name := "fnExactFillGaps", fn := fun _ => fun
  | [d1, d2] => { results := [.lit (.bool true)], args := [d1, d2] }
  | _ => none }
def fnExactFillGapsRow : OpenClaim := { program := "ytkggjpabibhmaaa", sum := "69c457c725d174c7c9ffee7c9f659c46a6a4a8ff6253c3edcd1d4bb30107c8ba", func := "loop.example/g01375/laws.FnExactFillGaps", spec := "fnExactFillGaps", inPlace := ["math.Float64bits", "math.Float64frombits"], unfollowed := true, recurses := true, apart := false }
def FnExactFillGapsSaid : Prop := fnExactFillGapsRow.holds Try.pinned (OpenSpec.ofChange fnExactFillGapsSpec)

/-- ITS FALSE NEIGHBOUR: 'it returns false'. Refute it at one input. -/
def fnExactFillGapsWrong : ChangeSpec := { name := "fnExactFillGaps", fn := fun _ => fun
  | [d1, d2] => { results := [.lit (.bool false)], args := [d1, d2] }
  | _ => none }
def FnExactFillGapsWrongFalsely : Prop := fnExactFillGapsRow.holds Try.pinned (OpenSpec.ofChange fnExactFillGapsWrong)

/-- 'laws.FnExactMovingMean': WHATEVER THE INPUT: true; the input reads as it did. -/
def fnExactMovingMeanSpec : ChangeSpec := { name := "fnExactMovingMean", fn := fun _ => fun
  | [d1, d2] => { results := [.lit (.bool true)], args := [d1, d2] }
  | _ => none }
def fnExactMovingMeanRow : OpenClaim := { program := "ytkggjpabibhmaaa", sum := "69c457c725d174c7c9ffee7c9f659c46a6a4a8ff6253c3edcd1d4bb30107c8ba", func := "loop.example/g01375/laws.FnExactMovingMean", spec := "fnExactMovingMean", inPlace := ["math.Float64bits", "math.Float64frombits"], unfollowed := true, recurses := true, apart := false }
def FnExactMovingMeanSaid : Prop := fnExactMovingMeanRow.holds Try.pinned (OpenSpec.ofChange fnExactMovingMeanSpec)

/-- ITS FALSE NEIGHBOUR: 'it returns false'. Refute it at one input. -/
def fnExactMovingMeanWrong : ChangeSpec := { name := "fnExactMovingMean", fn := fun _ => fun
  | [d1, d2] => { results := [.lit (.bool false)], args := [d1, d2] }
  | _ => none }
def FnExactMovingMeanWrongFalsely : Prop := fnExactMovingMeanRow.holds Try.pinned (OpenSpec.ofChange fnExactMovingMeanWrong)

/-- 'laws.FnExactMedianOf': WHATEVER THE INPUT: true; the input reads as it did. -/
def fnExactMedianOfSpec : ChangeSpec := { name := "fnExactMedianOf", fn := fun _ => fun
  | [d] => { results := [.lit (.bool true)], args := [d] }
  | _ => none }
def fnExactMedianOfRow : OpenClaim := { program := "ytkggjpabibhmaaa", sum := "69c457c725d174c7c9ffee7c9f659c46a6a4a8ff6253c3edcd1d4bb30107c8ba", func := "loop.example/g01375/laws.FnExactMedianOf", spec := "fnExactMedianOf", inPlace := ["math.Float64bits", "math.Float64frombits"], unfollowed := true, recurses := true, apart := false }
def FnExactMedianOfSaid : Prop := fnExactMedianOfRow.holds Try.pinned (OpenSpec.ofChange fnExactMedianOfSpec)

/-- ITS FALSE NEIGHBOUR: 'it returns false'. Refute it at one input. -/
def fnExactMedianOfWrong : ChangeSpec := { name := "fnExactMedianOf", fn := fun _ => fun
  | [d] => { results := [.lit (.bool false)], args := [d] }
  | _ => none }
def FnExactMedianOfWrongFalsely : Prop := fnExactMedianOfRow.holds Try.pinned (OpenSpec.ofChange fnExactMedianOfWrong)

/-- 'laws.FnExactQuantileOf': WHATEVER THE INPUT: true; the input reads as it did. -/
def fnExactQuantileOfSpec : ChangeSpec := { name := "fnExactQuantileOf", fn := fun _ => fun
  | [d1, d2] => { results := [.lit (.bool true)], args := [d1, d2] }
  | _ => none }
def fnExactQuantileOfRow : OpenClaim := { program := "ytkggjpabibhmaaa", sum := "69c457c725d174c7c9ffee7c9f659c46a6a4a8ff6253c3edcd1d4bb30107c8ba", func := "loop.example/g01375/laws.FnExactQuantileOf", spec := "fnExactQuantileOf", inPlace := ["math.Float64bits", "math.Float64frombits"], unfollowed := true, recurses := true, apart := false }
def FnExactQuantileOfSaid : Prop := fnExactQuantileOfRow.holds Try.pinned (OpenSpec.ofChange fnExactQuantileOfSpec)

/-- ITS FALSE NEIGHBOUR: 'it returns false'. Refute it at one input. -/
def fnExactQuantileOfWrong : ChangeSpec := { name := "fnExactQuantileOf", fn := fun _ => fun
  | [d1, d2] => { results := [.lit (.bool false)], args := [d1, d2] }
  | _ => none }
def FnExactQuantileOfWrongFalsely : Prop := fnExactQuantileOfRow.holds Try.pinned (OpenSpec.ofChange fnExactQuantileOfWrong)

/-- 'laws.FnExactEvenSeries': WHATEVER THE INPUT: true; the input reads as it did. -/
def fnExactEvenSeriesSpec : ChangeSpec := { name := "fnExactEvenSeries", fn := fun _ => fun
  | [d] => { results := [.lit (.bool true)], args := [d] }
  | _ => none }
def fnExactEvenSeriesRow : OpenClaim := { program := "ytkggjpabibhmaaa", sum := "69c457c725d174c7c9ffee7c9f659c46a6a4a8ff6253c3edcd1d4bb30107c8ba", func := "loop.example/g01375/laws.FnExactEvenSeries", spec := "fnExactEvenSeries", inPlace := ["math.sqrt", "math.Float64bits", "math.Float64frombits"], unfollowed := true, recurses := true, apart := false }
def FnExactEvenSeriesSaid : Prop := fnExactEvenSeriesRow.holds Try.pinned (OpenSpec.ofChange fnExactEvenSeriesSpec)

/-- ITS FALSE NEIGHBOUR: 'it returns false'. Refute it at one input. -/
def fnExactEvenSeriesWrong : ChangeSpec := { name := "fnExactEvenSeries", fn := fun _ => fun
  | [d] => { results := [.lit (.bool false)], args := [d] }
  | _ => none }
def FnExactEvenSeriesWrongFalsely : Prop := fnExactEvenSeriesRow.holds Try.pinned (OpenSpec.ofChange fnExactEvenSeriesWrong)

/-- 'laws.FnExactTakeApart': WHATEVER THE INPUT: true; the input reads as it did. -/
def fnExactTakeApartSpec : ChangeSpec := { name := "fnExactTakeApart", fn := fun _ => fun
  | [d1, d2, d3, d4] => { results := [.lit (.bool true)], args := [d1, d2, d3, d4] }
  | _ => none }
def fnExactTakeApartRow : OpenClaim := { program := "ytkggjpabibhmaaa", sum := "69c457c725d174c7c9ffee7c9f659c46a6a4a8ff6253c3edcd1d4bb30107c8ba", func := "loop.example/g01375/laws.FnExactTakeApart", spec := "fnExactTakeApart", inPlace := ["math.Float64bits", "math.Float64frombits"], unfollowed := true, recurses := true, apart := false }
def FnExactTakeApartSaid : Prop := fnExactTakeApartRow.holds Try.pinned (OpenSpec.ofChange fnExactTakeApartSpec)

/-- ITS FALSE NEIGHBOUR: 'it returns false'. Refute it at one input. -/
def fnExactTakeApartWrong : ChangeSpec := { name := "fnExactTakeApart", fn := fun _ => fun
  | [d1, d2, d3, d4] => { results := [.lit (.bool false)], args := [d1, d2, d3, d4] }
  | _ => none }
def FnExactTakeApartWrongFalsely : Prop := fnExactTakeApartRow.holds Try.pinned (OpenSpec.ofChange fnExactTakeApartWrong)

/-- 'laws.FnExactMovingMedian': WHATEVER THE INPUT: true; the input reads as it did. -/
def fnExactMovingMedianSpec : ChangeSpec := { name := "fnExactMovingMedian", fn := fun _ => fun
  | [d1, d2] => { results := [.lit (.bool true)], args := [d1, d2] }
  | _ => none }
def fnExactMovingMedianRow : OpenClaim := { program := "ytkggjpabibhmaaa", sum := "69c457c725d174c7c9ffee7c9f659c46a6a4a8ff6253c3edcd1d4bb30107c8ba", func := "loop.example/g01375/laws.FnExactMovingMedian", spec := "fnExactMovingMedian", inPlace := ["math.Float64bits", "math.Float64frombits"], unfollowed := true, recurses := true, apart := false }
def FnExactMovingMedianSaid : Prop := fnExactMovingMedianRow.holds Try.pinned (OpenSpec.ofChange fnExactMovingMedianSpec)

/-- ITS FALSE NEIGHBOUR: 'it returns false'. Refute it at one input. -/
def fnExactMovingMedianWrong : ChangeSpec := { name := "fnExactMovingMedian", fn := fun _ => fun
  | [d1, d2] => { results := [.lit (.bool false)], args := [d1, d2] }
  | _ => none }
def FnExactMovingMedianWrongFalsely : Prop := fnExactMovingMedianRow.holds Try.pinned (OpenSpec.ofChange fnExactMovingMedianWrong)

/- THE SECOND FORM. 'bulk': how many values and letters a reading holds, each counted each time it is reached (what is shared counts as often as it is met; a slice's spare places count too). A statement '..UptoSaid' is the law's where the arguments, and the package variables that the reading takes, are together of bulk at most 1048576: NARROWER than '..Said'. Prove '..Said' where nothing that the law and all that it calls make is longer than what came in: it says more and counts as full. Else prove '..UptoSaid'. A law counts once. -/
mutual
def uptoBulk {H : Type} : DataW H → Nat
  | .lit (.string bytes) => bytes.length + 1
  | .lit _ => 1
  | .nil => 1
  | .ptr d => uptoBulk d + 1
  | .slice elems spare => uptoBulkAll elems + uptoBulkAll spare + 1
  | .agg parts => uptoBulkAll parts + 1
  | .iface _ d => uptoBulk d + 1
  | .map entries => uptoBulkEntries entries + 1
  | .held _ => 1
def uptoBulkAll {H : Type} : List (DataW H) → Nat
  | [] => 0
  | d :: r => uptoBulk d + uptoBulkAll r
def uptoBulkEntries {H : Type} : List (Lit × DataW H) → Nat
  | [] => 0
  | x :: r => uptoBulkEntry x + uptoBulkEntries r
def uptoBulkEntry {H : Type} : Lit × DataW H → Nat
  | (.string bytes, d) => bytes.length + uptoBulk d + 1
  | (_, d) => uptoBulk d + 1
 end
def uptoSmall : (H : Type) → List (DataW H) → Bool := fun _ ds => decide (uptoBulkAll ds ≤ 1048576)
def OpenSpec.upto (s : _root_.Go.ChangeSpec) : _root_.Go.OpenSpec := { _root_.Go.OpenSpec.ofChange s with cond := some uptoSmall }

/-- 'laws.FnExactSpreadOf', WHERE WHAT IT READS IS OF BULK AT MOST 1048576: true; the input reads as it did. -/
def fnExactSpreadOfUptoRow : OpenClaim := { program := "ytkggjpabibhmaaa", sum := "69c457c725d174c7c9ffee7c9f659c46a6a4a8ff6253c3edcd1d4bb30107c8ba", func := "loop.example/g01375/laws.FnExactSpreadOf", spec := "fnExactSpreadOf", inPlace := ["math.sqrt", "math.Float64bits", "math.Float64frombits"], apart := false, narrowed := true }
def FnExactSpreadOfUptoSaid : Prop := fnExactSpreadOfUptoRow.holds Try.pinned (OpenSpec.upto fnExactSpreadOfSpec)

/-- 'laws.FnExactLagDifferences', WHERE WHAT IT READS IS OF BULK AT MOST 1048576: true; the input reads as it did. -/
def fnExactLagDifferencesUptoRow : OpenClaim := { program := "ytkggjpabibhmaaa", sum := "69c457c725d174c7c9ffee7c9f659c46a6a4a8ff6253c3edcd1d4bb30107c8ba", func := "loop.example/g01375/laws.FnExactLagDifferences", spec := "fnExactLagDifferences", inPlace := ["math.Float64bits", "math.Float64frombits"], unfollowed := true, recurses := true, apart := false, narrowed := true }
def FnExactLagDifferencesUptoSaid : Prop := fnExactLagDifferencesUptoRow.holds Try.pinned (OpenSpec.upto fnExactLagDifferencesSpec)

/-- 'laws.FnExactUndoDifferences', WHERE WHAT IT READS IS OF BULK AT MOST 1048576: true; the input reads as it did. -/
def fnExactUndoDifferencesUptoRow : OpenClaim := { program := "ytkggjpabibhmaaa", sum := "69c457c725d174c7c9ffee7c9f659c46a6a4a8ff6253c3edcd1d4bb30107c8ba", func := "loop.example/g01375/laws.FnExactUndoDifferences", spec := "fnExactUndoDifferences", inPlace := ["math.Float64bits", "math.Float64frombits"], apart := false, narrowed := true }
def FnExactUndoDifferencesUptoSaid : Prop := fnExactUndoDifferencesUptoRow.holds Try.pinned (OpenSpec.upto fnExactUndoDifferencesSpec)

/-- 'laws.FnExactRunningSums', WHERE WHAT IT READS IS OF BULK AT MOST 1048576: true; the input reads as it did. -/
def fnExactRunningSumsUptoRow : OpenClaim := { program := "ytkggjpabibhmaaa", sum := "69c457c725d174c7c9ffee7c9f659c46a6a4a8ff6253c3edcd1d4bb30107c8ba", func := "loop.example/g01375/laws.FnExactRunningSums", spec := "fnExactRunningSums", inPlace := ["math.Float64bits", "math.Float64frombits"], unfollowed := true, recurses := true, apart := false, narrowed := true }
def FnExactRunningSumsUptoSaid : Prop := fnExactRunningSumsUptoRow.holds Try.pinned (OpenSpec.upto fnExactRunningSumsSpec)

/-- 'laws.FnExactSeasonOf', WHERE WHAT IT READS IS OF BULK AT MOST 1048576: true; the input reads as it did. -/
def fnExactSeasonOfUptoRow : OpenClaim := { program := "ytkggjpabibhmaaa", sum := "69c457c725d174c7c9ffee7c9f659c46a6a4a8ff6253c3edcd1d4bb30107c8ba", func := "loop.example/g01375/laws.FnExactSeasonOf", spec := "fnExactSeasonOf", inPlace := ["math.Float64bits", "math.Float64frombits"], unfollowed := true, recurses := true, apart := false, narrowed := true }
def FnExactSeasonOfUptoSaid : Prop := fnExactSeasonOfUptoRow.holds Try.pinned (OpenSpec.upto fnExactSeasonOfSpec)

/-- 'laws.FnExactFillGaps', WHERE WHAT IT READS IS OF BULK AT MOST 1048576: true; the input reads as it did. -/
def fnExactFillGapsUptoRow : OpenClaim := { program := "ytkggjpabibhmaaa", sum := "69c457c725d174c7c9ffee7c9f659c46a6a4a8ff6253c3edcd1d4bb30107c8ba", func := "loop.example/g01375/laws.FnExactFillGaps", spec := "fnExactFillGaps", inPlace := ["math.Float64bits", "math.Float64frombits"], unfollowed := true, recurses := true, apart := false, narrowed := true }
def FnExactFillGapsUptoSaid : Prop := fnExactFillGapsUptoRow.holds Try.pinned (OpenSpec.upto fnExactFillGapsSpec)

/-- 'laws.FnExactMovingMean', WHERE WHAT IT READS IS OF BULK AT MOST 1048576: true; the input reads as it did. -/
def fnExactMovingMeanUptoRow : OpenClaim := { program := "ytkggjpabibhmaaa", sum := "69c457c725d174c7c9ffee7c9f659c46a6a4a8ff6253c3edcd1d4bb30107c8ba", func := "loop.example/g01375/laws.FnExactMovingMean", spec := "fnExactMovingMean", inPlace := ["math.Float64bits", "math.Float64frombits"], unfollowed := true, recurses := true, apart := false, narrowed := true }
def FnExactMovingMeanUptoSaid : Prop := fnExactMovingMeanUptoRow.holds Try.pinned (OpenSpec.upto fnExactMovingMeanSpec)

/-- 'laws.FnExactMedianOf', WHERE WHAT IT READS IS OF BULK AT MOST 1048576: true; the input reads as it did. -/
def fnExactMedianOfUptoRow : OpenClaim := { program := "ytkggjpabibhmaaa", sum := "69c457c725d174c7c9ffee7c9f659c46a6a4a8ff6253c3edcd1d4bb30107c8ba", func := "loop.example/g01375/laws.FnExactMedianOf", spec := "fnExactMedianOf", inPlace := ["math.Float64bits", "math.Float64frombits"], unfollowed := true, recurses := true, apart := false, narrowed := true }
def FnExactMedianOfUptoSaid : Prop := fnExactMedianOfUptoRow.holds Try.pinned (OpenSpec.upto fnExactMedianOfSpec)

/-- 'laws.FnExactQuantileOf', WHERE WHAT IT READS IS OF BULK AT MOST 1048576: true; the input reads as it did. -/
def fnExactQuantileOfUptoRow : OpenClaim := { program := "ytkggjpabibhmaaa", sum := "69c457c725d174c7c9ffee7c9f659c46a6a4a8ff6253c3edcd1d4bb30107c8ba", func := "loop.example/g01375/laws.FnExactQuantileOf", spec := "fnExactQuantileOf", inPlace := ["math.Float64bits", "math.Float64frombits"], unfollowed := true, recurses := true, apart := false, narrowed := true }
def FnExactQuantileOfUptoSaid : Prop := fnExactQuantileOfUptoRow.holds Try.pinned (OpenSpec.upto fnExactQuantileOfSpec)

/-- 'laws.FnExactEvenSeries', WHERE WHAT IT READS IS OF BULK AT MOST 1048576: true; the input reads as it did. -/
def fnExactEvenSeriesUptoRow : OpenClaim := { program := "ytkggjpabibhmaaa", sum := "69c457c725d174c7c9ffee7c9f659c46a6a4a8ff6253c3edcd1d4bb30107c8ba", func := "loop.example/g01375/laws.FnExactEvenSeries", spec := "fnExactEvenSeries", inPlace := ["math.sqrt", "math.Float64bits", "math.Float64frombits"], unfollowed := true, recurses := true, apart := false, narrowed := true }
def FnExactEvenSeriesUptoSaid : Prop := fnExactEvenSeriesUptoRow.holds Try.pinned (OpenSpec.upto fnExactEvenSeriesSpec)

/-- 'laws.FnExactTakeApart', WHERE WHAT IT READS IS OF BULK AT MOST 1048576: true; the input reads as it did. -/
def fnExactTakeApartUptoRow : OpenClaim := { program := "ytkggjpabibhmaaa", sum := "69c457c725d174c7c9ffee7c9f659c46a6a4a8ff6253c3edcd1d4bb30107c8ba", func := "loop.example/g01375/laws.FnExactTakeApart", spec := "fnExactTakeApart", inPlace := ["math.Float64bits", "math.Float64frombits"], unfollowed := true, recurses := true, apart := false, narrowed := true }
def FnExactTakeApartUptoSaid : Prop := fnExactTakeApartUptoRow.holds Try.pinned (OpenSpec.upto fnExactTakeApartSpec)

/-- 'laws.FnExactMovingMedian', WHERE WHAT IT READS IS OF BULK AT MOST 1048576: true; the input reads as it did. -/
def fnExactMovingMedianUptoRow : OpenClaim := { program := "ytkggjpabibhmaaa", sum := "69c457c725d174c7c9ffee7c9f659c46a6a4a8ff6253c3edcd1d4bb30107c8ba", func := "loop.example/g01375/laws.FnExactMovingMedian", spec := "fnExactMovingMedian", inPlace := ["math.Float64bits", "math.Float64frombits"], unfollowed := true, recurses := true, apart := false, narrowed := true }
def FnExactMovingMedianUptoSaid : Prop := fnExactMovingMedianUptoRow.holds Try.pinned (OpenSpec.upto fnExactMovingMedianSpec)

end Rows
end Go.Proofs.Ytkggjpabibhmaaa
