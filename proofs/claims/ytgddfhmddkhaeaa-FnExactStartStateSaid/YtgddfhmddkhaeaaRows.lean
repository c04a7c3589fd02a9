/-
  No cell of these rows narrows 'for every input' (looked for: loops, veiled, ifaces, maps, wideKeys, modest, calm, conditions, laid).
  DERIVED. THE GIVEN ROWS OF THIS SEAT. 12 by the template 'for every input the law returns true; each argument reads behind the call as it read before'; 0 by the template 'total and deterministic' (their statements: YtgddfhmddkhaeaaTotals.lean).
  GIVEN WITH THE SEED: the statements are not yours to turn. If you find one false, say at which input.
  Laid BY PROGRAM, IN A SANDBOX (cutbox-rows.mjs): the forced cells as the released guide's own fill.sh prints them over the translation bcadf3a942c224b7… (all of the seat's roots in one cut). By AI agents, Wed Nov 11 2026. No macro, syntax, notation, axiom, sorry.
-/
import Derived.Test.YtgddfhmddkhaeaaChecked
import GoSem.Claim
import GoSem.ClaimJoined
import GoSem.ClaimMapViews
import Derived.JoinedTies
import Derived.KernelRfl
namespace Go.Proofs.Ytgddfhmddkhaeaa
/- THE CELL 'sum', in the pinned program and in every row, IS THE sha256 OF THE DUMP (.gsa) THAT YtgddfhmddkhaeaaProg.lean LOADS. Nothing in Lean hashes anything: it is a label: what it is worth is what the hold of that sum in a sandbox is worth. -/
noncomputable def Try.pinned : Pinned := { name := "ytgddfhmddkhaeaa", sum := "bcadf3a942c224b747d8076a0fba1980826b8ecfdedd7843afaff48e1c01e1d1", checked := Try.checked }
namespace Rows
def none {H : Type} : Left H := { results := [], args := [] }

/-- 'laws.FnExactStepState': WHATEVER THE INPUT: true; the input reads as it did. -/
def fnExactStepStateSpec : ChangeSpec := { name := "fnExactStepState", fn := fun _ => fun
  | [d1, d2, d3] => { results := [.lit (.bool true)], args := [d1, d2, d3] }
  | _ => none }
def fnExactStepStateRow : OpenClaim := { program := "ytgddfhmddkhaeaa", sum := "bcadf3a942c224b747d8076a0fba1980826b8ecfdedd7843afaff48e1c01e1d1", func := "loop.example/g01375/laws.FnExactStepState", spec := "fnExactStepState", inPlace := ["math.Float64bits", "math.Float64frombits"], apart := false }
def FnExactStepStateSaid : Prop := fnExactStepStateRow.holds Try.pinned (OpenSpec.ofChange fnExactStepStateSpec)

/-- ITS FALSE NEIGHBOUR: 'it returns false'. Refute it at one input. -/
def fnExactStepStateWrong : ChangeSpec := { name := "fnExactStepState", fn := fun _ => fun
  | [d1, d2, d3] => { results := [.lit (.bool false)], args := [d1, d2, d3] }
  | _ => none }
def FnExactStepStateWrongFalsely : Prop := fnExactStepStateRow.holds Try.pinned (OpenSpec.ofChange fnExactStepStateWrong)

/-- 'laws.FnExactRunStates': WHATEVER THE INPUT: true; the input reads as it did. -/
def fnExactRunStatesSpec : ChangeSpec := { name := "fnExactRunStates", fn := fun _ => fun
  | [d1, d2, d3] => { results := [.lit (.bool true)], args := [d1, d2, d3] }
  | _ => none }
def fnExactRunStatesRow : OpenClaim := { program := "ytgddfhmddkhaeaa", sum := "bcadf3a942c224b747d8076a0fba1980826b8ecfdedd7843afaff48e1c01e1d1", func := "loop.example/g01375/laws.FnExactRunStates", spec := "fnExactRunStates", inPlace := ["math.Float64bits", "math.Float64frombits"], unfollowed := true, recurses := true, apart := false }
def FnExactRunStatesSaid : Prop := fnExactRunStatesRow.holds Try.pinned (OpenSpec.ofChange fnExactRunStatesSpec)

/-- ITS FALSE NEIGHBOUR: 'it returns false'. Refute it at one input. -/
def fnExactRunStatesWrong : ChangeSpec := { name := "fnExactRunStates", fn := fun _ => fun
  | [d1, d2, d3] => { results := [.lit (.bool false)], args := [d1, d2, d3] }
  | _ => none }
def FnExactRunStatesWrongFalsely : Prop := fnExactRunStatesRow.holds Try.pinned (OpenSpec.ofChange fnExactRunStatesWrong)

/-- 'laws.FnExactGuessesOf': WHATEVER THE INPUT: true; the input reads as it did. -/
def fnExactGuessesOfSpec : ChangeSpec := { name := "fnExactGuessesOf", fn := fun _ => fun
  | [d1, d2, d3] => { results := [.lit (.bool true)], args := [d1, d2, d3] }
  | _ => none }
def fnExactGuessesOfRow : OpenClaim := { program := "ytgddfhmddkhaeaa", sum := "bcadf3a942c224b747d8076a0fba1980826b8ecfdedd7843afaff48e1c01e1d1", func := "loop.example/g01375/laws.FnExactGuessesOf", spec := "fnExactGuessesOf", inPlace := ["math.Float64bits", "math.Float64frombits"], unfollowed := true, recurses := true, apart := false }
def FnExactGuessesOfSaid : Prop := fnExactGuessesOfRow.holds Try.pinned (OpenSpec.ofChange fnExactGuessesOfSpec)

/-- ITS FALSE NEIGHBOUR: 'it returns false'. Refute it at one input. -/
def fnExactGuessesOfWrong : ChangeSpec := { name := "fnExactGuessesOf", fn := fun _ => fun
  | [d1, d2, d3] => { results := [.lit (.bool false)], args := [d1, d2, d3] }
  | _ => none }
def FnExactGuessesOfWrongFalsely : Prop := fnExactGuessesOfRow.holds Try.pinned (OpenSpec.ofChange fnExactGuessesOfWrong)

/-- 'laws.FnExactMissesOf': WHATEVER THE INPUT: true; the input reads as it did. -/
def fnExactMissesOfSpec : ChangeSpec := { name := "fnExactMissesOf", fn := fun _ => fun
  | [d1, d2, d3] => { results := [.lit (.bool true)], args := [d1, d2, d3] }
  | _ => none }
def fnExactMissesOfRow : OpenClaim := { program := "ytgddfhmddkhaeaa", sum := "bcadf3a942c224b747d8076a0fba1980826b8ecfdedd7843afaff48e1c01e1d1", func := "loop.example/g01375/laws.FnExactMissesOf", spec := "fnExactMissesOf", inPlace := ["math.Float64bits", "math.Float64frombits"], unfollowed := true, recurses := true, apart := false }
def FnExactMissesOfSaid : Prop := fnExactMissesOfRow.holds Try.pinned (OpenSpec.ofChange fnExactMissesOfSpec)

/-- ITS FALSE NEIGHBOUR: 'it returns false'. Refute it at one input. -/
def fnExactMissesOfWrong : ChangeSpec := { name := "fnExactMissesOf", fn := fun _ => fun
  | [d1, d2, d3] => { results := [.lit (.bool false)], args := [d1, d2, d3] }
  | _ => none }
def FnExactMissesOfWrongFalsely : Prop := fnExactMissesOfRow.holds Try.pinned (OpenSpec.ofChange fnExactMissesOfWrong)

/-- 'laws.FnExactMissOfShares': WHATEVER THE INPUT: true; the input reads as it did. -/
def fnExactMissOfSharesSpec : ChangeSpec := { name := "fnExactMissOfShares", fn := fun _ => fun
  | [d1, d2, d3] => { results := [.lit (.bool true)], args := [d1, d2, d3] }
  | _ => none }
def fnExactMissOfSharesRow : OpenClaim := { program := "ytgddfhmddkhaeaa", sum := "bcadf3a942c224b747d8076a0fba1980826b8ecfdedd7843afaff48e1c01e1d1", func := "loop.example/g01375/laws.FnExactMissOfShares", spec := "fnExactMissOfShares", inPlace := ["math.Float64bits", "math.Float64frombits"], unfollowed := true, recurses := true, apart := false }
def FnExactMissOfSharesSaid : Prop := fnExactMissOfSharesRow.holds Try.pinned (OpenSpec.ofChange fnExactMissOfSharesSpec)

/-- ITS FALSE NEIGHBOUR: 'it returns false'. Refute it at one input. -/
def fnExactMissOfSharesWrong : ChangeSpec := { name := "fnExactMissOfShares", fn := fun _ => fun
  | [d1, d2, d3] => { results := [.lit (.bool false)], args := [d1, d2, d3] }
  | _ => none }
def FnExactMissOfSharesWrongFalsely : Prop := fnExactMissOfSharesRow.holds Try.pinned (OpenSpec.ofChange fnExactMissOfSharesWrong)

/-- 'laws.FnExactStartState': WHATEVER THE INPUT: true; the input reads as it did. -/
def fnExactStartStateSpec : ChangeSpec := { name := "fnExactStartState", fn := fun _ => fun
  | [d1, d2] => { results := [.lit (.bool true)], args := [d1, d2] }
  | _ => none }
def fnExactStartStateRow : OpenClaim := { program := "ytgddfhmddkhaeaa", sum := "bcadf3a942c224b747d8076a0fba1980826b8ecfdedd7843afaff48e1c01e1d1", func := "loop.example/g01375/laws.FnExactStartState", spec := "fnExactStartState", inPlace := ["math.Float64bits", "math.Float64frombits"], apart := false }
def FnExactStartStateSaid : Prop := fnExactStartStateRow.holds Try.pinned (OpenSpec.ofChange fnExactStartStateSpec)

/-- ITS FALSE NEIGHBOUR: 'it returns false'. Refute it at one input. -/
def fnExactStartStateWrong : ChangeSpec := { name := "fnExactStartState", fn := fun _ => fun
  | [d1, d2] => { results := [.lit (.bool false)], args := [d1, d2] }
  | _ => none }
def FnExactStartStateWrongFalsely : Prop := fnExactStartStateRow.holds Try.pinned (OpenSpec.ofChange fnExactStartStateWrong)

/-- 'laws.FnExactShockRun': WHATEVER THE INPUT: true; the input reads as it did. -/
def fnExactShockRunSpec : ChangeSpec := { name := "fnExactShockRun", fn := fun _ => fun
  | [d1, d2, d3, d4] => { results := [.lit (.bool true)], args := [d1, d2, d3, d4] }
  | _ => none }
def fnExactShockRunRow : OpenClaim := { program := "ytgddfhmddkhaeaa", sum := "bcadf3a942c224b747d8076a0fba1980826b8ecfdedd7843afaff48e1c01e1d1", func := "loop.example/g01375/laws.FnExactShockRun", spec := "fnExactShockRun", inPlace := ["math.Float64frombits", "math.Float64bits"], unfollowed := true, recurses := true, apart := false }
def FnExactShockRunSaid : Prop := fnExactShockRunRow.holds Try.pinned (OpenSpec.ofChange fnExactShockRunSpec)

/-- ITS FALSE NEIGHBOUR: 'it returns false'. Refute it at one input. -/
def fnExactShockRunWrong : ChangeSpec := { name := "fnExactShockRun", fn := fun _ => fun
  | [d1, d2, d3, d4] => { results := [.lit (.bool false)], args := [d1, d2, d3, d4] }
  | _ => none }
def FnExactShockRunWrongFalsely : Prop := fnExactShockRunRow.holds Try.pinned (OpenSpec.ofChange fnExactShockRunWrong)

/-- 'laws.FnExactPastSpreads': WHATEVER THE INPUT: true; the input reads as it did. -/
def fnExactPastSpreadsSpec : ChangeSpec := { name := "fnExactPastSpreads", fn := fun _ => fun
  | [d1, d2, d3] => { results := [.lit (.bool true)], args := [d1, d2, d3] }
  | _ => none }
def fnExactPastSpreadsRow : OpenClaim := { program := "ytgddfhmddkhaeaa", sum := "bcadf3a942c224b747d8076a0fba1980826b8ecfdedd7843afaff48e1c01e1d1", func := "loop.example/g01375/laws.FnExactPastSpreads", spec := "fnExactPastSpreads", inPlace := ["math.Float64bits", "math.Float64frombits"], unfollowed := true, recurses := true, apart := false }
def FnExactPastSpreadsSaid : Prop := fnExactPastSpreadsRow.holds Try.pinned (OpenSpec.ofChange fnExactPastSpreadsSpec)

/-- ITS FALSE NEIGHBOUR: 'it returns false'. Refute it at one input. -/
def fnExactPastSpreadsWrong : ChangeSpec := { name := "fnExactPastSpreads", fn := fun _ => fun
  | [d1, d2, d3] => { results := [.lit (.bool false)], args := [d1, d2, d3] }
  | _ => none }
def FnExactPastSpreadsWrongFalsely : Prop := fnExactPastSpreadsRow.holds Try.pinned (OpenSpec.ofChange fnExactPastSpreadsWrong)

/-- 'laws.FnExactTimesSeason': WHATEVER THE INPUT: true; the input reads as it did. -/
def fnExactTimesSeasonSpec : ChangeSpec := { name := "fnExactTimesSeason", fn := fun _ => fun
  | [d1, d2, d3] => { results := [.lit (.bool true)], args := [d1, d2, d3] }
  | _ => none }
def fnExactTimesSeasonRow : OpenClaim := { program := "ytgddfhmddkhaeaa", sum := "bcadf3a942c224b747d8076a0fba1980826b8ecfdedd7843afaff48e1c01e1d1", func := "loop.example/g01375/laws.FnExactTimesSeason", spec := "fnExactTimesSeason", inPlace := ["math.Float64bits", "math.Float64frombits"], unfollowed := true, recurses := true, apart := false }
def FnExactTimesSeasonSaid : Prop := fnExactTimesSeasonRow.holds Try.pinned (OpenSpec.ofChange fnExactTimesSeasonSpec)

/-- ITS FALSE NEIGHBOUR: 'it returns false'. Refute it at one input. -/
def fnExactTimesSeasonWrong : ChangeSpec := { name := "fnExactTimesSeason", fn := fun _ => fun
  | [d1, d2, d3] => { results := [.lit (.bool false)], args := [d1, d2, d3] }
  | _ => none }
def FnExactTimesSeasonWrongFalsely : Prop := fnExactTimesSeasonRow.holds Try.pinned (OpenSpec.ofChange fnExactTimesSeasonWrong)

/-- 'laws.FnExactBestShares': WHATEVER THE INPUT: true; the input reads as it did. -/
def fnExactBestSharesSpec : ChangeSpec := { name := "fnExactBestShares", fn := fun _ => fun
  | [d1, d2, d3] => { results := [.lit (.bool true)], args := [d1, d2, d3] }
  | _ => none }
def fnExactBestSharesRow : OpenClaim := { program := "ytgddfhmddkhaeaa", sum := "bcadf3a942c224b747d8076a0fba1980826b8ecfdedd7843afaff48e1c01e1d1", func := "loop.example/g01375/laws.FnExactBestShares", spec := "fnExactBestShares", inPlace := ["math.Float64bits", "math.Float64frombits"], apart := false }
def FnExactBestSharesSaid : Prop := fnExactBestSharesRow.holds Try.pinned (OpenSpec.ofChange fnExactBestSharesSpec)

/-- ITS FALSE NEIGHBOUR: 'it returns false'. Refute it at one input. -/
def fnExactBestSharesWrong : ChangeSpec := { name := "fnExactBestShares", fn := fun _ => fun
  | [d1, d2, d3] => { results := [.lit (.bool false)], args := [d1, d2, d3] }
  | _ => none }
def FnExactBestSharesWrongFalsely : Prop := fnExactBestSharesRow.holds Try.pinned (OpenSpec.ofChange fnExactBestSharesWrong)

/-- 'laws.FnExactLearnWeights': WHATEVER THE INPUT: true; the input reads as it did. -/
def fnExactLearnWeightsSpec : ChangeSpec := { name := "fnExactLearnWeights", fn := fun _ => fun
  | [d1, d2, d3] => { results := [.lit (.bool true)], args := [d1, d2, d3] }
  | _ => none }
def fnExactLearnWeightsRow : OpenClaim := { program := "ytgddfhmddkhaeaa", sum := "bcadf3a942c224b747d8076a0fba1980826b8ecfdedd7843afaff48e1c01e1d1", func := "loop.example/g01375/laws.FnExactLearnWeights", spec := "fnExactLearnWeights", inPlace := ["math.Float64frombits", "math.Float64bits"], apart := false }
def FnExactLearnWeightsSaid : Prop := fnExactLearnWeightsRow.holds Try.pinned (OpenSpec.ofChange fnExactLearnWeightsSpec)

/-- ITS FALSE NEIGHBOUR: 'it returns false'. Refute it at one input. -/
def fnExactLearnWeightsWrong : ChangeSpec := { name := "fnExactLearnWeights", fn := fun _ => fun
  | [d1, d2, d3] => { results := [.lit (.bool false)], args := [d1, d2, d3] }
  | _ => none }
def FnExactLearnWeightsWrongFalsely : Prop := fnExactLearnWeightsRow.holds Try.pinned (OpenSpec.ofChange fnExactLearnWeightsWrong)

/-- 'laws.FnExactRanksMiss': WHATEVER THE INPUT: true; the input reads as it did. -/
def fnExactRanksMissSpec : ChangeSpec := { name := "fnExactRanksMiss", fn := fun _ => fun
  | [d1, d2] => { results := [.lit (.bool true)], args := [d1, d2] }
  | _ => none }
def fnExactRanksMissRow : OpenClaim := { program := "ytgddfhmddkhaeaa", sum := "bcadf3a942c224b747d8076a0fba1980826b8ecfdedd7843afaff48e1c01e1d1", func := "loop.example/g01375/laws.FnExactRanksMiss", spec := "fnExactRanksMiss", inPlace := ["math.sqrt", "math.Float64bits", "math.Float64frombits"], unfollowed := true, recurses := true, apart := false }
def FnExactRanksMissSaid : Prop := fnExactRanksMissRow.holds Try.pinned (OpenSpec.ofChange fnExactRanksMissSpec)

/-- ITS FALSE NEIGHBOUR: 'it returns false'. Refute it at one input. -/
def fnExactRanksMissWrong : ChangeSpec := { name := "fnExactRanksMiss", fn := fun _ => fun
  | [d1, d2] => { results := [.lit (.bool false)], args := [d1, d2] }
  | _ => none }
def FnExactRanksMissWrongFalsely : Prop := fnExactRanksMissRow.holds Try.pinned (OpenSpec.ofChange fnExactRanksMissWrong)

/- THE SECOND FORM. 'bulk': how many values and letters a reading holds, each counted each time it is reached (what is shared counts as often as it is met; a slice's spare places count too). A statement '..UptoSaid' is the law's where the arguments, and the package variables that the reading takes, are together of bulk at most 1048576: NARROWER than '..Said'. Prove '..Said' where nothing that the law and all that it calls make is longer than what came in: it says more and counts as full. Else prove '..UptoSaid'. A law counts once. -/
mutual
def uptoBulk {H : Type} : DataW H → Nat
  | .lit (.string bytes) => bytes.length + 1
  | .lit _ => 1
  | .nil => 1
  | .ptr d => uptoBulk d + 1
  | .slice elems spare => uptoBulkAll elems + uptoBulkAll spare + 1
  | .agg parts => uptoBulkAll parts + 1
  | .iface _ d => uptoBulk d + 1
  | .map entries => uptoBulkEntries entries + 1
  | .held _ => 1
def uptoBulkAll {H : Type} : List (DataW H) → Nat
  | [] => 0
  | d :: r => uptoBulk d + uptoBulkAll r
def uptoBulkEntries {H : Type} : List (Lit × DataW H) → Nat
  | [] => 0
  | x :: r => uptoBulkEntry x + uptoBulkEntries r
def uptoBulkEntry {H : Type} : Lit × DataW H → Nat
  | (.string bytes, d) => bytes.length + uptoBulk d + 1
  | (_, d) => uptoBulk d + 1
 end
def uptoSmall : (H : Type) → List (DataW H) → Bool := fun _ ds => decide (uptoBulkAll ds ≤ 1048576)
def OpenSpec.upto (s : _root_.Go.ChangeSpec) : _root_.Go.OpenSpec := { _root_.Go.OpenSpec.ofChange s with cond := some uptoSmall }

/-- 'laws.FnExactStepState', WHERE WHAT IT READS IS OF BULK AT MOST 1048576: true; the input reads as it did. -/
def fnExactStepStateUptoRow : OpenClaim := { program := "ytgddfhmddkhaeaa", sum := "bcadf3a942c224b747d8076a0fba1980826b8ecfdedd7843afaff48e1c01e1d1", func := "loop.example/g01375/laws.FnExactStepState", spec := "fnExactStepState", inPlace := ["math.Float64bits", "math.Float64frombits"], apart := false, narrowed := true }
def FnExactStepStateUptoSaid : Prop := fnExactStepStateUptoRow.holds Try.pinned (OpenSpec.upto fnExactStepStateSpec)

/-- 'laws.FnExactRunStates', WHERE WHAT IT READS IS OF BULK AT MOST 1048576: true; the input reads as it did. -/
def fnExactRunStatesUptoRow : OpenClaim := { program := "ytgddfhmddkhaeaa", sum := "bcadf3a942c224b747d8076a0fba1980826b8ecfdedd7843afaff48e1c01e1d1", func := "loop.example/g01375/laws.FnExactRunStates", spec := "fnExactRunStates", inPlace := ["math.Float64bits", "math.Float64frombits"], unfollowed := true, recurses := true, apart := false, narrowed := true }
def FnExactRunStatesUptoSaid : Prop := fnExactRunStatesUptoRow.holds Try.pinned (OpenSpec.upto fnExactRunStatesSpec)

/-- 'laws.FnExactGuessesOf', WHERE WHAT IT READS IS OF BULK AT MOST 1048576: true; the input reads as it did. -/
def fnExactGuessesOfUptoRow : OpenClaim := { program := "ytgddfhmddkhaeaa", sum := "bcadf3a942c224b747d8076a0fba1980826b8ecfdedd7843afaff48e1c01e1d1", func := "loop.example/g01375/laws.FnExactGuessesOf", spec := "fnExactGuessesOf", inPlace := ["math.Float64bits", "math.Float64frombits"], unfollowed := true, recurses := true, apart := false, narrowed := true }
def FnExactGuessesOfUptoSaid : Prop := fnExactGuessesOfUptoRow.holds Try.pinned (OpenSpec.upto fnExactGuessesOfSpec)

/-- 'laws.FnExactMissesOf', WHERE WHAT IT READS IS OF BULK AT MOST 1048576: true; the input reads as it did. -/
def fnExactMissesOfUptoRow : OpenClaim := { program := "ytgddfhmddkhaeaa", sum := "bcadf3a942c224b747d8076a0fba1980826b8ecfdedd7843afaff48e1c01e1d1", func := "loop.example/g01375/laws.FnExactMissesOf", spec := "fnExactMissesOf", inPlace := ["math.Float64bits", "math.Float64frombits"], unfollowed := true, recurses := true, apart := false, narrowed := true }
def FnExactMissesOfUptoSaid : Prop := fnExactMissesOfUptoRow.holds Try.pinned (OpenSpec.upto fnExactMissesOfSpec)

/-- 'laws.FnExactMissOfShares', WHERE WHAT IT READS IS OF BULK AT MOST 1048576: true; the input reads as it did. -/
def fnExactMissOfSharesUptoRow : OpenClaim := { program := "ytgddfhmddkhaeaa", sum := "bcadf3a942c224b747d8076a0fba1980826b8ecfdedd7843afaff48e1c01e1d1", func := "loop.example/g01375/laws.FnExactMissOfShares", spec := "fnExactMissOfShares", inPlace := ["math.Float64bits", "math.Float64frombits"], unfollowed := true, recurses := true, apart := false, narrowed := true }
def FnExactMissOfSharesUptoSaid : Prop := fnExactMissOfSharesUptoRow.holds Try.pinned (OpenSpec.upto fnExactMissOfSharesSpec)

/-- 'laws.FnExactStartState', WHERE WHAT IT READS IS OF BULK AT MOST 1048576: true; the input reads as it did. -/
def fnExactStartStateUptoRow : OpenClaim := { program := "ytgddfhmddkhaeaa", sum := "bcadf3a942c224b747d8076a0fba1980826b8ecfdedd7843afaff48e1c01e1d1", func := "loop.example/g01375/laws.FnExactStartState", spec := "fnExactStartState", inPlace := ["math.Float64bits", "math.Float64frombits"], apart := false, narrowed := true }
def FnExactStartStateUptoSaid : Prop := fnExactStartStateUptoRow.holds Try.pinned (OpenSpec.upto fnExactStartStateSpec)

/-- 'laws.FnExactShockRun', WHERE WHAT IT READS IS OF BULK AT MOST 1048576: true; the input reads as it did. -/
def fnExactShockRunUptoRow : OpenClaim := { program := "ytgddfhmddkhaeaa", sum := "bcadf3a942c224b747d8076a0fba1980826b8ecfdedd7843afaff48e1c01e1d1", func := "loop.example/g01375/laws.FnExactShockRun", spec := "fnExactShockRun", inPlace := ["math.Float64frombits", "math.Float64bits"], unfollowed := true, recurses := true, apart := false, narrowed := true }
def FnExactShockRunUptoSaid : Prop := fnExactShockRunUptoRow.holds Try.pinned (OpenSpec.upto fnExactShockRunSpec)

/-- 'laws.FnExactPastSpreads', WHERE WHAT IT READS IS OF BULK AT MOST 1048576: true; the input reads as it did. -/
def fnExactPastSpreadsUptoRow : OpenClaim := { program := "ytgddfhmddkhaeaa", sum := "bcadf3a942c224b747d8076a0fba1980826b8ecfdedd7843afaff48e1c01e1d1", func := "loop.example/g01375/laws.FnExactPastSpreads", spec := "fnExactPastSpreads", inPlace := ["math.Float64bits", "math.Float64frombits"], unfollowed := true, recurses := true, apart := false, narrowed := true }
def FnExactPastSpreadsUptoSaid : Prop := fnExactPastSpreadsUptoRow.holds Try.pinned (OpenSpec.upto fnExactPastSpreadsSpec)

/-- 'laws.FnExactTimesSeason', WHERE WHAT IT READS IS OF BULK AT MOST 1048576: true; the input reads as it did. -/
def fnExactTimesSeasonUptoRow : OpenClaim := { program := "ytgddfhmddkhaeaa", sum := "bcadf3a942c224b747d8076a0fba1980826b8ecfdedd7843afaff48e1c01e1d1", func := "loop.example/g01375/laws.FnExactTimesSeason", spec := "fnExactTimesSeason", inPlace := ["math.Float64bits", "math.Float64frombits"], unfollowed := true, recurses := true, apart := false, narrowed := true }
def FnExactTimesSeasonUptoSaid : Prop := fnExactTimesSeasonUptoRow.holds Try.pinned (OpenSpec.upto fnExactTimesSeasonSpec)

/-- 'laws.FnExactBestShares', WHERE WHAT IT READS IS OF BULK AT MOST 1048576: true; the input reads as it did. -/
def fnExactBestSharesUptoRow : OpenClaim := { program := "ytgddfhmddkhaeaa", sum := "bcadf3a942c224b747d8076a0fba1980826b8ecfdedd7843afaff48e1c01e1d1", func := "loop.example/g01375/laws.FnExactBestShares", spec := "fnExactBestShares", inPlace := ["math.Float64bits", "math.Float64frombits"], apart := false, narrowed := true }
def FnExactBestSharesUptoSaid : Prop := fnExactBestSharesUptoRow.holds Try.pinned (OpenSpec.upto fnExactBestSharesSpec)

/-- 'laws.FnExactLearnWeights', WHERE WHAT IT READS IS OF BULK AT MOST 1048576: true; the input reads as it did. -/
def fnExactLearnWeightsUptoRow : OpenClaim := { program := "ytgddfhmddkhaeaa", sum := "bcadf3a942c224b747d8076a0fba1980826b8ecfdedd7843afaff48e1c01e1d1", func := "loop.example/g01375/laws.FnExactLearnWeights", spec := "fnExactLearnWeights", inPlace := ["math.Float64frombits", "math.Float64bits"], apart := false, narrowed := true }
def FnExactLearnWeightsUptoSaid : Prop := fnExactLearnWeightsUptoRow.holds Try.pinned (OpenSpec.upto fnExactLearnWeightsSpec)

/-- 'laws.FnExactRanksMiss', WHERE WHAT IT READS IS OF BULK AT MOST 1048576: true; the input reads as it did. -/
def fnExactRanksMissUptoRow : OpenClaim := { program := "ytgddfhmddkhaeaa", sum := "bcadf3a942c224b747d8076a0fba1980826b8ecfdedd7843afaff48e1c01e1d1", func := "loop.example/g01375/laws.FnExactRanksMiss", spec := "fnExactRanksMiss", inPlace := ["math.sqrt", "math.Float64bits", "math.Float64frombits"], unfollowed := true, recurses := true, apart := false, narrowed := true }
def FnExactRanksMissUptoSaid : Prop := fnExactRanksMissUptoRow.holds Try.pinned (OpenSpec.upto fnExactRanksMissSpec)

end Rows
end Go.Proofs.Ytgddfhmddkhaeaa
