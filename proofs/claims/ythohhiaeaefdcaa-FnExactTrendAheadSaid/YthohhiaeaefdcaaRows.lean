/-
  No cell of these rows narrows 'for every input' (looked for: loops, veiled, ifaces, maps, wideKeys, modest, calm, conditions, laid).
  DERIVED. THE GIVEN ROWS OF THIS SEAT. 12 by the template 'for every input the law returns true; each argument reads behind the call as it read before'; 0 by the template 'total and deterministic' (their statements: YthohhiaeaefdcaaTotals.lean).
  GIVEN WITH THE SEED: the statements are not yours to turn. If you find one false, say at which input.
  Laid BY PROGRAM, IN A SANDBOX (cutbox-rows.mjs): the forced cells as the released guide's own fill.sh prints them over the translation a23adc691f48e700… (all of the seat's roots in one cut). By AI agents, Wed Nov 11 2026. No macro, syntax, notation, axiom, sorry.
-/
import Derived.Test.YthohhiaeaefdcaaChecked
import GoSem.Claim
import GoSem.ClaimJoined
import GoSem.ClaimMapViews
import Derived.JoinedTies
import Derived.KernelRfl
namespace Go.Proofs.Ythohhiaeaefdcaa
/- THE CELL 'sum', in the pinned program and in every row, IS THE sha256 OF THE DUMP (.gsa) THAT YthohhiaeaefdcaaProg.lean LOADS. Nothing in Lean hashes anything: it is a label: what it is worth is what the hold of that sum in a sandbox is worth. -/
noncomputable def Try.pinned : Pinned := { name := "ythohhiaeaefdcaa", sum := "a23adc691f48e70096bc3a4fd7ba8db75afe901c62563075e4d4452fd374ba3d", checked := Try.checked }
namespace Rows
def none {H : Type} : Left H := { results := [], args := [] }

/-- 'laws.FnExactValidLevel': WHATEVER THE INPUT: true; the input reads as it did. -/
def fnExactValidLevelSpec : ChangeSpec := { name := "fnExactValidLevel", fn := fun _ => fun
  | [d] => { results := [.lit (.bool true)], args := [d] }
  | _ => none }
def fnExactValidLevelRow : OpenClaim := { program := "ythohhiaeaefdcaa", sum := "a23adc691f48e70096bc3a4fd7ba8db75afe901c62563075e4d4452fd374ba3d", func := "loop.example/g01375/laws.FnExactValidLevel", spec := "fnExactValidLevel", inPlace := ["math.Float64bits", "math.Float64frombits"], apart := false }
def FnExactValidLevelSaid : Prop := fnExactValidLevelRow.holds Try.pinned (OpenSpec.ofChange fnExactValidLevelSpec)

/-- ITS FALSE NEIGHBOUR: 'it returns false'. Refute it at one input. -/
def fnExactValidLevelWrong : ChangeSpec := { name := "fnExactValidLevel", fn := fun _ => fun
  | [d] => { results := [.lit (.bool false)], args := [d] }
  | _ => none }
def FnExactValidLevelWrongFalsely : Prop := fnExactValidLevelRow.holds Try.pinned (OpenSpec.ofChange fnExactValidLevelWrong)

/-- 'laws.FnExactSameLevel': WHATEVER THE INPUT: true; the input reads as it did. -/
def fnExactSameLevelSpec : ChangeSpec := { name := "fnExactSameLevel", fn := fun _ => fun
  | [d1, d2] => { results := [.lit (.bool true)], args := [d1, d2] }
  | _ => none }
def fnExactSameLevelRow : OpenClaim := { program := "ythohhiaeaefdcaa", sum := "a23adc691f48e70096bc3a4fd7ba8db75afe901c62563075e4d4452fd374ba3d", func := "loop.example/g01375/laws.FnExactSameLevel", spec := "fnExactSameLevel", inPlace := ["math.Float32bits"], apart := false }
def FnExactSameLevelSaid : Prop := fnExactSameLevelRow.holds Try.pinned (OpenSpec.ofChange fnExactSameLevelSpec)

/-- ITS FALSE NEIGHBOUR: 'it returns false'. Refute it at one input. -/
def fnExactSameLevelWrong : ChangeSpec := { name := "fnExactSameLevel", fn := fun _ => fun
  | [d1, d2] => { results := [.lit (.bool false)], args := [d1, d2] }
  | _ => none }
def FnExactSameLevelWrongFalsely : Prop := fnExactSameLevelRow.holds Try.pinned (OpenSpec.ofChange fnExactSameLevelWrong)

/-- 'laws.FnExactLevelStep': WHATEVER THE INPUT: true; the input reads as it did. -/
def fnExactLevelStepSpec : ChangeSpec := { name := "fnExactLevelStep", fn := fun _ => fun
  | [d1, d2, d3] => { results := [.lit (.bool true)], args := [d1, d2, d3] }
  | _ => none }
def fnExactLevelStepRow : OpenClaim := { program := "ythohhiaeaefdcaa", sum := "a23adc691f48e70096bc3a4fd7ba8db75afe901c62563075e4d4452fd374ba3d", func := "loop.example/g01375/laws.FnExactLevelStep", spec := "fnExactLevelStep", inPlace := ["math.Float64frombits", "math.Float64bits"], apart := false }
def FnExactLevelStepSaid : Prop := fnExactLevelStepRow.holds Try.pinned (OpenSpec.ofChange fnExactLevelStepSpec)

/-- ITS FALSE NEIGHBOUR: 'it returns false'. Refute it at one input. -/
def fnExactLevelStepWrong : ChangeSpec := { name := "fnExactLevelStep", fn := fun _ => fun
  | [d1, d2, d3] => { results := [.lit (.bool false)], args := [d1, d2, d3] }
  | _ => none }
def FnExactLevelStepWrongFalsely : Prop := fnExactLevelStepRow.holds Try.pinned (OpenSpec.ofChange fnExactLevelStepWrong)

/-- 'laws.FnExactValidTrend': WHATEVER THE INPUT: true; the input reads as it did. -/
def fnExactValidTrendSpec : ChangeSpec := { name := "fnExactValidTrend", fn := fun _ => fun
  | [d] => { results := [.lit (.bool true)], args := [d] }
  | _ => none }
def fnExactValidTrendRow : OpenClaim := { program := "ythohhiaeaefdcaa", sum := "a23adc691f48e70096bc3a4fd7ba8db75afe901c62563075e4d4452fd374ba3d", func := "loop.example/g01375/laws.FnExactValidTrend", spec := "fnExactValidTrend", inPlace := ["math.Float64bits", "math.Float64frombits"], apart := false }
def FnExactValidTrendSaid : Prop := fnExactValidTrendRow.holds Try.pinned (OpenSpec.ofChange fnExactValidTrendSpec)

/-- ITS FALSE NEIGHBOUR: 'it returns false'. Refute it at one input. -/
def fnExactValidTrendWrong : ChangeSpec := { name := "fnExactValidTrend", fn := fun _ => fun
  | [d] => { results := [.lit (.bool false)], args := [d] }
  | _ => none }
def FnExactValidTrendWrongFalsely : Prop := fnExactValidTrendRow.holds Try.pinned (OpenSpec.ofChange fnExactValidTrendWrong)

/-- 'laws.FnExactSameTrend': WHATEVER THE INPUT: true; the input reads as it did. -/
def fnExactSameTrendSpec : ChangeSpec := { name := "fnExactSameTrend", fn := fun _ => fun
  | [d1, d2] => { results := [.lit (.bool true)], args := [d1, d2] }
  | _ => none }
def fnExactSameTrendRow : OpenClaim := { program := "ythohhiaeaefdcaa", sum := "a23adc691f48e70096bc3a4fd7ba8db75afe901c62563075e4d4452fd374ba3d", func := "loop.example/g01375/laws.FnExactSameTrend", spec := "fnExactSameTrend", inPlace := ["math.Float32bits"], apart := false }
def FnExactSameTrendSaid : Prop := fnExactSameTrendRow.holds Try.pinned (OpenSpec.ofChange fnExactSameTrendSpec)

/-- ITS FALSE NEIGHBOUR: 'it returns false'. Refute it at one input. -/
def fnExactSameTrendWrong : ChangeSpec := { name := "fnExactSameTrend", fn := fun _ => fun
  | [d1, d2] => { results := [.lit (.bool false)], args := [d1, d2] }
  | _ => none }
def FnExactSameTrendWrongFalsely : Prop := fnExactSameTrendRow.holds Try.pinned (OpenSpec.ofChange fnExactSameTrendWrong)

/-- 'laws.FnExactTrendStep': WHATEVER THE INPUT: true; the input reads as it did. -/
def fnExactTrendStepSpec : ChangeSpec := { name := "fnExactTrendStep", fn := fun _ => fun
  | [d1, d2, d3] => { results := [.lit (.bool true)], args := [d1, d2, d3] }
  | _ => none }
def fnExactTrendStepRow : OpenClaim := { program := "ythohhiaeaefdcaa", sum := "a23adc691f48e70096bc3a4fd7ba8db75afe901c62563075e4d4452fd374ba3d", func := "loop.example/g01375/laws.FnExactTrendStep", spec := "fnExactTrendStep", inPlace := ["math.Float64bits", "math.Float64frombits"], apart := false }
def FnExactTrendStepSaid : Prop := fnExactTrendStepRow.holds Try.pinned (OpenSpec.ofChange fnExactTrendStepSpec)

/-- ITS FALSE NEIGHBOUR: 'it returns false'. Refute it at one input. -/
def fnExactTrendStepWrong : ChangeSpec := { name := "fnExactTrendStep", fn := fun _ => fun
  | [d1, d2, d3] => { results := [.lit (.bool false)], args := [d1, d2, d3] }
  | _ => none }
def FnExactTrendStepWrongFalsely : Prop := fnExactTrendStepRow.holds Try.pinned (OpenSpec.ofChange fnExactTrendStepWrong)

/-- 'laws.FnExactTrendAhead': WHATEVER THE INPUT: true; the input reads as it did. -/
def fnExactTrendAheadSpec : ChangeSpec := { name := "fnExactTrendAhead", fn := fun _ => fun
  | [d1, d2] => { results := [.lit (.bool true)], args := [d1, d2] }
  | _ => none }
def fnExactTrendAheadRow : OpenClaim := { program := "ythohhiaeaefdcaa", sum := "a23adc691f48e70096bc3a4fd7ba8db75afe901c62563075e4d4452fd374ba3d", func := "loop.example/g01375/laws.FnExactTrendAhead", spec := "fnExactTrendAhead", inPlace := ["math.Float64bits", "math.Float64frombits"], unfollowed := true, recurses := true, apart := false }
def FnExactTrendAheadSaid : Prop := fnExactTrendAheadRow.holds Try.pinned (OpenSpec.ofChange fnExactTrendAheadSpec)

/-- ITS FALSE NEIGHBOUR: 'it returns false'. Refute it at one input. -/
def fnExactTrendAheadWrong : ChangeSpec := { name := "fnExactTrendAhead", fn := fun _ => fun
  | [d1, d2] => { results := [.lit (.bool false)], args := [d1, d2] }
  | _ => none }
def FnExactTrendAheadWrongFalsely : Prop := fnExactTrendAheadRow.holds Try.pinned (OpenSpec.ofChange fnExactTrendAheadWrong)

/-- 'laws.FnExactLevelRun': WHATEVER THE INPUT: true; the input reads as it did. -/
def fnExactLevelRunSpec : ChangeSpec := { name := "fnExactLevelRun", fn := fun _ => fun
  | [d1, d2, d3] => { results := [.lit (.bool true)], args := [d1, d2, d3] }
  | _ => none }
def fnExactLevelRunRow : OpenClaim := { program := "ythohhiaeaefdcaa", sum := "a23adc691f48e70096bc3a4fd7ba8db75afe901c62563075e4d4452fd374ba3d", func := "loop.example/g01375/laws.FnExactLevelRun", spec := "fnExactLevelRun", inPlace := ["math.Float64frombits", "math.Float64bits"], unfollowed := true, recurses := true, apart := false }
def FnExactLevelRunSaid : Prop := fnExactLevelRunRow.holds Try.pinned (OpenSpec.ofChange fnExactLevelRunSpec)

/-- ITS FALSE NEIGHBOUR: 'it returns false'. Refute it at one input. -/
def fnExactLevelRunWrong : ChangeSpec := { name := "fnExactLevelRun", fn := fun _ => fun
  | [d1, d2, d3] => { results := [.lit (.bool false)], args := [d1, d2, d3] }
  | _ => none }
def FnExactLevelRunWrongFalsely : Prop := fnExactLevelRunRow.holds Try.pinned (OpenSpec.ofChange fnExactLevelRunWrong)

/-- 'laws.FnExactLevelBack': WHATEVER THE INPUT: true; the input reads as it did. -/
def fnExactLevelBackSpec : ChangeSpec := { name := "fnExactLevelBack", fn := fun _ => fun
  | [d1, d2, d3] => { results := [.lit (.bool true)], args := [d1, d2, d3] }
  | _ => none }
def fnExactLevelBackRow : OpenClaim := { program := "ythohhiaeaefdcaa", sum := "a23adc691f48e70096bc3a4fd7ba8db75afe901c62563075e4d4452fd374ba3d", func := "loop.example/g01375/laws.FnExactLevelBack", spec := "fnExactLevelBack", inPlace := ["math.Float64frombits", "math.Float64bits"], unfollowed := true, recurses := true, apart := false }
def FnExactLevelBackSaid : Prop := fnExactLevelBackRow.holds Try.pinned (OpenSpec.ofChange fnExactLevelBackSpec)

/-- ITS FALSE NEIGHBOUR: 'it returns false'. Refute it at one input. -/
def fnExactLevelBackWrong : ChangeSpec := { name := "fnExactLevelBack", fn := fun _ => fun
  | [d1, d2, d3] => { results := [.lit (.bool false)], args := [d1, d2, d3] }
  | _ => none }
def FnExactLevelBackWrongFalsely : Prop := fnExactLevelBackRow.holds Try.pinned (OpenSpec.ofChange fnExactLevelBackWrong)

/-- 'laws.FnExactTrendRun': WHATEVER THE INPUT: true; the input reads as it did. -/
def fnExactTrendRunSpec : ChangeSpec := { name := "fnExactTrendRun", fn := fun _ => fun
  | [d1, d2, d3] => { results := [.lit (.bool true)], args := [d1, d2, d3] }
  | _ => none }
def fnExactTrendRunRow : OpenClaim := { program := "ythohhiaeaefdcaa", sum := "a23adc691f48e70096bc3a4fd7ba8db75afe901c62563075e4d4452fd374ba3d", func := "loop.example/g01375/laws.FnExactTrendRun", spec := "fnExactTrendRun", inPlace := ["math.Float64bits", "math.Float64frombits"], unfollowed := true, recurses := true, apart := false }
def FnExactTrendRunSaid : Prop := fnExactTrendRunRow.holds Try.pinned (OpenSpec.ofChange fnExactTrendRunSpec)

/-- ITS FALSE NEIGHBOUR: 'it returns false'. Refute it at one input. -/
def fnExactTrendRunWrong : ChangeSpec := { name := "fnExactTrendRun", fn := fun _ => fun
  | [d1, d2, d3] => { results := [.lit (.bool false)], args := [d1, d2, d3] }
  | _ => none }
def FnExactTrendRunWrongFalsely : Prop := fnExactTrendRunRow.holds Try.pinned (OpenSpec.ofChange fnExactTrendRunWrong)

/-- 'laws.FnExactShockRun': WHATEVER THE INPUT: true; the input reads as it did. -/
def fnExactShockRunSpec : ChangeSpec := { name := "fnExactShockRun", fn := fun _ => fun
  | [d1, d2, d3, d4] => { results := [.lit (.bool true)], args := [d1, d2, d3, d4] }
  | _ => none }
def fnExactShockRunRow : OpenClaim := { program := "ythohhiaeaefdcaa", sum := "a23adc691f48e70096bc3a4fd7ba8db75afe901c62563075e4d4452fd374ba3d", func := "loop.example/g01375/laws.FnExactShockRun", spec := "fnExactShockRun", inPlace := ["math.Float64frombits", "math.Float64bits"], unfollowed := true, recurses := true, apart := false }
def FnExactShockRunSaid : Prop := fnExactShockRunRow.holds Try.pinned (OpenSpec.ofChange fnExactShockRunSpec)

/-- ITS FALSE NEIGHBOUR: 'it returns false'. Refute it at one input. -/
def fnExactShockRunWrong : ChangeSpec := { name := "fnExactShockRun", fn := fun _ => fun
  | [d1, d2, d3, d4] => { results := [.lit (.bool false)], args := [d1, d2, d3, d4] }
  | _ => none }
def FnExactShockRunWrongFalsely : Prop := fnExactShockRunRow.holds Try.pinned (OpenSpec.ofChange fnExactShockRunWrong)

/-- 'laws.FnExactPastSpreads': WHATEVER THE INPUT: true; the input reads as it did. -/
def fnExactPastSpreadsSpec : ChangeSpec := { name := "fnExactPastSpreads", fn := fun _ => fun
  | [d1, d2, d3] => { results := [.lit (.bool true)], args := [d1, d2, d3] }
  | _ => none }
def fnExactPastSpreadsRow : OpenClaim := { program := "ythohhiaeaefdcaa", sum := "a23adc691f48e70096bc3a4fd7ba8db75afe901c62563075e4d4452fd374ba3d", func := "loop.example/g01375/laws.FnExactPastSpreads", spec := "fnExactPastSpreads", inPlace := ["math.Float64bits", "math.Float64frombits"], unfollowed := true, recurses := true, apart := false }
def FnExactPastSpreadsSaid : Prop := fnExactPastSpreadsRow.holds Try.pinned (OpenSpec.ofChange fnExactPastSpreadsSpec)

/-- ITS FALSE NEIGHBOUR: 'it returns false'. Refute it at one input. -/
def fnExactPastSpreadsWrong : ChangeSpec := { name := "fnExactPastSpreads", fn := fun _ => fun
  | [d1, d2, d3] => { results := [.lit (.bool false)], args := [d1, d2, d3] }
  | _ => none }
def FnExactPastSpreadsWrongFalsely : Prop := fnExactPastSpreadsRow.holds Try.pinned (OpenSpec.ofChange fnExactPastSpreadsWrong)

/- THE SECOND FORM. 'bulk': how many values and letters a reading holds, each counted each time it is reached (what is shared counts as often as it is met; a slice's spare places count too). A statement '..UptoSaid' is the law's where the arguments, and the package variables that the reading takes, are together of bulk at most 1048576: NARROWER than '..Said'. Prove '..Said' where nothing that the law and all that it calls make is longer than what came in: it says more and counts as full. Else prove '..UptoSaid'. A law counts once. -/
mutual
def uptoBulk {H : Type} : DataW H → Nat
  | .lit (.string bytes) => bytes.length + 1
  | .lit _ => 1
  | .nil => 1
  | .ptr d => uptoBulk d + 1
  | .slice elems spare => uptoBulkAll elems + uptoBulkAll spare + 1
  | .agg parts => uptoBulkAll parts + 1
  | .iface _ d => uptoBulk d + 1
  | .map entries => uptoBulkEntries entries + 1
  | .held _ => 1
def uptoBulkAll {H : Type} : List (DataW H) → Nat
  | [] => 0
  | d :: r => uptoBulk d + uptoBulkAll r
def uptoBulkEntries {H : Type} : List (Lit × DataW H) → Nat
  | [] => 0
  | x :: r => uptoBulkEntry x + uptoBulkEntries r
def uptoBulkEntry {H : Type} : Lit × DataW H → Nat
  | (.string bytes, d) => bytes.length + uptoBulk d + 1
  | (_, d) => uptoBulk d + 1
 end
def uptoSmall : (H : Type) → List (DataW H) → Bool := fun _ ds => decide (uptoBulkAll ds ≤ 1048576)
def OpenSpec.upto (s : _root_.Go.ChangeSpec) : _root_.Go.OpenSpec := { _root_.Go.OpenSpec.ofChange s with cond := some uptoSmall }

/-- 'laws.FnExactValidLevel', WHERE WHAT IT READS IS OF BULK AT MOST 1048576: true; the input reads as it did. -/
def fnExactValidLevelUptoRow : OpenClaim := { program := "ythohhiaeaefdcaa", sum := "a23adc691f48e70096bc3a4fd7ba8db75afe901c62563075e4d4452fd374ba3d", func := "loop.example/g01375/laws.FnExactValidLevel", spec := "fnExactValidLevel", inPlace := ["math.Float64bits", "math.Float64frombits"], apart := false, narrowed := true }
def FnExactValidLevelUptoSaid : Prop := fnExactValidLevelUptoRow.holds Try.pinned (OpenSpec.upto fnExactValidLevelSpec)

/-- 'laws.FnExactSameLevel', WHERE WHAT IT READS IS OF BULK AT MOST 1048576: true; the input reads as it did. -/
def fnExactSameLevelUptoRow : OpenClaim := { program := "ythohhiaeaefdcaa", sum := "a23adc691f48e70096bc3a4fd7ba8db75afe901c62563075e4d4452fd374ba3d", func := "loop.example/g01375/laws.FnExactSameLevel", spec := "fnExactSameLevel", inPlace := ["math.Float32bits"], apart := false, narrowed := true }
def FnExactSameLevelUptoSaid : Prop := fnExactSameLevelUptoRow.holds Try.pinned (OpenSpec.upto fnExactSameLevelSpec)

/-- 'laws.FnExactLevelStep', WHERE WHAT IT READS IS OF BULK AT MOST 1048576: true; the input reads as it did. -/
def fnExactLevelStepUptoRow : OpenClaim := { program := "ythohhiaeaefdcaa", sum := "a23adc691f48e70096bc3a4fd7ba8db75afe901c62563075e4d4452fd374ba3d", func := "loop.example/g01375/laws.FnExactLevelStep", spec := "fnExactLevelStep", inPlace := ["math.Float64frombits", "math.Float64bits"], apart := false, narrowed := true }
def FnExactLevelStepUptoSaid : Prop := fnExactLevelStepUptoRow.holds Try.pinned (OpenSpec.upto fnExactLevelStepSpec)

/-- 'laws.FnExactValidTrend', WHERE WHAT IT READS IS OF BULK AT MOST 1048576: true; the input reads as it did. -/
def fnExactValidTrendUptoRow : OpenClaim := { program := "ythohhiaeaefdcaa", sum := "a23adc691f48e70096bc3a4fd7ba8db75afe901c62563075e4d4452fd374ba3d", func := "loop.example/g01375/laws.FnExactValidTrend", spec := "fnExactValidTrend", inPlace := ["math.Float64bits", "math.Float64frombits"], apart := false, narrowed := true }
def FnExactValidTrendUptoSaid : Prop := fnExactValidTrendUptoRow.holds Try.pinned (OpenSpec.upto fnExactValidTrendSpec)

/-- 'laws.FnExactSameTrend', WHERE WHAT IT READS IS OF BULK AT MOST 1048576: true; the input reads as it did. -/
def fnExactSameTrendUptoRow : OpenClaim := { program := "ythohhiaeaefdcaa", sum := "a23adc691f48e70096bc3a4fd7ba8db75afe901c62563075e4d4452fd374ba3d", func := "loop.example/g01375/laws.FnExactSameTrend", spec := "fnExactSameTrend", inPlace := ["math.Float32bits"], apart := false, narrowed := true }
def FnExactSameTrendUptoSaid : Prop := fnExactSameTrendUptoRow.holds Try.pinned (OpenSpec.upto fnExactSameTrendSpec)

/-- 'laws.FnExactTrendStep', WHERE WHAT IT READS IS OF BULK AT MOST 1048576: true; the input reads as it did. -/
def fnExactTrendStepUptoRow : OpenClaim := { program := "ythohhiaeaefdcaa", sum := "a23adc691f48e70096bc3a4fd7ba8db75afe901c62563075e4d4452fd374ba3d", func := "loop.example/g01375/laws.FnExactTrendStep", spec := "fnExactTrendStep", inPlace := ["math.Float64bits", "math.Float64frombits"], apart := false, narrowed := true }
def FnExactTrendStepUptoSaid : Prop := fnExactTrendStepUptoRow.holds Try.pinned (OpenSpec.upto fnExactTrendStepSpec)

/-- 'laws.FnExactTrendAhead', WHERE WHAT IT READS IS OF BULK AT MOST 1048576: true; the input reads as it did. -/
def fnExactTrendAheadUptoRow : OpenClaim := { program := "ythohhiaeaefdcaa", sum := "a23adc691f48e70096bc3a4fd7ba8db75afe901c62563075e4d4452fd374ba3d", func := "loop.example/g01375/laws.FnExactTrendAhead", spec := "fnExactTrendAhead", inPlace := ["math.Float64bits", "math.Float64frombits"], unfollowed := true, recurses := true, apart := false, narrowed := true }
def FnExactTrendAheadUptoSaid : Prop := fnExactTrendAheadUptoRow.holds Try.pinned (OpenSpec.upto fnExactTrendAheadSpec)

/-- 'laws.FnExactLevelRun', WHERE WHAT IT READS IS OF BULK AT MOST 1048576: true; the input reads as it did. -/
def fnExactLevelRunUptoRow : OpenClaim := { program := "ythohhiaeaefdcaa", sum := "a23adc691f48e70096bc3a4fd7ba8db75afe901c62563075e4d4452fd374ba3d", func := "loop.example/g01375/laws.FnExactLevelRun", spec := "fnExactLevelRun", inPlace := ["math.Float64frombits", "math.Float64bits"], unfollowed := true, recurses := true, apart := false, narrowed := true }
def FnExactLevelRunUptoSaid : Prop := fnExactLevelRunUptoRow.holds Try.pinned (OpenSpec.upto fnExactLevelRunSpec)

/-- 'laws.FnExactLevelBack', WHERE WHAT IT READS IS OF BULK AT MOST 1048576: true; the input reads as it did. -/
def fnExactLevelBackUptoRow : OpenClaim := { program := "ythohhiaeaefdcaa", sum := "a23adc691f48e70096bc3a4fd7ba8db75afe901c62563075e4d4452fd374ba3d", func := "loop.example/g01375/laws.FnExactLevelBack", spec := "fnExactLevelBack", inPlace := ["math.Float64frombits", "math.Float64bits"], unfollowed := true, recurses := true, apart := false, narrowed := true }
def FnExactLevelBackUptoSaid : Prop := fnExactLevelBackUptoRow.holds Try.pinned (OpenSpec.upto fnExactLevelBackSpec)

/-- 'laws.FnExactTrendRun', WHERE WHAT IT READS IS OF BULK AT MOST 1048576: true; the input reads as it did. -/
def fnExactTrendRunUptoRow : OpenClaim := { program := "ythohhiaeaefdcaa", sum := "a23adc691f48e70096bc3a4fd7ba8db75afe901c62563075e4d4452fd374ba3d", func := "loop.example/g01375/laws.FnExactTrendRun", spec := "fnExactTrendRun", inPlace := ["math.Float64bits", "math.Float64frombits"], unfollowed := true, recurses := true, apart := false, narrowed := true }
def FnExactTrendRunUptoSaid : Prop := fnExactTrendRunUptoRow.holds Try.pinned (OpenSpec.upto fnExactTrendRunSpec)

/-- 'laws.FnExactShockRun', WHERE WHAT IT READS IS OF BULK AT MOST 1048576: true; the input reads as it did. -/
def fnExactShockRunUptoRow : OpenClaim := { program := "ythohhiaeaefdcaa", sum := "a23adc691f48e70096bc3a4fd7ba8db75afe901c62563075e4d4452fd374ba3d", func := "loop.example/g01375/laws.FnExactShockRun", spec := "fnExactShockRun", inPlace := ["math.Float64frombits", "math.Float64bits"], unfollowed := true, recurses := true, apart := false, narrowed := true }
def FnExactShockRunUptoSaid : Prop := fnExactShockRunUptoRow.holds Try.pinned (OpenSpec.upto fnExactShockRunSpec)

/-- 'laws.FnExactPastSpreads', WHERE WHAT IT READS IS OF BULK AT MOST 1048576: true; the input reads as it did. -/
def fnExactPastSpreadsUptoRow : OpenClaim := { program := "ythohhiaeaefdcaa", sum := "a23adc691f48e70096bc3a4fd7ba8db75afe901c62563075e4d4452fd374ba3d", func := "loop.example/g01375/laws.FnExactPastSpreads", spec := "fnExactPastSpreads", inPlace := ["math.Float64bits", "math.Float64frombits"], unfollowed := true, recurses := true, apart := false, narrowed := true }
def FnExactPastSpreadsUptoSaid : Prop := fnExactPastSpreadsUptoRow.holds Try.pinned (OpenSpec.upto fnExactPastSpreadsSpec)

end Rows
end Go.Proofs.Ythohhiaeaefdcaa
