/-
  No cell of these rows narrows 'for every input' (looked for: loops, veiled, ifaces, maps, wideKeys, modest, calm, conditions, laid).
  DERIVED. THE GIVEN ROWS OF THIS SEAT. 12 by the template 'for every input the law returns true; each argument reads behind the call as it read before'; 0 by the template 'total and deterministic' (their statements: YtldaamgohdnjnaaTotals.lean).
  GIVEN WITH THE SEED: the statements are not yours to turn. If you find one false, say at which input.
  Laid BY PROGRAM, IN A SANDBOX (cutbox-rows.mjs): the forced cells as the released guide's own fill.sh prints them over the translation 9a472c84b58e95b1… (all of the seat's roots in one cut). By AI agents, Wed Nov 11 2026. No macro, syntax, notation, axiom, sorry.
-/
import Derived.Test.YtldaamgohdnjnaaChecked
import GoSem.Claim
import GoSem.ClaimJoined
import GoSem.ClaimMapViews
import Derived.JoinedTies
import Derived.KernelRfl
namespace Go.Proofs.Ytldaamgohdnjnaa
/- THE CELL 'sum', in the pinned program and in every row, IS THE sha256 OF THE DUMP (.gsa) THAT YtldaamgohdnjnaaProg.lean LOADS. Nothing in Lean hashes anything: it is a label: what it is worth is what the hold of that sum in a sandbox is worth. -/
noncomputable def Try.pinned : Pinned := { name := "ytldaamgohdnjnaa", sum := "9a472c84b58e95b12421d8c1e9acfa702ab7824f0b8b048698b19bdc33801a2f", checked := Try.checked }
namespace Rows
def none {H : Type} : Left H := { results := [], args := [] }

/-- 'laws.FnExactLagColumns': WHATEVER THE INPUT: true; the input reads as it did. -/
def fnExactLagColumnsSpec : ChangeSpec := { name := "fnExactLagColumns", fn := fun _ => fun
  | [d1, d2] => { results := [.lit (.bool true)], args := [d1, d2] }
  | _ => none }
def fnExactLagColumnsRow : OpenClaim := { program := "ytldaamgohdnjnaa", sum := "9a472c84b58e95b12421d8c1e9acfa702ab7824f0b8b048698b19bdc33801a2f", func := "loop.example/g01375/laws.FnExactLagColumns", spec := "fnExactLagColumns", inPlace := ["math.Float64bits", "math.Float64frombits"], apart := false }
def FnExactLagColumnsSaid : Prop := fnExactLagColumnsRow.holds Try.pinned (OpenSpec.ofChange fnExactLagColumnsSpec)

/-- ITS FALSE NEIGHBOUR: 'it returns false'. Refute it at one input. -/
def fnExactLagColumnsWrong : ChangeSpec := { name := "fnExactLagColumns", fn := fun _ => fun
  | [d1, d2] => { results := [.lit (.bool false)], args := [d1, d2] }
  | _ => none }
def FnExactLagColumnsWrongFalsely : Prop := fnExactLagColumnsRow.holds Try.pinned (OpenSpec.ofChange fnExactLagColumnsWrong)

/-- 'laws.FnExactDrawnSeries': WHATEVER THE INPUT: true; the input reads as it did. -/
def fnExactDrawnSeriesSpec : ChangeSpec := { name := "fnExactDrawnSeries", fn := fun _ => fun
  | [d1, d2, d3, d4, d5] => { results := [.lit (.bool true)], args := [d1, d2, d3, d4, d5] }
  | _ => none }
def fnExactDrawnSeriesRow : OpenClaim := { program := "ytldaamgohdnjnaa", sum := "9a472c84b58e95b12421d8c1e9acfa702ab7824f0b8b048698b19bdc33801a2f", func := "loop.example/g01375/laws.FnExactDrawnSeries", spec := "fnExactDrawnSeries", inPlace := ["math.Float64bits", "math.Float64frombits"], unfollowed := true, recurses := true, apart := false }
def FnExactDrawnSeriesSaid : Prop := fnExactDrawnSeriesRow.holds Try.pinned (OpenSpec.ofChange fnExactDrawnSeriesSpec)

/-- ITS FALSE NEIGHBOUR: 'it returns false'. Refute it at one input. -/
def fnExactDrawnSeriesWrong : ChangeSpec := { name := "fnExactDrawnSeries", fn := fun _ => fun
  | [d1, d2, d3, d4, d5] => { results := [.lit (.bool false)], args := [d1, d2, d3, d4, d5] }
  | _ => none }
def FnExactDrawnSeriesWrongFalsely : Prop := fnExactDrawnSeriesRow.holds Try.pinned (OpenSpec.ofChange fnExactDrawnSeriesWrong)

/-- 'laws.FnExactLevelRun': WHATEVER THE INPUT: true; the input reads as it did. -/
def fnExactLevelRunSpec : ChangeSpec := { name := "fnExactLevelRun", fn := fun _ => fun
  | [d1, d2, d3] => { results := [.lit (.bool true)], args := [d1, d2, d3] }
  | _ => none }
def fnExactLevelRunRow : OpenClaim := { program := "ytldaamgohdnjnaa", sum := "9a472c84b58e95b12421d8c1e9acfa702ab7824f0b8b048698b19bdc33801a2f", func := "loop.example/g01375/laws.FnExactLevelRun", spec := "fnExactLevelRun", inPlace := ["math.Float64frombits", "math.Float64bits"], unfollowed := true, recurses := true, apart := false }
def FnExactLevelRunSaid : Prop := fnExactLevelRunRow.holds Try.pinned (OpenSpec.ofChange fnExactLevelRunSpec)

/-- ITS FALSE NEIGHBOUR: 'it returns false'. Refute it at one input. -/
def fnExactLevelRunWrong : ChangeSpec := { name := "fnExactLevelRun", fn := fun _ => fun
  | [d1, d2, d3] => { results := [.lit (.bool false)], args := [d1, d2, d3] }
  | _ => none }
def FnExactLevelRunWrongFalsely : Prop := fnExactLevelRunRow.holds Try.pinned (OpenSpec.ofChange fnExactLevelRunWrong)

/-- 'laws.FnExactLevelBack': WHATEVER THE INPUT: true; the input reads as it did. -/
def fnExactLevelBackSpec : ChangeSpec := { name := "fnExactLevelBack", fn := fun _ => fun
  | [d1, d2, d3] => { results := [.lit (.bool true)], args := [d1, d2, d3] }
  | _ => none }
def fnExactLevelBackRow : OpenClaim := { program := "ytldaamgohdnjnaa", sum := "9a472c84b58e95b12421d8c1e9acfa702ab7824f0b8b048698b19bdc33801a2f", func := "loop.example/g01375/laws.FnExactLevelBack", spec := "fnExactLevelBack", inPlace := ["math.Float64frombits", "math.Float64bits"], unfollowed := true, recurses := true, apart := false }
def FnExactLevelBackSaid : Prop := fnExactLevelBackRow.holds Try.pinned (OpenSpec.ofChange fnExactLevelBackSpec)

/-- ITS FALSE NEIGHBOUR: 'it returns false'. Refute it at one input. -/
def fnExactLevelBackWrong : ChangeSpec := { name := "fnExactLevelBack", fn := fun _ => fun
  | [d1, d2, d3] => { results := [.lit (.bool false)], args := [d1, d2, d3] }
  | _ => none }
def FnExactLevelBackWrongFalsely : Prop := fnExactLevelBackRow.holds Try.pinned (OpenSpec.ofChange fnExactLevelBackWrong)

/-- 'laws.FnExactTrendRun': WHATEVER THE INPUT: true; the input reads as it did. -/
def fnExactTrendRunSpec : ChangeSpec := { name := "fnExactTrendRun", fn := fun _ => fun
  | [d1, d2, d3] => { results := [.lit (.bool true)], args := [d1, d2, d3] }
  | _ => none }
def fnExactTrendRunRow : OpenClaim := { program := "ytldaamgohdnjnaa", sum := "9a472c84b58e95b12421d8c1e9acfa702ab7824f0b8b048698b19bdc33801a2f", func := "loop.example/g01375/laws.FnExactTrendRun", spec := "fnExactTrendRun", inPlace := ["math.Float64bits", "math.Float64frombits"], unfollowed := true, recurses := true, apart := false }
def FnExactTrendRunSaid : Prop := fnExactTrendRunRow.holds Try.pinned (OpenSpec.ofChange fnExactTrendRunSpec)

/-- ITS FALSE NEIGHBOUR: 'it returns false'. Refute it at one input. -/
def fnExactTrendRunWrong : ChangeSpec := { name := "fnExactTrendRun", fn := fun _ => fun
  | [d1, d2, d3] => { results := [.lit (.bool false)], args := [d1, d2, d3] }
  | _ => none }
def FnExactTrendRunWrongFalsely : Prop := fnExactTrendRunRow.holds Try.pinned (OpenSpec.ofChange fnExactTrendRunWrong)

/-- 'laws.FnExactRanksMiss': WHATEVER THE INPUT: true; the input reads as it did. -/
def fnExactRanksMissSpec : ChangeSpec := { name := "fnExactRanksMiss", fn := fun _ => fun
  | [d1, d2] => { results := [.lit (.bool true)], args := [d1, d2] }
  | _ => none }
def fnExactRanksMissRow : OpenClaim := { program := "ytldaamgohdnjnaa", sum := "9a472c84b58e95b12421d8c1e9acfa702ab7824f0b8b048698b19bdc33801a2f", func := "loop.example/g01375/laws.FnExactRanksMiss", spec := "fnExactRanksMiss", inPlace := ["math.sqrt", "math.Float64bits", "math.Float64frombits"], unfollowed := true, recurses := true, apart := false }
def FnExactRanksMissSaid : Prop := fnExactRanksMissRow.holds Try.pinned (OpenSpec.ofChange fnExactRanksMissSpec)

/-- ITS FALSE NEIGHBOUR: 'it returns false'. Refute it at one input. -/
def fnExactRanksMissWrong : ChangeSpec := { name := "fnExactRanksMiss", fn := fun _ => fun
  | [d1, d2] => { results := [.lit (.bool false)], args := [d1, d2] }
  | _ => none }
def FnExactRanksMissWrongFalsely : Prop := fnExactRanksMissRow.holds Try.pinned (OpenSpec.ofChange fnExactRanksMissWrong)

/-- 'laws.FnExactProfileOf': WHATEVER THE INPUT: true; the input reads as it did. -/
def fnExactProfileOfSpec : ChangeSpec := { name := "fnExactProfileOf", fn := fun _ => fun
  | [d1, d2] => { results := [.lit (.bool true)], args := [d1, d2] }
  | _ => none }
def fnExactProfileOfRow : OpenClaim := { program := "ytldaamgohdnjnaa", sum := "9a472c84b58e95b12421d8c1e9acfa702ab7824f0b8b048698b19bdc33801a2f", func := "loop.example/g01375/laws.FnExactProfileOf", spec := "fnExactProfileOf", inPlace := ["math.sqrt", "math.Float64bits", "math.Float64frombits"], unfollowed := true, recurses := true, apart := false }
def FnExactProfileOfSaid : Prop := fnExactProfileOfRow.holds Try.pinned (OpenSpec.ofChange fnExactProfileOfSpec)

/-- ITS FALSE NEIGHBOUR: 'it returns false'. Refute it at one input. -/
def fnExactProfileOfWrong : ChangeSpec := { name := "fnExactProfileOf", fn := fun _ => fun
  | [d1, d2] => { results := [.lit (.bool false)], args := [d1, d2] }
  | _ => none }
def FnExactProfileOfWrongFalsely : Prop := fnExactProfileOfRow.holds Try.pinned (OpenSpec.ofChange fnExactProfileOfWrong)

/-- 'laws.FnExactMotifOf': WHATEVER THE INPUT: true; the input reads as it did. -/
def fnExactMotifOfSpec : ChangeSpec := { name := "fnExactMotifOf", fn := fun _ => fun
  | [d1, d2] => { results := [.lit (.bool true)], args := [d1, d2] }
  | _ => none }
def fnExactMotifOfRow : OpenClaim := { program := "ytldaamgohdnjnaa", sum := "9a472c84b58e95b12421d8c1e9acfa702ab7824f0b8b048698b19bdc33801a2f", func := "loop.example/g01375/laws.FnExactMotifOf", spec := "fnExactMotifOf", inPlace := ["math.sqrt", "math.Float64bits", "math.Float64frombits"], unfollowed := true, recurses := true, apart := false }
def FnExactMotifOfSaid : Prop := fnExactMotifOfRow.holds Try.pinned (OpenSpec.ofChange fnExactMotifOfSpec)

/-- ITS FALSE NEIGHBOUR: 'it returns false'. Refute it at one input. -/
def fnExactMotifOfWrong : ChangeSpec := { name := "fnExactMotifOf", fn := fun _ => fun
  | [d1, d2] => { results := [.lit (.bool false)], args := [d1, d2] }
  | _ => none }
def FnExactMotifOfWrongFalsely : Prop := fnExactMotifOfRow.holds Try.pinned (OpenSpec.ofChange fnExactMotifOfWrong)

/-- 'laws.FnExactDiscordOf': WHATEVER THE INPUT: true; the input reads as it did. -/
def fnExactDiscordOfSpec : ChangeSpec := { name := "fnExactDiscordOf", fn := fun _ => fun
  | [d1, d2] => { results := [.lit (.bool true)], args := [d1, d2] }
  | _ => none }
def fnExactDiscordOfRow : OpenClaim := { program := "ytldaamgohdnjnaa", sum := "9a472c84b58e95b12421d8c1e9acfa702ab7824f0b8b048698b19bdc33801a2f", func := "loop.example/g01375/laws.FnExactDiscordOf", spec := "fnExactDiscordOf", inPlace := ["math.sqrt", "math.Float64bits", "math.Float64frombits"], unfollowed := true, recurses := true, apart := false }
def FnExactDiscordOfSaid : Prop := fnExactDiscordOfRow.holds Try.pinned (OpenSpec.ofChange fnExactDiscordOfSpec)

/-- ITS FALSE NEIGHBOUR: 'it returns false'. Refute it at one input. -/
def fnExactDiscordOfWrong : ChangeSpec := { name := "fnExactDiscordOf", fn := fun _ => fun
  | [d1, d2] => { results := [.lit (.bool false)], args := [d1, d2] }
  | _ => none }
def FnExactDiscordOfWrongFalsely : Prop := fnExactDiscordOfRow.holds Try.pinned (OpenSpec.ofChange fnExactDiscordOfWrong)

/-- 'laws.FnExactCentersOf': WHATEVER THE INPUT: true; the input reads as it did. -/
def fnExactCentersOfSpec : ChangeSpec := { name := "fnExactCentersOf", fn := fun _ => fun
  | [d1, d2, d3] => { results := [.lit (.bool true)], args := [d1, d2, d3] }
  | _ => none }
def fnExactCentersOfRow : OpenClaim := { program := "ytldaamgohdnjnaa", sum := "9a472c84b58e95b12421d8c1e9acfa702ab7824f0b8b048698b19bdc33801a2f", func := "loop.example/g01375/laws.FnExactCentersOf", spec := "fnExactCentersOf", inPlace := ["math.sqrt", "math.Float64bits", "math.Float64frombits"], unfollowed := true, recurses := true, apart := false }
def FnExactCentersOfSaid : Prop := fnExactCentersOfRow.holds Try.pinned (OpenSpec.ofChange fnExactCentersOfSpec)

/-- ITS FALSE NEIGHBOUR: 'it returns false'. Refute it at one input. -/
def fnExactCentersOfWrong : ChangeSpec := { name := "fnExactCentersOf", fn := fun _ => fun
  | [d1, d2, d3] => { results := [.lit (.bool false)], args := [d1, d2, d3] }
  | _ => none }
def FnExactCentersOfWrongFalsely : Prop := fnExactCentersOfRow.holds Try.pinned (OpenSpec.ofChange fnExactCentersOfWrong)

/-- 'laws.FnExactSameSaved': WHATEVER THE INPUT: true; the input reads as it did. -/
def fnExactSameSavedSpec : ChangeSpec := { name := "fnExactSameSaved", fn := fun _ => fun
  | [d1, d2] => { results := [.lit (.bool true)], args := [d1, d2] }
  | _ => none }
def fnExactSameSavedRow : OpenClaim := { program := "ytldaamgohdnjnaa", sum := "9a472c84b58e95b12421d8c1e9acfa702ab7824f0b8b048698b19bdc33801a2f", func := "loop.example/g01375/laws.FnExactSameSaved", spec := "fnExactSameSaved", inPlace := ["math.Float32bits"], unfollowed := true, recurses := true, apart := false }
def FnExactSameSavedSaid : Prop := fnExactSameSavedRow.holds Try.pinned (OpenSpec.ofChange fnExactSameSavedSpec)

/-- ITS FALSE NEIGHBOUR: 'it returns false'. Refute it at one input. -/
def fnExactSameSavedWrong : ChangeSpec := { name := "fnExactSameSaved", fn := fun _ => fun
  | [d1, d2] => { results := [.lit (.bool false)], args := [d1, d2] }
  | _ => none }
def FnExactSameSavedWrongFalsely : Prop := fnExactSameSavedRow.holds Try.pinned (OpenSpec.ofChange fnExactSameSavedWrong)

/-- 'laws.FnExactStoreSaved': WHATEVER THE INPUT: true; the input reads as it did. -/
def fnExactStoreSavedSpec : ChangeSpec := { name := "fnExactStoreSaved", fn := fun _ => fun
  | [d] => { results := [.lit (.bool true)], args := [d] }
  | _ => none }
def fnExactStoreSavedRow : OpenClaim := { program := "ytldaamgohdnjnaa", sum := "9a472c84b58e95b12421d8c1e9acfa702ab7824f0b8b048698b19bdc33801a2f", func := "loop.example/g01375/laws.FnExactStoreSaved", spec := "fnExactStoreSaved", inPlace := ["math.Float32bits", "math.Float64bits", "math.Float64frombits"], apart := false }
def FnExactStoreSavedSaid : Prop := fnExactStoreSavedRow.holds Try.pinned (OpenSpec.ofChange fnExactStoreSavedSpec)

/-- ITS FALSE NEIGHBOUR: 'it returns false'. Refute it at one input. -/
def fnExactStoreSavedWrong : ChangeSpec := { name := "fnExactStoreSaved", fn := fun _ => fun
  | [d] => { results := [.lit (.bool false)], args := [d] }
  | _ => none }
def FnExactStoreSavedWrongFalsely : Prop := fnExactStoreSavedRow.holds Try.pinned (OpenSpec.ofChange fnExactStoreSavedWrong)

/- THE SECOND FORM. 'bulk': how many values and letters a reading holds, each counted each time it is reached (what is shared counts as often as it is met; a slice's spare places count too). A statement '..UptoSaid' is the law's where the arguments, and the package variables that the reading takes, are together of bulk at most 1048576: NARROWER than '..Said'. Prove '..Said' where nothing that the law and all that it calls make is longer than what came in: it says more and counts as full. Else prove '..UptoSaid'. A law counts once. -/
mutual
def uptoBulk {H : Type} : DataW H → Nat
  | .lit (.string bytes) => bytes.length + 1
  | .lit _ => 1
  | .nil => 1
  | .ptr d => uptoBulk d + 1
  | .slice elems spare => uptoBulkAll elems + uptoBulkAll spare + 1
  | .agg parts => uptoBulkAll parts + 1
  | .iface _ d => uptoBulk d + 1
  | .map entries => uptoBulkEntries entries + 1
  | .held _ => 1
def uptoBulkAll {H : Type} : List (DataW H) → Nat
  | [] => 0
  | d :: r => uptoBulk d + uptoBulkAll r
def uptoBulkEntries {H : Type} : List (Lit × DataW H) → Nat
  | [] => 0
  | x :: r => uptoBulkEntry x + uptoBulkEntries r
def uptoBulkEntry {H : Type} : Lit × DataW H → Nat
  | (.string bytes, d) => bytes.length + uptoBulk d + 1
  | (_, d) => uptoBulk d + 1
 end
def uptoSmall : (H : Type) → List (DataW H) → Bool := fun _ ds => decide (uptoBulkAll ds ≤ 1048576)
def OpenSpec.upto (s : _root_.Go.ChangeSpec) : _root_.Go.OpenSpec := { _root_.Go.OpenSpec.ofChange s with cond := some uptoSmall }

/-- 'laws.FnExactLagColumns', WHERE WHAT IT READS IS OF BULK AT MOST 1048576: true; the input reads as it did. -/
def fnExactLagColumnsUptoRow : OpenClaim := { program := "ytldaamgohdnjnaa", sum := "9a472c84b58e95b12421d8c1e9acfa702ab7824f0b8b048698b19bdc33801a2f", func := "loop.example/g01375/laws.FnExactLagColumns", spec := "fnExactLagColumns", inPlace := ["math.Float64bits", "math.Float64frombits"], apart := false, narrowed := true }
def FnExactLagColumnsUptoSaid : Prop := fnExactLagColumnsUptoRow.holds Try.pinned (OpenSpec.upto fnExactLagColumnsSpec)

/-- 'laws.FnExactDrawnSeries', WHERE WHAT IT READS IS OF BULK AT MOST 1048576: true; the input reads as it did. -/
def fnExactDrawnSeriesUptoRow : OpenClaim := { program := "ytldaamgohdnjnaa", sum := "9a472c84b58e95b12421d8c1e9acfa702ab7824f0b8b048698b19bdc33801a2f", func := "loop.example/g01375/laws.FnExactDrawnSeries", spec := "fnExactDrawnSeries", inPlace := ["math.Float64bits", "math.Float64frombits"], unfollowed := true, recurses := true, apart := false, narrowed := true }
def FnExactDrawnSeriesUptoSaid : Prop := fnExactDrawnSeriesUptoRow.holds Try.pinned (OpenSpec.upto fnExactDrawnSeriesSpec)

/-- 'laws.FnExactLevelRun', WHERE WHAT IT READS IS OF BULK AT MOST 1048576: true; the input reads as it did. -/
def fnExactLevelRunUptoRow : OpenClaim := { program := "ytldaamgohdnjnaa", sum := "9a472c84b58e95b12421d8c1e9acfa702ab7824f0b8b048698b19bdc33801a2f", func := "loop.example/g01375/laws.FnExactLevelRun", spec := "fnExactLevelRun", inPlace := ["math.Float64frombits", "math.Float64bits"], unfollowed := true, recurses := true, apart := false, narrowed := true }
def FnExactLevelRunUptoSaid : Prop := fnExactLevelRunUptoRow.holds Try.pinned (OpenSpec.upto fnExactLevelRunSpec)

/-- 'laws.FnExactLevelBack', WHERE WHAT IT READS IS OF BULK AT MOST 1048576: true; the input reads as it did. -/
def fnExactLevelBackUptoRow : OpenClaim := { program := "ytldaamgohdnjnaa", sum := "9a472c84b58e95b12421d8c1e9acfa702ab7824f0b8b048698b19bdc33801a2f", func := "loop.example/g01375/laws.FnExactLevelBack", spec := "fnExactLevelBack", inPlace := ["math.Float64frombits", "math.Float64bits"], unfollowed := true, recurses := true, apart := false, narrowed := true }
def FnExactLevelBackUptoSaid : Prop := fnExactLevelBackUptoRow.holds Try.pinned (OpenSpec.upto fnExactLevelBackSpec)

/-- 'laws.FnExactTrendRun', WHERE WHAT IT READS IS OF BULK AT MOST 1048576: true; the input reads as it did. -/
def fnExactTrendRunUptoRow : OpenClaim := { program := "ytldaamgohdnjnaa", sum := "9a472c84b58e95b12421d8c1e9acfa702ab7824f0b8b048698b19bdc33801a2f", func := "loop.example/g01375/laws.FnExactTrendRun", spec := "fnExactTrendRun", inPlace := ["math.Float64bits", "math.Float64frombits"], unfollowed := true, recurses := true, apart := false, narrowed := true }
def FnExactTrendRunUptoSaid : Prop := fnExactTrendRunUptoRow.holds Try.pinned (OpenSpec.upto fnExactTrendRunSpec)

/-- 'laws.FnExactRanksMiss', WHERE WHAT IT READS IS OF BULK AT MOST 1048576: true; the input reads as it did. -/
def fnExactRanksMissUptoRow : OpenClaim := { program := "ytldaamgohdnjnaa", sum := "9a472c84b58e95b12421d8c1e9acfa702ab7824f0b8b048698b19bdc33801a2f", func := "loop.example/g01375/laws.FnExactRanksMiss", spec := "fnExactRanksMiss", inPlace := ["math.sqrt", "math.Float64bits", "math.Float64frombits"], unfollowed := true, recurses := true, apart := false, narrowed := true }
def FnExactRanksMissUptoSaid : Prop := fnExactRanksMissUptoRow.holds Try.pinned (OpenSpec.upto fnExactRanksMissSpec)

/-- 'laws.FnExactProfileOf', WHERE WHAT IT READS IS OF BULK AT MOST 1048576: true; the input reads as it did. -/
def fnExactProfileOfUptoRow : OpenClaim := { program := "ytldaamgohdnjnaa", sum := "9a472c84b58e95b12421d8c1e9acfa702ab7824f0b8b048698b19bdc33801a2f", func := "loop.example/g01375/laws.FnExactProfileOf", spec := "fnExactProfileOf", inPlace := ["math.sqrt", "math.Float64bits", "math.Float64frombits"], unfollowed := true, recurses := true, apart := false, narrowed := true }
def FnExactProfileOfUptoSaid : Prop := fnExactProfileOfUptoRow.holds Try.pinned (OpenSpec.upto fnExactProfileOfSpec)

/-- 'laws.FnExactMotifOf', WHERE WHAT IT READS IS OF BULK AT MOST 1048576: true; the input reads as it did. -/
def fnExactMotifOfUptoRow : OpenClaim := { program := "ytldaamgohdnjnaa", sum := "9a472c84b58e95b12421d8c1e9acfa702ab7824f0b8b048698b19bdc33801a2f", func := "loop.example/g01375/laws.FnExactMotifOf", spec := "fnExactMotifOf", inPlace := ["math.sqrt", "math.Float64bits", "math.Float64frombits"], unfollowed := true, recurses := true, apart := false, narrowed := true }
def FnExactMotifOfUptoSaid : Prop := fnExactMotifOfUptoRow.holds Try.pinned (OpenSpec.upto fnExactMotifOfSpec)

/-- 'laws.FnExactDiscordOf', WHERE WHAT IT READS IS OF BULK AT MOST 1048576: true; the input reads as it did. -/
def fnExactDiscordOfUptoRow : OpenClaim := { program := "ytldaamgohdnjnaa", sum := "9a472c84b58e95b12421d8c1e9acfa702ab7824f0b8b048698b19bdc33801a2f", func := "loop.example/g01375/laws.FnExactDiscordOf", spec := "fnExactDiscordOf", inPlace := ["math.sqrt", "math.Float64bits", "math.Float64frombits"], unfollowed := true, recurses := true, apart := false, narrowed := true }
def FnExactDiscordOfUptoSaid : Prop := fnExactDiscordOfUptoRow.holds Try.pinned (OpenSpec.upto fnExactDiscordOfSpec)

/-- 'laws.FnExactCentersOf', WHERE WHAT IT READS IS OF BULK AT MOST 1048576: true; the input reads as it did. -/
def fnExactCentersOfUptoRow : OpenClaim := { program := "ytldaamgohdnjnaa", sum := "9a472c84b58e95b12421d8c1e9acfa702ab7824f0b8b048698b19bdc33801a2f", func := "loop.example/g01375/laws.FnExactCentersOf", spec := "fnExactCentersOf", inPlace := ["math.sqrt", "math.Float64bits", "math.Float64frombits"], unfollowed := true, recurses := true, apart := false, narrowed := true }
def FnExactCentersOfUptoSaid : Prop := fnExactCentersOfUptoRow.holds Try.pinned (OpenSpec.upto fnExactCentersOfSpec)

/-- 'laws.FnExactSameSaved', WHERE WHAT IT READS IS OF BULK AT MOST 1048576: true; the input reads as it did. -/
def fnExactSameSavedUptoRow : OpenClaim := { program := "ytldaamgohdnjnaa", sum := "9a472c84b58e95b12421d8c1e9acfa702ab7824f0b8b048698b19bdc33801a2f", func := "loop.example/g01375/laws.FnExactSameSaved", spec := "fnExactSameSaved", inPlace := ["math.Float32bits"], unfollowed := true, recurses := true, apart := false, narrowed := true }
def FnExactSameSavedUptoSaid : Prop := fnExactSameSavedUptoRow.holds Try.pinned (OpenSpec.upto fnExactSameSavedSpec)

/-- 'laws.FnExactStoreSaved', WHERE WHAT IT READS IS OF BULK AT MOST 1048576: true; the input reads as it did. -/
def fnExactStoreSavedUptoRow : OpenClaim := { program := "ytldaamgohdnjnaa", sum := "9a472c84b58e95b12421d8c1e9acfa702ab7824f0b8b048698b19bdc33801a2f", func := "loop.example/g01375/laws.FnExactStoreSaved", spec := "fnExactStoreSaved", inPlace := ["math.Float32bits", "math.Float64bits", "math.Float64frombits"], apart := false, narrowed := true }
def FnExactStoreSavedUptoSaid : Prop := fnExactStoreSavedUptoRow.holds Try.pinned (OpenSpec.upto fnExactStoreSavedSpec)

end Rows
end Go.Proofs.Ytldaamgohdnjnaa
