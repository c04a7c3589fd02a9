/-
  No cell of these rows narrows 'for every input' (looked for: loops, veiled, ifaces, maps, wideKeys, modest, calm, conditions, laid).
  DERIVED. THE GIVEN ROWS OF THIS SEAT. 12 by the template 'for every input the law returns true; each argument reads behind the call as it read before'; 0 by the template 'total and deterministic' (their statements: YthlpmbddpenpmaaTotals.lean).
  GIVEN WITH THE SEED: the statements are not yours to turn. If you find one false, say at which input.
  Laid BY PROGRAM, IN A SANDBOX (cutbox-rows.mjs): the forced cells as the released guide's own fill.sh prints them over the translation 223d2f525c8761bd… (all of the seat's roots in one cut). By AI agents, Wed Nov 11 2026. No macro, syntax, notation, axiom, sorry.
-/
import Derived.Test.YthlpmbddpenpmaaChecked
import GoSem.Claim
import GoSem.ClaimJoined
import GoSem.ClaimMapViews
import Derived.JoinedTies
import Derived.KernelRfl
namespace Go.Proofs.Ythlpmbddpenpmaa
/- THE CELL 'sum', in the pinned program and in every row, IS THE sha256 OF THE DUMP (.gsa) THAT YthlpmbddpenpmaaProg.lean LOADS. Nothing in Lean hashes anything: it is a label: what it is worth is what the hold of that sum in a sandbox is worth. -/
noncomputable def Try.pinned : Pinned := { name := "ythlpmbddpenpmaa", sum := "223d2f525c8761bd7cf70ff0413f9aec0a452bff26ceb54a827ebe5f75cec3ee", checked := Try.checked }
namespace Rows
def none {H : Type} : Left H := { results := [], args := [] }

/-- 'laws.FnExactMeanMiss': WHATEVER THE INPUT: true; the input reads as it did. -/
def fnExactMeanMissSpec : ChangeSpec := { name := "fnExactMeanMiss", fn := fun _ => fun
  | [d1, d2] => { results := [.lit (.bool true)], args := [d1, d2] }
  | _ => none }
def fnExactMeanMissRow : OpenClaim := { program := "ythlpmbddpenpmaa", sum := "223d2f525c8761bd7cf70ff0413f9aec0a452bff26ceb54a827ebe5f75cec3ee", func := "loop.example/g01375/laws.FnExactMeanMiss", spec := "fnExactMeanMiss", inPlace := ["math.Float64bits", "math.Float64frombits"], unfollowed := true, recurses := true, apart := false }
def FnExactMeanMissSaid : Prop := fnExactMeanMissRow.holds Try.pinned (OpenSpec.ofChange fnExactMeanMissSpec)

/-- ITS FALSE NEIGHBOUR: 'it returns false'. Refute it at one input. -/
def fnExactMeanMissWrong : ChangeSpec := { name := "fnExactMeanMiss", fn := fun _ => fun
  | [d1, d2] => { results := [.lit (.bool false)], args := [d1, d2] }
  | _ => none }
def FnExactMeanMissWrongFalsely : Prop := fnExactMeanMissRow.holds Try.pinned (OpenSpec.ofChange fnExactMeanMissWrong)

/-- 'laws.FnExactSizeMiss': WHATEVER THE INPUT: true; the input reads as it did. -/
def fnExactSizeMissSpec : ChangeSpec := { name := "fnExactSizeMiss", fn := fun _ => fun
  | [d1, d2] => { results := [.lit (.bool true)], args := [d1, d2] }
  | _ => none }
def fnExactSizeMissRow : OpenClaim := { program := "ythlpmbddpenpmaa", sum := "223d2f525c8761bd7cf70ff0413f9aec0a452bff26ceb54a827ebe5f75cec3ee", func := "loop.example/g01375/laws.FnExactSizeMiss", spec := "fnExactSizeMiss", inPlace := ["math.Float64bits", "math.Float64frombits"], unfollowed := true, recurses := true, apart := false }
def FnExactSizeMissSaid : Prop := fnExactSizeMissRow.holds Try.pinned (OpenSpec.ofChange fnExactSizeMissSpec)

/-- ITS FALSE NEIGHBOUR: 'it returns false'. Refute it at one input. -/
def fnExactSizeMissWrong : ChangeSpec := { name := "fnExactSizeMiss", fn := fun _ => fun
  | [d1, d2] => { results := [.lit (.bool false)], args := [d1, d2] }
  | _ => none }
def FnExactSizeMissWrongFalsely : Prop := fnExactSizeMissRow.holds Try.pinned (OpenSpec.ofChange fnExactSizeMissWrong)

/-- 'laws.FnExactRootMiss': WHATEVER THE INPUT: true; the input reads as it did. -/
def fnExactRootMissSpec : ChangeSpec := { name := "fnExactRootMiss", fn := fun _ => fun
  | [d1, d2] => { results := [.lit (.bool true)], args := [d1, d2] }
  | _ => none }
def fnExactRootMissRow : OpenClaim := { program := "ythlpmbddpenpmaa", sum := "223d2f525c8761bd7cf70ff0413f9aec0a452bff26ceb54a827ebe5f75cec3ee", func := "loop.example/g01375/laws.FnExactRootMiss", spec := "fnExactRootMiss", inPlace := ["math.sqrt", "math.Float64bits", "math.Float64frombits"], unfollowed := true, recurses := true, apart := false }
def FnExactRootMissSaid : Prop := fnExactRootMissRow.holds Try.pinned (OpenSpec.ofChange fnExactRootMissSpec)

/-- ITS FALSE NEIGHBOUR: 'it returns false'. Refute it at one input. -/
def fnExactRootMissWrong : ChangeSpec := { name := "fnExactRootMiss", fn := fun _ => fun
  | [d1, d2] => { results := [.lit (.bool false)], args := [d1, d2] }
  | _ => none }
def FnExactRootMissWrongFalsely : Prop := fnExactRootMissRow.holds Try.pinned (OpenSpec.ofChange fnExactRootMissWrong)

/-- 'laws.FnExactShareMiss': WHATEVER THE INPUT: true; the input reads as it did. -/
def fnExactShareMissSpec : ChangeSpec := { name := "fnExactShareMiss", fn := fun _ => fun
  | [d1, d2] => { results := [.lit (.bool true)], args := [d1, d2] }
  | _ => none }
def fnExactShareMissRow : OpenClaim := { program := "ythlpmbddpenpmaa", sum := "223d2f525c8761bd7cf70ff0413f9aec0a452bff26ceb54a827ebe5f75cec3ee", func := "loop.example/g01375/laws.FnExactShareMiss", spec := "fnExactShareMiss", inPlace := ["math.Float64bits", "math.Float64frombits"], unfollowed := true, recurses := true, apart := false }
def FnExactShareMissSaid : Prop := fnExactShareMissRow.holds Try.pinned (OpenSpec.ofChange fnExactShareMissSpec)

/-- ITS FALSE NEIGHBOUR: 'it returns false'. Refute it at one input. -/
def fnExactShareMissWrong : ChangeSpec := { name := "fnExactShareMiss", fn := fun _ => fun
  | [d1, d2] => { results := [.lit (.bool false)], args := [d1, d2] }
  | _ => none }
def FnExactShareMissWrongFalsely : Prop := fnExactShareMissRow.holds Try.pinned (OpenSpec.ofChange fnExactShareMissWrong)

/-- 'laws.FnExactScaledMiss': WHATEVER THE INPUT: true; the input reads as it did. -/
def fnExactScaledMissSpec : ChangeSpec := { name := "fnExactScaledMiss", fn := fun _ => fun
  | [d1, d2, d3, d4] => { results := [.lit (.bool true)], args := [d1, d2, d3, d4] }
  | _ => none }
def fnExactScaledMissRow : OpenClaim := { program := "ythlpmbddpenpmaa", sum := "223d2f525c8761bd7cf70ff0413f9aec0a452bff26ceb54a827ebe5f75cec3ee", func := "loop.example/g01375/laws.FnExactScaledMiss", spec := "fnExactScaledMiss", inPlace := ["math.Float64bits", "math.Float64frombits"], unfollowed := true, recurses := true, apart := false }
def FnExactScaledMissSaid : Prop := fnExactScaledMissRow.holds Try.pinned (OpenSpec.ofChange fnExactScaledMissSpec)

/-- ITS FALSE NEIGHBOUR: 'it returns false'. Refute it at one input. -/
def fnExactScaledMissWrong : ChangeSpec := { name := "fnExactScaledMiss", fn := fun _ => fun
  | [d1, d2, d3, d4] => { results := [.lit (.bool false)], args := [d1, d2, d3, d4] }
  | _ => none }
def FnExactScaledMissWrongFalsely : Prop := fnExactScaledMissRow.holds Try.pinned (OpenSpec.ofChange fnExactScaledMissWrong)

/-- 'laws.FnExactQuantileMiss': WHATEVER THE INPUT: true; the input reads as it did. -/
def fnExactQuantileMissSpec : ChangeSpec := { name := "fnExactQuantileMiss", fn := fun _ => fun
  | [d1, d2, d3] => { results := [.lit (.bool true)], args := [d1, d2, d3] }
  | _ => none }
def fnExactQuantileMissRow : OpenClaim := { program := "ythlpmbddpenpmaa", sum := "223d2f525c8761bd7cf70ff0413f9aec0a452bff26ceb54a827ebe5f75cec3ee", func := "loop.example/g01375/laws.FnExactQuantileMiss", spec := "fnExactQuantileMiss", inPlace := ["math.Float64bits", "math.Float64frombits"], unfollowed := true, recurses := true, apart := false }
def FnExactQuantileMissSaid : Prop := fnExactQuantileMissRow.holds Try.pinned (OpenSpec.ofChange fnExactQuantileMissSpec)

/-- ITS FALSE NEIGHBOUR: 'it returns false'. Refute it at one input. -/
def fnExactQuantileMissWrong : ChangeSpec := { name := "fnExactQuantileMiss", fn := fun _ => fun
  | [d1, d2, d3] => { results := [.lit (.bool false)], args := [d1, d2, d3] }
  | _ => none }
def FnExactQuantileMissWrongFalsely : Prop := fnExactQuantileMissRow.holds Try.pinned (OpenSpec.ofChange fnExactQuantileMissWrong)

/-- 'laws.FnExactCoverOf': WHATEVER THE INPUT: true; the input reads as it did. -/
def fnExactCoverOfSpec : ChangeSpec := { name := "fnExactCoverOf", fn := fun _ => fun
  | [d1, d2, d3] => { results := [.lit (.bool true)], args := [d1, d2, d3] }
  | _ => none }
def fnExactCoverOfRow : OpenClaim := { program := "ythlpmbddpenpmaa", sum := "223d2f525c8761bd7cf70ff0413f9aec0a452bff26ceb54a827ebe5f75cec3ee", func := "loop.example/g01375/laws.FnExactCoverOf", spec := "fnExactCoverOf", inPlace := ["math.Float64bits", "math.Float64frombits"], apart := false }
def FnExactCoverOfSaid : Prop := fnExactCoverOfRow.holds Try.pinned (OpenSpec.ofChange fnExactCoverOfSpec)

/-- ITS FALSE NEIGHBOUR: 'it returns false'. Refute it at one input. -/
def fnExactCoverOfWrong : ChangeSpec := { name := "fnExactCoverOf", fn := fun _ => fun
  | [d1, d2, d3] => { results := [.lit (.bool false)], args := [d1, d2, d3] }
  | _ => none }
def FnExactCoverOfWrongFalsely : Prop := fnExactCoverOfRow.holds Try.pinned (OpenSpec.ofChange fnExactCoverOfWrong)

/-- 'laws.FnExactOrderSize': WHATEVER THE INPUT: true; the input reads as it did. -/
def fnExactOrderSizeSpec : ChangeSpec := { name := "fnExactOrderSize", fn := fun _ => fun
  | [d1, d2, d3] => { results := [.lit (.bool true)], args := [d1, d2, d3] }
  | _ => none }
def fnExactOrderSizeRow : OpenClaim := { program := "ythlpmbddpenpmaa", sum := "223d2f525c8761bd7cf70ff0413f9aec0a452bff26ceb54a827ebe5f75cec3ee", func := "loop.example/g01375/laws.FnExactOrderSize", spec := "fnExactOrderSize", inPlace := ["math.sqrt", "math.Float64bits", "math.Float64frombits"], apart := false }
def FnExactOrderSizeSaid : Prop := fnExactOrderSizeRow.holds Try.pinned (OpenSpec.ofChange fnExactOrderSizeSpec)

/-- ITS FALSE NEIGHBOUR: 'it returns false'. Refute it at one input. -/
def fnExactOrderSizeWrong : ChangeSpec := { name := "fnExactOrderSize", fn := fun _ => fun
  | [d1, d2, d3] => { results := [.lit (.bool false)], args := [d1, d2, d3] }
  | _ => none }
def FnExactOrderSizeWrongFalsely : Prop := fnExactOrderSizeRow.holds Try.pinned (OpenSpec.ofChange fnExactOrderSizeWrong)

/-- 'laws.FnExactOrderPoint': WHATEVER THE INPUT: true; the input reads as it did. -/
def fnExactOrderPointSpec : ChangeSpec := { name := "fnExactOrderPoint", fn := fun _ => fun
  | [d1, d2, d3] => { results := [.lit (.bool true)], args := [d1, d2, d3] }
  | _ => none }
def fnExactOrderPointRow : OpenClaim := { program := "ythlpmbddpenpmaa", sum := "223d2f525c8761bd7cf70ff0413f9aec0a452bff26ceb54a827ebe5f75cec3ee", func := "loop.example/g01375/laws.FnExactOrderPoint", spec := "fnExactOrderPoint", inPlace := ["math.sqrt", "math.Float64bits", "math.Float64frombits"], apart := false }
def FnExactOrderPointSaid : Prop := fnExactOrderPointRow.holds Try.pinned (OpenSpec.ofChange fnExactOrderPointSpec)

/-- ITS FALSE NEIGHBOUR: 'it returns false'. Refute it at one input. -/
def fnExactOrderPointWrong : ChangeSpec := { name := "fnExactOrderPoint", fn := fun _ => fun
  | [d1, d2, d3] => { results := [.lit (.bool false)], args := [d1, d2, d3] }
  | _ => none }
def FnExactOrderPointWrongFalsely : Prop := fnExactOrderPointRow.holds Try.pinned (OpenSpec.ofChange fnExactOrderPointWrong)

/-- 'laws.FnExactMeetMiddle': WHATEVER THE INPUT: true; the input reads as it did. -/
def fnExactMeetMiddleSpec : ChangeSpec := { name := "fnExactMeetMiddle", fn := fun _ => fun
  | [d1, d2] => { results := [.lit (.bool true)], args := [d1, d2] }
  | _ => none }
def fnExactMeetMiddleRow : OpenClaim := { program := "ythlpmbddpenpmaa", sum := "223d2f525c8761bd7cf70ff0413f9aec0a452bff26ceb54a827ebe5f75cec3ee", func := "loop.example/g01375/laws.FnExactMeetMiddle", spec := "fnExactMeetMiddle", inPlace := ["math.Float64bits", "math.Float64frombits"], unfollowed := true, recurses := true, apart := false }
def FnExactMeetMiddleSaid : Prop := fnExactMeetMiddleRow.holds Try.pinned (OpenSpec.ofChange fnExactMeetMiddleSpec)

/-- ITS FALSE NEIGHBOUR: 'it returns false'. Refute it at one input. -/
def fnExactMeetMiddleWrong : ChangeSpec := { name := "fnExactMeetMiddle", fn := fun _ => fun
  | [d1, d2] => { results := [.lit (.bool false)], args := [d1, d2] }
  | _ => none }
def FnExactMeetMiddleWrongFalsely : Prop := fnExactMeetMiddleRow.holds Try.pinned (OpenSpec.ofChange fnExactMeetMiddleWrong)

/-- 'laws.FnExactForecastBy': WHATEVER THE INPUT: true; the input reads as it did. -/
def fnExactForecastBySpec : ChangeSpec := { name := "fnExactForecastBy", fn := fun _ => fun
  | [d1, d2, d3, d4] => { results := [.lit (.bool true)], args := [d1, d2, d3, d4] }
  | _ => none }
def fnExactForecastByRow : OpenClaim := { program := "ythlpmbddpenpmaa", sum := "223d2f525c8761bd7cf70ff0413f9aec0a452bff26ceb54a827ebe5f75cec3ee", func := "loop.example/g01375/laws.FnExactForecastBy", spec := "fnExactForecastBy", inPlace := ["math.Float64bits", "math.Float64frombits"], unfollowed := true, recurses := true, apart := false }
def FnExactForecastBySaid : Prop := fnExactForecastByRow.holds Try.pinned (OpenSpec.ofChange fnExactForecastBySpec)

/-- ITS FALSE NEIGHBOUR: 'it returns false'. Refute it at one input. -/
def fnExactForecastByWrong : ChangeSpec := { name := "fnExactForecastBy", fn := fun _ => fun
  | [d1, d2, d3, d4] => { results := [.lit (.bool false)], args := [d1, d2, d3, d4] }
  | _ => none }
def FnExactForecastByWrongFalsely : Prop := fnExactForecastByRow.holds Try.pinned (OpenSpec.ofChange fnExactForecastByWrong)

/-- 'laws.FnExactRollMisses': WHATEVER THE INPUT: true; the input reads as it did. -/
def fnExactRollMissesSpec : ChangeSpec := { name := "fnExactRollMisses", fn := fun _ => fun
  | [d1, d2, d3, d4, d5] => { results := [.lit (.bool true)], args := [d1, d2, d3, d4, d5] }
  | _ => none }
def fnExactRollMissesRow : OpenClaim := { program := "ythlpmbddpenpmaa", sum := "223d2f525c8761bd7cf70ff0413f9aec0a452bff26ceb54a827ebe5f75cec3ee", func := "loop.example/g01375/laws.FnExactRollMisses", spec := "fnExactRollMisses", inPlace := ["math.Float64bits", "math.Float64frombits"], unfollowed := true, recurses := true, apart := false }
def FnExactRollMissesSaid : Prop := fnExactRollMissesRow.holds Try.pinned (OpenSpec.ofChange fnExactRollMissesSpec)

/-- ITS FALSE NEIGHBOUR: 'it returns false'. Refute it at one input. -/
def fnExactRollMissesWrong : ChangeSpec := { name := "fnExactRollMisses", fn := fun _ => fun
  | [d1, d2, d3, d4, d5] => { results := [.lit (.bool false)], args := [d1, d2, d3, d4, d5] }
  | _ => none }
def FnExactRollMissesWrongFalsely : Prop := fnExactRollMissesRow.holds Try.pinned (OpenSpec.ofChange fnExactRollMissesWrong)

/- THE SECOND FORM. 'bulk': how many values and letters a reading holds, each counted each time it is reached (what is shared counts as often as it is met; a slice's spare places count too). A statement '..UptoSaid' is the law's where the arguments, and the package variables that the reading takes, are together of bulk at most 1048576: NARROWER than '..Said'. Prove '..Said' where nothing that the law and all that it calls make is longer than what came in: it says more and counts as full. Else prove '..UptoSaid'. A law counts once. -/
mutual
def uptoBulk {H : Type} : DataW H → Nat
  | .lit (.string bytes) => bytes.length + 1
  | .lit _ => 1
  | .nil => 1
  | .ptr d => uptoBulk d + 1
  | .slice elems spare => uptoBulkAll elems + uptoBulkAll spare + 1
  | .agg parts => uptoBulkAll parts + 1
  | .iface _ d => uptoBulk d + 1
  | .map entries => uptoBulkEntries entries + 1
  | .held _ => 1
def uptoBulkAll {H : Type} : List (DataW H) → Nat
  | [] => 0
  | d :: r => uptoBulk d + uptoBulkAll r
def uptoBulkEntries {H : Type} : List (Lit × DataW H) → Nat
  | [] => 0
  | x :: r => uptoBulkEntry x + uptoBulkEntries r
def uptoBulkEntry {H : Type} : Lit × DataW H → Nat
  | (.string bytes, d) => bytes.length + uptoBulk d + 1
  | (_, d) => uptoBulk d + 1
 end
def uptoSmall : (H : Type) → List (DataW H) → Bool := fun _ ds => decide (uptoBulkAll ds ≤ 1048576)
def OpenSpec.upto (s : _root_.Go.ChangeSpec) : _root_.Go.OpenSpec := { _root_.Go.OpenSpec.ofChange s with cond := some uptoSmall }

/-- 'laws.FnExactMeanMiss', WHERE WHAT IT READS IS OF BULK AT MOST 1048576: true; the input reads as it did. -/
def fnExactMeanMissUptoRow : OpenClaim := { program := "ythlpmbddpenpmaa", sum := "223d2f525c8761bd7cf70ff0413f9aec0a452bff26ceb54a827ebe5f75cec3ee", func := "loop.example/g01375/laws.FnExactMeanMiss", spec := "fnExactMeanMiss", inPlace := ["math.Float64bits", "math.Float64frombits"], unfollowed := true, recurses := true, apart := false, narrowed := true }
def FnExactMeanMissUptoSaid : Prop := fnExactMeanMissUptoRow.holds Try.pinned (OpenSpec.upto fnExactMeanMissSpec)

/-- 'laws.FnExactSizeMiss', WHERE WHAT IT READS IS OF BULK AT MOST 1048576: true; the input reads as it did. -/
def fnExactSizeMissUptoRow : OpenClaim := { program := "ythlpmbddpenpmaa", sum := "223d2f525c8761bd7cf70ff0413f9aec0a452bff26ceb54a827ebe5f75cec3ee", func := "loop.example/g01375/laws.FnExactSizeMiss", spec := "fnExactSizeMiss", inPlace := ["math.Float64bits", "math.Float64frombits"], unfollowed := true, recurses := true, apart := false, narrowed := true }
def FnExactSizeMissUptoSaid : Prop := fnExactSizeMissUptoRow.holds Try.pinned (OpenSpec.upto fnExactSizeMissSpec)

/-- 'laws.FnExactRootMiss', WHERE WHAT IT READS IS OF BULK AT MOST 1048576: true; the input reads as it did. -/
def fnExactRootMissUptoRow : OpenClaim := { program := "ythlpmbddpenpmaa", sum := "223d2f525c8761bd7cf70ff0413f9aec0a452bff26ceb54a827ebe5f75cec3ee", func := "loop.example/g01375/laws.FnExactRootMiss", spec := "fnExactRootMiss", inPlace := ["math.sqrt", "math.Float64bits", "math.Float64frombits"], unfollowed := true, recurses := true, apart := false, narrowed := true }
def FnExactRootMissUptoSaid : Prop := fnExactRootMissUptoRow.holds Try.pinned (OpenSpec.upto fnExactRootMissSpec)

/-- 'laws.FnExactShareMiss', WHERE WHAT IT READS IS OF BULK AT MOST 1048576: true; the input reads as it did. -/
def fnExactShareMissUptoRow : OpenClaim := { program := "ythlpmbddpenpmaa", sum := "223d2f525c8761bd7cf70ff0413f9aec0a452bff26ceb54a827ebe5f75cec3ee", func := "loop.example/g01375/laws.FnExactShareMiss", spec := "fnExactShareMiss", inPlace := ["math.Float64bits", "math.Float64frombits"], unfollowed := true, recurses := true, apart := false, narrowed := true }
def FnExactShareMissUptoSaid : Prop := fnExactShareMissUptoRow.holds Try.pinned (OpenSpec.upto fnExactShareMissSpec)

/-- 'laws.FnExactScaledMiss', WHERE WHAT IT READS IS OF BULK AT MOST 1048576: true; the input reads as it did. -/
def fnExactScaledMissUptoRow : OpenClaim := { program := "ythlpmbddpenpmaa", sum := "223d2f525c8761bd7cf70ff0413f9aec0a452bff26ceb54a827ebe5f75cec3ee", func := "loop.example/g01375/laws.FnExactScaledMiss", spec := "fnExactScaledMiss", inPlace := ["math.Float64bits", "math.Float64frombits"], unfollowed := true, recurses := true, apart := false, narrowed := true }
def FnExactScaledMissUptoSaid : Prop := fnExactScaledMissUptoRow.holds Try.pinned (OpenSpec.upto fnExactScaledMissSpec)

/-- 'laws.FnExactQuantileMiss', WHERE WHAT IT READS IS OF BULK AT MOST 1048576: true; the input reads as it did. -/
def fnExactQuantileMissUptoRow : OpenClaim := { program := "ythlpmbddpenpmaa", sum := "223d2f525c8761bd7cf70ff0413f9aec0a452bff26ceb54a827ebe5f75cec3ee", func := "loop.example/g01375/laws.FnExactQuantileMiss", spec := "fnExactQuantileMiss", inPlace := ["math.Float64bits", "math.Float64frombits"], unfollowed := true, recurses := true, apart := false, narrowed := true }
def FnExactQuantileMissUptoSaid : Prop := fnExactQuantileMissUptoRow.holds Try.pinned (OpenSpec.upto fnExactQuantileMissSpec)

/-- 'laws.FnExactCoverOf', WHERE WHAT IT READS IS OF BULK AT MOST 1048576: true; the input reads as it did. -/
def fnExactCoverOfUptoRow : OpenClaim := { program := "ythlpmbddpenpmaa", sum := "223d2f525c8761bd7cf70ff0413f9aec0a452bff26ceb54a827ebe5f75cec3ee", func := "loop.example/g01375/laws.FnExactCoverOf", spec := "fnExactCoverOf", inPlace := ["math.Float64bits", "math.Float64frombits"], apart := false, narrowed := true }
def FnExactCoverOfUptoSaid : Prop := fnExactCoverOfUptoRow.holds Try.pinned (OpenSpec.upto fnExactCoverOfSpec)

/-- 'laws.FnExactOrderSize', WHERE WHAT IT READS IS OF BULK AT MOST 1048576: true; the input reads as it did. -/
def fnExactOrderSizeUptoRow : OpenClaim := { program := "ythlpmbddpenpmaa", sum := "223d2f525c8761bd7cf70ff0413f9aec0a452bff26ceb54a827ebe5f75cec3ee", func := "loop.example/g01375/laws.FnExactOrderSize", spec := "fnExactOrderSize", inPlace := ["math.sqrt", "math.Float64bits", "math.Float64frombits"], apart := false, narrowed := true }
def FnExactOrderSizeUptoSaid : Prop := fnExactOrderSizeUptoRow.holds Try.pinned (OpenSpec.upto fnExactOrderSizeSpec)

/-- 'laws.FnExactOrderPoint', WHERE WHAT IT READS IS OF BULK AT MOST 1048576: true; the input reads as it did. -/
def fnExactOrderPointUptoRow : OpenClaim := { program := "ythlpmbddpenpmaa", sum := "223d2f525c8761bd7cf70ff0413f9aec0a452bff26ceb54a827ebe5f75cec3ee", func := "loop.example/g01375/laws.FnExactOrderPoint", spec := "fnExactOrderPoint", inPlace := ["math.sqrt", "math.Float64bits", "math.Float64frombits"], apart := false, narrowed := true }
def FnExactOrderPointUptoSaid : Prop := fnExactOrderPointUptoRow.holds Try.pinned (OpenSpec.upto fnExactOrderPointSpec)

/-- 'laws.FnExactMeetMiddle', WHERE WHAT IT READS IS OF BULK AT MOST 1048576: true; the input reads as it did. -/
def fnExactMeetMiddleUptoRow : OpenClaim := { program := "ythlpmbddpenpmaa", sum := "223d2f525c8761bd7cf70ff0413f9aec0a452bff26ceb54a827ebe5f75cec3ee", func := "loop.example/g01375/laws.FnExactMeetMiddle", spec := "fnExactMeetMiddle", inPlace := ["math.Float64bits", "math.Float64frombits"], unfollowed := true, recurses := true, apart := false, narrowed := true }
def FnExactMeetMiddleUptoSaid : Prop := fnExactMeetMiddleUptoRow.holds Try.pinned (OpenSpec.upto fnExactMeetMiddleSpec)

/-- 'laws.FnExactForecastBy', WHERE WHAT IT READS IS OF BULK AT MOST 1048576: true; the input reads as it did. -/
def fnExactForecastByUptoRow : OpenClaim := { program := "ythlpmbddpenpmaa", sum := "223d2f525c8761bd7cf70ff0413f9aec0a452bff26ceb54a827ebe5f75cec3ee", func := "loop.example/g01375/laws.FnExactForecastBy", spec := "fnExactForecastBy", inPlace := ["math.Float64bits", "math.Float64frombits"], unfollowed := true, recurses := true, apart := false, narrowed := true }
def FnExactForecastByUptoSaid : Prop := fnExactForecastByUptoRow.holds Try.pinned (OpenSpec.upto fnExactForecastBySpec)

/-- 'laws.FnExactRollMisses', WHERE WHAT IT READS IS OF BULK AT MOST 1048576: true; the input reads as it did. -/
def fnExactRollMissesUptoRow : OpenClaim := { program := "ythlpmbddpenpmaa", sum := "223d2f525c8761bd7cf70ff0413f9aec0a452bff26ceb54a827ebe5f75cec3ee", func := "loop.example/g01375/laws.FnExactRollMisses", spec := "fnExactRollMisses", inPlace := ["math.Float64bits", "math.Float64frombits"], unfollowed := true, recurses := true, apart := false, narrowed := true }
def FnExactRollMissesUptoSaid : Prop := fnExactRollMissesUptoRow.holds Try.pinned (OpenSpec.upto fnExactRollMissesSpec)

end Rows
end Go.Proofs.Ythlpmbddpenpmaa
