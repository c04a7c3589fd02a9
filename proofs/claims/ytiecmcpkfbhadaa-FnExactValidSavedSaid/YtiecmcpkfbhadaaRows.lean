/-
  No cell of these rows narrows 'for every input' (looked for: loops, veiled, ifaces, maps, wideKeys, modest, calm, conditions, laid).
  DERIVED. THE GIVEN ROWS OF THIS SEAT. 12 by the template 'for every input the law returns true; each argument reads behind the call as it read before'; 0 by the template 'total and deterministic' (their statements: YtiecmcpkfbhadaaTotals.lean).
  GIVEN WITH THE SEED: the statements are not yours to turn. If you find one false, say at which input.
  Laid BY PROGRAM, IN A SANDBOX (cutbox-rows.mjs): the forced cells as the released guide's own fill.sh prints them over the translation ce1945f3e1304f19… (all of the seat's roots in one cut). By AI agents, Wed Nov 11 2026. No macro, syntax, notation, axiom, sorry.
-/
import Derived.Test.YtiecmcpkfbhadaaChecked
import GoSem.Claim
import GoSem.ClaimJoined
import GoSem.ClaimMapViews
import Derived.JoinedTies
import Derived.KernelRfl
namespace Go.Proofs.Ytiecmcpkfbhadaa
/- THE CELL 'sum', in the pinned program and in every row, IS THE sha256 OF THE DUMP (.gsa) THAT YtiecmcpkfbhadaaProg.lean LOADS. Nothing in Lean hashes anything: it is a label: what it is worth is what the hold of that sum in a sandbox is worth. -/
noncomputable def Try.pinned : Pinned := { name := "ytiecmcpkfbhadaa", sum := "ce1945f3e1304f1900f583cb6698d71dda812ca78f77f1a0c130cbdfcfd73715", checked := Try.checked }
namespace Rows
def none {H : Type} : Left H := { results := [], args := [] }

/-- 'laws.FnExactValidSaved': WHATEVER THE INPUT: true; the input reads as it did. -/
def fnExactValidSavedSpec : ChangeSpec := { name := "fnExactValidSaved", fn := fun _ => fun
  | [d] => { results := [.lit (.bool true)], args := [d] }
  | _ => none }
def fnExactValidSavedRow : OpenClaim := { program := "ytiecmcpkfbhadaa", sum := "ce1945f3e1304f1900f583cb6698d71dda812ca78f77f1a0c130cbdfcfd73715", func := "loop.example/g01375/laws.FnExactValidSaved", spec := "fnExactValidSaved", inPlace := ["math.Float64bits", "math.Float64frombits"], apart := false }
def FnExactValidSavedSaid : Prop := fnExactValidSavedRow.holds Try.pinned (OpenSpec.ofChange fnExactValidSavedSpec)

/-- ITS FALSE NEIGHBOUR: 'it returns false'. Refute it at one input. -/
def fnExactValidSavedWrong : ChangeSpec := { name := "fnExactValidSaved", fn := fun _ => fun
  | [d] => { results := [.lit (.bool false)], args := [d] }
  | _ => none }
def FnExactValidSavedWrongFalsely : Prop := fnExactValidSavedRow.holds Try.pinned (OpenSpec.ofChange fnExactValidSavedWrong)

/-- 'laws.FnExactSameSaved': WHATEVER THE INPUT: true; the input reads as it did. -/
def fnExactSameSavedSpec : ChangeSpec := { name := "fnExactSameSaved", fn := fun _ => fun
  | [d1, d2] => { results := [.lit (.bool true)], args := [d1, d2] }
  | _ => none }
def fnExactSameSavedRow : OpenClaim := { program := "ytiecmcpkfbhadaa", sum := "ce1945f3e1304f1900f583cb6698d71dda812ca78f77f1a0c130cbdfcfd73715", func := "loop.example/g01375/laws.FnExactSameSaved", spec := "fnExactSameSaved", inPlace := ["math.Float32bits"], unfollowed := true, recurses := true, apart := false }
def FnExactSameSavedSaid : Prop := fnExactSameSavedRow.holds Try.pinned (OpenSpec.ofChange fnExactSameSavedSpec)

/-- ITS FALSE NEIGHBOUR: 'it returns false'. Refute it at one input. -/
def fnExactSameSavedWrong : ChangeSpec := { name := "fnExactSameSaved", fn := fun _ => fun
  | [d1, d2] => { results := [.lit (.bool false)], args := [d1, d2] }
  | _ => none }
def FnExactSameSavedWrongFalsely : Prop := fnExactSameSavedRow.holds Try.pinned (OpenSpec.ofChange fnExactSameSavedWrong)

/-- 'laws.FnExactWarpWay': WHATEVER THE INPUT: true; the input reads as it did. -/
def fnExactWarpWaySpec : ChangeSpec := { name := "fnExactWarpWay", fn := fun _ => fun
  | [d1, d2, d3] => { results := [.lit (.bool true)], args := [d1, d2, d3] }
  | _ => none }
def fnExactWarpWayRow : OpenClaim := { program := "ytiecmcpkfbhadaa", sum := "ce1945f3e1304f1900f583cb6698d71dda812ca78f77f1a0c130cbdfcfd73715", func := "loop.example/g01375/laws.FnExactWarpWay", spec := "fnExactWarpWay", inPlace := ["math.Float64bits", "math.Float64frombits"], unfollowed := true, recurses := true, apart := false }
def FnExactWarpWaySaid : Prop := fnExactWarpWayRow.holds Try.pinned (OpenSpec.ofChange fnExactWarpWaySpec)

/-- ITS FALSE NEIGHBOUR: 'it returns false'. Refute it at one input. -/
def fnExactWarpWayWrong : ChangeSpec := { name := "fnExactWarpWay", fn := fun _ => fun
  | [d1, d2, d3] => { results := [.lit (.bool false)], args := [d1, d2, d3] }
  | _ => none }
def FnExactWarpWayWrongFalsely : Prop := fnExactWarpWayRow.holds Try.pinned (OpenSpec.ofChange fnExactWarpWayWrong)

/-- 'laws.FnExactProfileOf': WHATEVER THE INPUT: true; the input reads as it did. -/
def fnExactProfileOfSpec : ChangeSpec := { name := "fnExactProfileOf", fn := fun _ => fun
  | [d1, d2] => { results := [.lit (.bool true)], args := [d1, d2] }
  | _ => none }
def fnExactProfileOfRow : OpenClaim := { program := "ytiecmcpkfbhadaa", sum := "ce1945f3e1304f1900f583cb6698d71dda812ca78f77f1a0c130cbdfcfd73715", func := "loop.example/g01375/laws.FnExactProfileOf", spec := "fnExactProfileOf", inPlace := ["math.sqrt", "math.Float64bits", "math.Float64frombits"], unfollowed := true, recurses := true, apart := false }
def FnExactProfileOfSaid : Prop := fnExactProfileOfRow.holds Try.pinned (OpenSpec.ofChange fnExactProfileOfSpec)

/-- ITS FALSE NEIGHBOUR: 'it returns false'. Refute it at one input. -/
def fnExactProfileOfWrong : ChangeSpec := { name := "fnExactProfileOf", fn := fun _ => fun
  | [d1, d2] => { results := [.lit (.bool false)], args := [d1, d2] }
  | _ => none }
def FnExactProfileOfWrongFalsely : Prop := fnExactProfileOfRow.holds Try.pinned (OpenSpec.ofChange fnExactProfileOfWrong)

/-- 'laws.FnExactMotifOf': WHATEVER THE INPUT: true; the input reads as it did. -/
def fnExactMotifOfSpec : ChangeSpec := { name := "fnExactMotifOf", fn := fun _ => fun
  | [d1, d2] => { results := [.lit (.bool true)], args := [d1, d2] }
  | _ => none }
def fnExactMotifOfRow : OpenClaim := { program := "ytiecmcpkfbhadaa", sum := "ce1945f3e1304f1900f583cb6698d71dda812ca78f77f1a0c130cbdfcfd73715", func := "loop.example/g01375/laws.FnExactMotifOf", spec := "fnExactMotifOf", inPlace := ["math.sqrt", "math.Float64bits", "math.Float64frombits"], unfollowed := true, recurses := true, apart := false }
def FnExactMotifOfSaid : Prop := fnExactMotifOfRow.holds Try.pinned (OpenSpec.ofChange fnExactMotifOfSpec)

/-- ITS FALSE NEIGHBOUR: 'it returns false'. Refute it at one input. -/
def fnExactMotifOfWrong : ChangeSpec := { name := "fnExactMotifOf", fn := fun _ => fun
  | [d1, d2] => { results := [.lit (.bool false)], args := [d1, d2] }
  | _ => none }
def FnExactMotifOfWrongFalsely : Prop := fnExactMotifOfRow.holds Try.pinned (OpenSpec.ofChange fnExactMotifOfWrong)

/-- 'laws.FnExactDiscordOf': WHATEVER THE INPUT: true; the input reads as it did. -/
def fnExactDiscordOfSpec : ChangeSpec := { name := "fnExactDiscordOf", fn := fun _ => fun
  | [d1, d2] => { results := [.lit (.bool true)], args := [d1, d2] }
  | _ => none }
def fnExactDiscordOfRow : OpenClaim := { program := "ytiecmcpkfbhadaa", sum := "ce1945f3e1304f1900f583cb6698d71dda812ca78f77f1a0c130cbdfcfd73715", func := "loop.example/g01375/laws.FnExactDiscordOf", spec := "fnExactDiscordOf", inPlace := ["math.sqrt", "math.Float64bits", "math.Float64frombits"], unfollowed := true, recurses := true, apart := false }
def FnExactDiscordOfSaid : Prop := fnExactDiscordOfRow.holds Try.pinned (OpenSpec.ofChange fnExactDiscordOfSpec)

/-- ITS FALSE NEIGHBOUR: 'it returns false'. Refute it at one input. -/
def fnExactDiscordOfWrong : ChangeSpec := { name := "fnExactDiscordOf", fn := fun _ => fun
  | [d1, d2] => { results := [.lit (.bool false)], args := [d1, d2] }
  | _ => none }
def FnExactDiscordOfWrongFalsely : Prop := fnExactDiscordOfRow.holds Try.pinned (OpenSpec.ofChange fnExactDiscordOfWrong)

/-- 'laws.FnExactCentersOf': WHATEVER THE INPUT: true; the input reads as it did. -/
def fnExactCentersOfSpec : ChangeSpec := { name := "fnExactCentersOf", fn := fun _ => fun
  | [d1, d2, d3] => { results := [.lit (.bool true)], args := [d1, d2, d3] }
  | _ => none }
def fnExactCentersOfRow : OpenClaim := { program := "ytiecmcpkfbhadaa", sum := "ce1945f3e1304f1900f583cb6698d71dda812ca78f77f1a0c130cbdfcfd73715", func := "loop.example/g01375/laws.FnExactCentersOf", spec := "fnExactCentersOf", inPlace := ["math.sqrt", "math.Float64bits", "math.Float64frombits"], unfollowed := true, recurses := true, apart := false }
def FnExactCentersOfSaid : Prop := fnExactCentersOfRow.holds Try.pinned (OpenSpec.ofChange fnExactCentersOfSpec)

/-- ITS FALSE NEIGHBOUR: 'it returns false'. Refute it at one input. -/
def fnExactCentersOfWrong : ChangeSpec := { name := "fnExactCentersOf", fn := fun _ => fun
  | [d1, d2, d3] => { results := [.lit (.bool false)], args := [d1, d2, d3] }
  | _ => none }
def FnExactCentersOfWrongFalsely : Prop := fnExactCentersOfRow.holds Try.pinned (OpenSpec.ofChange fnExactCentersOfWrong)

/-- 'laws.FnExactSmoothChart': WHATEVER THE INPUT: true; the input reads as it did. -/
def fnExactSmoothChartSpec : ChangeSpec := { name := "fnExactSmoothChart", fn := fun _ => fun
  | [d1, d2, d3, d4] => { results := [.lit (.bool true)], args := [d1, d2, d3, d4] }
  | _ => none }
def fnExactSmoothChartRow : OpenClaim := { program := "ytiecmcpkfbhadaa", sum := "ce1945f3e1304f1900f583cb6698d71dda812ca78f77f1a0c130cbdfcfd73715", func := "loop.example/g01375/laws.FnExactSmoothChart", spec := "fnExactSmoothChart", inPlace := ["math.Float64bits", "math.Float64frombits"], apart := false }
def FnExactSmoothChartSaid : Prop := fnExactSmoothChartRow.holds Try.pinned (OpenSpec.ofChange fnExactSmoothChartSpec)

/-- ITS FALSE NEIGHBOUR: 'it returns false'. Refute it at one input. -/
def fnExactSmoothChartWrong : ChangeSpec := { name := "fnExactSmoothChart", fn := fun _ => fun
  | [d1, d2, d3, d4] => { results := [.lit (.bool false)], args := [d1, d2, d3, d4] }
  | _ => none }
def FnExactSmoothChartWrongFalsely : Prop := fnExactSmoothChartRow.holds Try.pinned (OpenSpec.ofChange fnExactSmoothChartWrong)

/-- 'laws.FnExactWarpCosts': WHATEVER THE INPUT: true; the input reads as it did. -/
def fnExactWarpCostsSpec : ChangeSpec := { name := "fnExactWarpCosts", fn := fun _ => fun
  | [d1, d2, d3] => { results := [.lit (.bool true)], args := [d1, d2, d3] }
  | _ => none }
def fnExactWarpCostsRow : OpenClaim := { program := "ytiecmcpkfbhadaa", sum := "ce1945f3e1304f1900f583cb6698d71dda812ca78f77f1a0c130cbdfcfd73715", func := "loop.example/g01375/laws.FnExactWarpCosts", spec := "fnExactWarpCosts", inPlace := ["math.Float64bits", "math.Float64frombits"], unfollowed := true, recurses := true, apart := false }
def FnExactWarpCostsSaid : Prop := fnExactWarpCostsRow.holds Try.pinned (OpenSpec.ofChange fnExactWarpCostsSpec)

/-- ITS FALSE NEIGHBOUR: 'it returns false'. Refute it at one input. -/
def fnExactWarpCostsWrong : ChangeSpec := { name := "fnExactWarpCosts", fn := fun _ => fun
  | [d1, d2, d3] => { results := [.lit (.bool false)], args := [d1, d2, d3] }
  | _ => none }
def FnExactWarpCostsWrongFalsely : Prop := fnExactWarpCostsRow.holds Try.pinned (OpenSpec.ofChange fnExactWarpCostsWrong)

/-- 'laws.FnExactWarpFar': WHATEVER THE INPUT: true; the input reads as it did. -/
def fnExactWarpFarSpec : ChangeSpec := { name := "fnExactWarpFar", fn := fun _ => fun
  | [d1, d2, d3] => { results := [.lit (.bool true)], args := [d1, d2, d3] }
  | _ => none }
def fnExactWarpFarRow : OpenClaim := { program := "ytiecmcpkfbhadaa", sum := "ce1945f3e1304f1900f583cb6698d71dda812ca78f77f1a0c130cbdfcfd73715", func := "loop.example/g01375/laws.FnExactWarpFar", spec := "fnExactWarpFar", inPlace := ["math.Float64bits", "math.Float64frombits"], unfollowed := true, recurses := true, apart := false }
def FnExactWarpFarSaid : Prop := fnExactWarpFarRow.holds Try.pinned (OpenSpec.ofChange fnExactWarpFarSpec)

/-- ITS FALSE NEIGHBOUR: 'it returns false'. Refute it at one input. -/
def fnExactWarpFarWrong : ChangeSpec := { name := "fnExactWarpFar", fn := fun _ => fun
  | [d1, d2, d3] => { results := [.lit (.bool false)], args := [d1, d2, d3] }
  | _ => none }
def FnExactWarpFarWrongFalsely : Prop := fnExactWarpFarRow.holds Try.pinned (OpenSpec.ofChange fnExactWarpFarWrong)

/-- 'laws.FnExactTreeOfShapes': WHATEVER THE INPUT: true; the input reads as it did. -/
def fnExactTreeOfShapesSpec : ChangeSpec := { name := "fnExactTreeOfShapes", fn := fun _ => fun
  | [d] => { results := [.lit (.bool true)], args := [d] }
  | _ => none }
def fnExactTreeOfShapesRow : OpenClaim := { program := "ytiecmcpkfbhadaa", sum := "ce1945f3e1304f1900f583cb6698d71dda812ca78f77f1a0c130cbdfcfd73715", func := "loop.example/g01375/laws.FnExactTreeOfShapes", spec := "fnExactTreeOfShapes", inPlace := ["math.sqrt", "math.Float64bits", "math.Float64frombits"], unfollowed := true, recurses := true, apart := false }
def FnExactTreeOfShapesSaid : Prop := fnExactTreeOfShapesRow.holds Try.pinned (OpenSpec.ofChange fnExactTreeOfShapesSpec)

/-- ITS FALSE NEIGHBOUR: 'it returns false'. Refute it at one input. -/
def fnExactTreeOfShapesWrong : ChangeSpec := { name := "fnExactTreeOfShapes", fn := fun _ => fun
  | [d] => { results := [.lit (.bool false)], args := [d] }
  | _ => none }
def FnExactTreeOfShapesWrongFalsely : Prop := fnExactTreeOfShapesRow.holds Try.pinned (OpenSpec.ofChange fnExactTreeOfShapesWrong)

/-- 'laws.FnExactStoreSaved': WHATEVER THE INPUT: true; the input reads as it did. -/
def fnExactStoreSavedSpec : ChangeSpec := { name := "fnExactStoreSaved", fn := fun _ => fun
  | [d] => { results := [.lit (.bool true)], args := [d] }
  | _ => none }
def fnExactStoreSavedRow : OpenClaim := { program := "ytiecmcpkfbhadaa", sum := "ce1945f3e1304f1900f583cb6698d71dda812ca78f77f1a0c130cbdfcfd73715", func := "loop.example/g01375/laws.FnExactStoreSaved", spec := "fnExactStoreSaved", inPlace := ["math.Float32bits", "math.Float64bits", "math.Float64frombits"], apart := false }
def FnExactStoreSavedSaid : Prop := fnExactStoreSavedRow.holds Try.pinned (OpenSpec.ofChange fnExactStoreSavedSpec)

/-- ITS FALSE NEIGHBOUR: 'it returns false'. Refute it at one input. -/
def fnExactStoreSavedWrong : ChangeSpec := { name := "fnExactStoreSaved", fn := fun _ => fun
  | [d] => { results := [.lit (.bool false)], args := [d] }
  | _ => none }
def FnExactStoreSavedWrongFalsely : Prop := fnExactStoreSavedRow.holds Try.pinned (OpenSpec.ofChange fnExactStoreSavedWrong)

/- THE SECOND FORM. 'bulk': how many values and letters a reading holds, each counted each time it is reached (what is shared counts as often as it is met; a slice's spare places count too). A statement '..UptoSaid' is the law's where the arguments, and the package variables that the reading takes, are together of bulk at most 1048576: NARROWER than '..Said'. Prove '..Said' where nothing that the law and all that it calls make is longer than what came in: it says more and counts as full. Else prove '..UptoSaid'. A law counts once. -/
mutual
def uptoBulk {H : Type} : DataW H → Nat
  | .lit (.string bytes) => bytes.length + 1
  | .lit _ => 1
  | .nil => 1
  | .ptr d => uptoBulk d + 1
  | .slice elems spare => uptoBulkAll elems + uptoBulkAll spare + 1
  | .agg parts => uptoBulkAll parts + 1
  | .iface _ d => uptoBulk d + 1
  | .map entries => uptoBulkEntries entries + 1
  | .held _ => 1
def uptoBulkAll {H : Type} : List (DataW H) → Nat
  | [] => 0
  | d :: r => uptoBulk d + uptoBulkAll r
def uptoBulkEntries {H : Type} : List (Lit × DataW H) → Nat
  | [] => 0
  | x :: r => uptoBulkEntry x + uptoBulkEntries r
def uptoBulkEntry {H : Type} : Lit × DataW H → Nat
  | (.string bytes, d) => bytes.length + uptoBulk d + 1
  | (_, d) => uptoBulk d + 1
 end
def uptoSmall : (H : Type) → List (DataW H) → Bool := fun _ ds => decide (uptoBulkAll ds ≤ 1048576)
def OpenSpec.upto (s : _root_.Go.ChangeSpec) : _root_.Go.OpenSpec := { _root_.Go.OpenSpec.ofChange s with cond := some uptoSmall }

/-- 'laws.FnExactValidSaved', WHERE WHAT IT READS IS OF BULK AT MOST 1048576: true; the input reads as it did. -/
def fnExactValidSavedUptoRow : OpenClaim := { program := "ytiecmcpkfbhadaa", sum := "ce1945f3e1304f1900f583cb6698d71dda812ca78f77f1a0c130cbdfcfd73715", func := "loop.example/g01375/laws.FnExactValidSaved", spec := "fnExactValidSaved", inPlace := ["math.Float64bits", "math.Float64frombits"], apart := false, narrowed := true }
def FnExactValidSavedUptoSaid : Prop := fnExactValidSavedUptoRow.holds Try.pinned (OpenSpec.upto fnExactValidSavedSpec)

/-- 'laws.FnExactSameSaved', WHERE WHAT IT READS IS OF BULK AT MOST 1048576: true; the input reads as it did. -/
def fnExactSameSavedUptoRow : OpenClaim := { program := "ytiecmcpkfbhadaa", sum := "ce1945f3e1304f1900f583cb6698d71dda812ca78f77f1a0c130cbdfcfd73715", func := "loop.example/g01375/laws.FnExactSameSaved", spec := "fnExactSameSaved", inPlace := ["math.Float32bits"], unfollowed := true, recurses := true, apart := false, narrowed := true }
def FnExactSameSavedUptoSaid : Prop := fnExactSameSavedUptoRow.holds Try.pinned (OpenSpec.upto fnExactSameSavedSpec)

/-- 'laws.FnExactWarpWay', WHERE WHAT IT READS IS OF BULK AT MOST 1048576: true; the input reads as it did. -/
def fnExactWarpWayUptoRow : OpenClaim := { program := "ytiecmcpkfbhadaa", sum := "ce1945f3e1304f1900f583cb6698d71dda812ca78f77f1a0c130cbdfcfd73715", func := "loop.example/g01375/laws.FnExactWarpWay", spec := "fnExactWarpWay", inPlace := ["math.Float64bits", "math.Float64frombits"], unfollowed := true, recurses := true, apart := false, narrowed := true }
def FnExactWarpWayUptoSaid : Prop := fnExactWarpWayUptoRow.holds Try.pinned (OpenSpec.upto fnExactWarpWaySpec)

/-- 'laws.FnExactProfileOf', WHERE WHAT IT READS IS OF BULK AT MOST 1048576: true; the input reads as it did. -/
def fnExactProfileOfUptoRow : OpenClaim := { program := "ytiecmcpkfbhadaa", sum := "ce1945f3e1304f1900f583cb6698d71dda812ca78f77f1a0c130cbdfcfd73715", func := "loop.example/g01375/laws.FnExactProfileOf", spec := "fnExactProfileOf", inPlace := ["math.sqrt", "math.Float64bits", "math.Float64frombits"], unfollowed := true, recurses := true, apart := false, narrowed := true }
def FnExactProfileOfUptoSaid : Prop := fnExactProfileOfUptoRow.holds Try.pinned (OpenSpec.upto fnExactProfileOfSpec)

/-- 'laws.FnExactMotifOf', WHERE WHAT IT READS IS OF BULK AT MOST 1048576: true; the input reads as it did. -/
def fnExactMotifOfUptoRow : OpenClaim := { program := "ytiecmcpkfbhadaa", sum := "ce1945f3e1304f1900f583cb6698d71dda812ca78f77f1a0c130cbdfcfd73715", func := "loop.example/g01375/laws.FnExactMotifOf", spec := "fnExactMotifOf", inPlace := ["math.sqrt", "math.Float64bits", "math.Float64frombits"], unfollowed := true, recurses := true, apart := false, narrowed := true }
def FnExactMotifOfUptoSaid : Prop := fnExactMotifOfUptoRow.holds Try.pinned (OpenSpec.upto fnExactMotifOfSpec)

/-- 'laws.FnExactDiscordOf', WHERE WHAT IT READS IS OF BULK AT MOST 1048576: true; the input reads as it did. -/
def fnExactDiscordOfUptoRow : OpenClaim := { program := "ytiecmcpkfbhadaa", sum := "ce1945f3e1304f1900f583cb6698d71dda812ca78f77f1a0c130cbdfcfd73715", func := "loop.example/g01375/laws.FnExactDiscordOf", spec := "fnExactDiscordOf", inPlace := ["math.sqrt", "math.Float64bits", "math.Float64frombits"], unfollowed := true, recurses := true, apart := false, narrowed := true }
def FnExactDiscordOfUptoSaid : Prop := fnExactDiscordOfUptoRow.holds Try.pinned (OpenSpec.upto fnExactDiscordOfSpec)

/-- 'laws.FnExactCentersOf', WHERE WHAT IT READS IS OF BULK AT MOST 1048576: true; the input reads as it did. -/
def fnExactCentersOfUptoRow : OpenClaim := { program := "ytiecmcpkfbhadaa", sum := "ce1945f3e1304f1900f583cb6698d71dda812ca78f77f1a0c130cbdfcfd73715", func := "loop.example/g01375/laws.FnExactCentersOf", spec := "fnExactCentersOf", inPlace := ["math.sqrt", "math.Float64bits", "math.Float64frombits"], unfollowed := true, recurses := true, apart := false, narrowed := true }
def FnExactCentersOfUptoSaid : Prop := fnExactCentersOfUptoRow.holds Try.pinned (OpenSpec.upto fnExactCentersOfSpec)

/-- 'laws.FnExactSmoothChart', WHERE WHAT IT READS IS OF BULK AT MOST 1048576: true; the input reads as it did. -/
def fnExactSmoothChartUptoRow : OpenClaim := { program := "ytiecmcpkfbhadaa", sum := "ce1945f3e1304f1900f583cb6698d71dda812ca78f77f1a0c130cbdfcfd73715", func := "loop.example/g01375/laws.FnExactSmoothChart", spec := "fnExactSmoothChart", inPlace := ["math.Float64bits", "math.Float64frombits"], apart := false, narrowed := true }
def FnExactSmoothChartUptoSaid : Prop := fnExactSmoothChartUptoRow.holds Try.pinned (OpenSpec.upto fnExactSmoothChartSpec)

/-- 'laws.FnExactWarpCosts', WHERE WHAT IT READS IS OF BULK AT MOST 1048576: true; the input reads as it did. -/
def fnExactWarpCostsUptoRow : OpenClaim := { program := "ytiecmcpkfbhadaa", sum := "ce1945f3e1304f1900f583cb6698d71dda812ca78f77f1a0c130cbdfcfd73715", func := "loop.example/g01375/laws.FnExactWarpCosts", spec := "fnExactWarpCosts", inPlace := ["math.Float64bits", "math.Float64frombits"], unfollowed := true, recurses := true, apart := false, narrowed := true }
def FnExactWarpCostsUptoSaid : Prop := fnExactWarpCostsUptoRow.holds Try.pinned (OpenSpec.upto fnExactWarpCostsSpec)

/-- 'laws.FnExactWarpFar', WHERE WHAT IT READS IS OF BULK AT MOST 1048576: true; the input reads as it did. -/
def fnExactWarpFarUptoRow : OpenClaim := { program := "ytiecmcpkfbhadaa", sum := "ce1945f3e1304f1900f583cb6698d71dda812ca78f77f1a0c130cbdfcfd73715", func := "loop.example/g01375/laws.FnExactWarpFar", spec := "fnExactWarpFar", inPlace := ["math.Float64bits", "math.Float64frombits"], unfollowed := true, recurses := true, apart := false, narrowed := true }
def FnExactWarpFarUptoSaid : Prop := fnExactWarpFarUptoRow.holds Try.pinned (OpenSpec.upto fnExactWarpFarSpec)

/-- 'laws.FnExactTreeOfShapes', WHERE WHAT IT READS IS OF BULK AT MOST 1048576: true; the input reads as it did. -/
def fnExactTreeOfShapesUptoRow : OpenClaim := { program := "ytiecmcpkfbhadaa", sum := "ce1945f3e1304f1900f583cb6698d71dda812ca78f77f1a0c130cbdfcfd73715", func := "loop.example/g01375/laws.FnExactTreeOfShapes", spec := "fnExactTreeOfShapes", inPlace := ["math.sqrt", "math.Float64bits", "math.Float64frombits"], unfollowed := true, recurses := true, apart := false, narrowed := true }
def FnExactTreeOfShapesUptoSaid : Prop := fnExactTreeOfShapesUptoRow.holds Try.pinned (OpenSpec.upto fnExactTreeOfShapesSpec)

/-- 'laws.FnExactStoreSaved', WHERE WHAT IT READS IS OF BULK AT MOST 1048576: true; the input reads as it did. -/
def fnExactStoreSavedUptoRow : OpenClaim := { program := "ytiecmcpkfbhadaa", sum := "ce1945f3e1304f1900f583cb6698d71dda812ca78f77f1a0c130cbdfcfd73715", func := "loop.example/g01375/laws.FnExactStoreSaved", spec := "fnExactStoreSaved", inPlace := ["math.Float32bits", "math.Float64bits", "math.Float64frombits"], apart := false, narrowed := true }
def FnExactStoreSavedUptoSaid : Prop := fnExactStoreSavedUptoRow.holds Try.pinned (OpenSpec.upto fnExactStoreSavedSpec)

end Rows
end Go.Proofs.Ytiecmcpkfbhadaa
