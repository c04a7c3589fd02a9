/-
  No cell of these rows narrows 'for every input' (looked for: loops, veiled, ifaces, maps, wideKeys, modest, calm, conditions, laid).
  DERIVED. THE GIVEN ROWS OF THIS SEAT. 12 by the template 'for every input the law returns true; each argument reads behind the call as it read before'; 0 by the template 'total and deterministic' (their statements: YtpaelafopjmklaaTotals.lean).
  GIVEN WITH THE SEED: the statements are not yours to turn. If you find one false, say at which input.
  Laid BY PROGRAM, IN A SANDBOX (cutbox-rows.mjs): the forced cells as the released guide's own fill.sh prints them over the translation 1ce778023fb85a15… (all of the seat's roots in one cut). By AI agents, Wed Nov 11 2026. No macro, syntax, notation, axiom, sorry.
-/
import Derived.Test.YtpaelafopjmklaaChecked
import GoSem.Claim
import GoSem.ClaimJoined
import GoSem.ClaimMapViews
import Derived.JoinedTies
import Derived.KernelRfl
namespace Go.Proofs.Ytpaelafopjmklaa
/- THE CELL 'sum', in the pinned program and in every row, IS THE sha256 OF THE DUMP (.gsa) THAT YtpaelafopjmklaaProg.lean LOADS. Nothing in Lean hashes anything: it is a label: what it is worth is what the hold of that sum in a sandbox is worth. -/
noncomputable def Try.pinned : Pinned := { name := "ytpaelafopjmklaa", sum := "1ce778023fb85a15788f1c7d1e2e5af7baa99121af4351da13c33787c09271fa", checked := Try.checked }
namespace Rows
def none {H : Type} : Left H := { results := [], args := [] }

/-- 'laws.FnExactFarOfShapes': WHATEVER THE INPUT: true; the input reads as it did. -/
def fnExactFarOfShapesSpec : ChangeSpec := { name := "fnExactFarOfShapes", fn := fun _ => fun
  | [d1, d2] => { results := [.lit (.bool true)], args := [d1, d2] }
  | _ => none }
def fnExactFarOfShapesRow : OpenClaim := { program := "ytpaelafopjmklaa", sum := "1ce778023fb85a15788f1c7d1e2e5af7baa99121af4351da13c33787c09271fa", func := "loop.example/g01375/laws.FnExactFarOfShapes", spec := "fnExactFarOfShapes", inPlace := ["math.sqrt", "math.Float64bits", "math.Float64frombits"], unfollowed := true, recurses := true, apart := false }
def FnExactFarOfShapesSaid : Prop := fnExactFarOfShapesRow.holds Try.pinned (OpenSpec.ofChange fnExactFarOfShapesSpec)

/-- ITS FALSE NEIGHBOUR: 'it returns false'. Refute it at one input. -/
def fnExactFarOfShapesWrong : ChangeSpec := { name := "fnExactFarOfShapes", fn := fun _ => fun
  | [d1, d2] => { results := [.lit (.bool false)], args := [d1, d2] }
  | _ => none }
def FnExactFarOfShapesWrongFalsely : Prop := fnExactFarOfShapesRow.holds Try.pinned (OpenSpec.ofChange fnExactFarOfShapesWrong)

/-- 'laws.FnExactNormShape': WHATEVER THE INPUT: true; the input reads as it did. -/
def fnExactNormShapeSpec : ChangeSpec := { name := "fnExactNormShape", fn := fun _ => fun
  | [d] => { results := [.lit (.bool true)], args := [d] }
  | _ => none }
def fnExactNormShapeRow : OpenClaim := { program := "ytpaelafopjmklaa", sum := "1ce778023fb85a15788f1c7d1e2e5af7baa99121af4351da13c33787c09271fa", func := "loop.example/g01375/laws.FnExactNormShape", spec := "fnExactNormShape", inPlace := ["math.sqrt", "math.Float64bits", "math.Float64frombits"], unfollowed := true, recurses := true, apart := false }
def FnExactNormShapeSaid : Prop := fnExactNormShapeRow.holds Try.pinned (OpenSpec.ofChange fnExactNormShapeSpec)

/-- ITS FALSE NEIGHBOUR: 'it returns false'. Refute it at one input. -/
def fnExactNormShapeWrong : ChangeSpec := { name := "fnExactNormShape", fn := fun _ => fun
  | [d] => { results := [.lit (.bool false)], args := [d] }
  | _ => none }
def FnExactNormShapeWrongFalsely : Prop := fnExactNormShapeRow.holds Try.pinned (OpenSpec.ofChange fnExactNormShapeWrong)

/-- 'laws.FnExactPartMeans': WHATEVER THE INPUT: true; the input reads as it did. -/
def fnExactPartMeansSpec : ChangeSpec := { name := "fnExactPartMeans", fn := fun _ => fun
  | [d1, d2] => { results := [.lit (.bool true)], args := [d1, d2] }
  | _ => none }
def fnExactPartMeansRow : OpenClaim := { program := "ytpaelafopjmklaa", sum := "1ce778023fb85a15788f1c7d1e2e5af7baa99121af4351da13c33787c09271fa", func := "loop.example/g01375/laws.FnExactPartMeans", spec := "fnExactPartMeans", inPlace := ["math.Float64bits", "math.Float64frombits"], unfollowed := true, recurses := true, apart := false }
def FnExactPartMeansSaid : Prop := fnExactPartMeansRow.holds Try.pinned (OpenSpec.ofChange fnExactPartMeansSpec)

/-- ITS FALSE NEIGHBOUR: 'it returns false'. Refute it at one input. -/
def fnExactPartMeansWrong : ChangeSpec := { name := "fnExactPartMeans", fn := fun _ => fun
  | [d1, d2] => { results := [.lit (.bool false)], args := [d1, d2] }
  | _ => none }
def FnExactPartMeansWrongFalsely : Prop := fnExactPartMeansRow.holds Try.pinned (OpenSpec.ofChange fnExactPartMeansWrong)

/-- 'laws.FnExactDriftUp': WHATEVER THE INPUT: true; the input reads as it did. -/
def fnExactDriftUpSpec : ChangeSpec := { name := "fnExactDriftUp", fn := fun _ => fun
  | [d1, d2, d3] => { results := [.lit (.bool true)], args := [d1, d2, d3] }
  | _ => none }
def fnExactDriftUpRow : OpenClaim := { program := "ytpaelafopjmklaa", sum := "1ce778023fb85a15788f1c7d1e2e5af7baa99121af4351da13c33787c09271fa", func := "loop.example/g01375/laws.FnExactDriftUp", spec := "fnExactDriftUp", inPlace := ["math.Float64bits", "math.Float64frombits"], unfollowed := true, recurses := true, apart := false }
def FnExactDriftUpSaid : Prop := fnExactDriftUpRow.holds Try.pinned (OpenSpec.ofChange fnExactDriftUpSpec)

/-- ITS FALSE NEIGHBOUR: 'it returns false'. Refute it at one input. -/
def fnExactDriftUpWrong : ChangeSpec := { name := "fnExactDriftUp", fn := fun _ => fun
  | [d1, d2, d3] => { results := [.lit (.bool false)], args := [d1, d2, d3] }
  | _ => none }
def FnExactDriftUpWrongFalsely : Prop := fnExactDriftUpRow.holds Try.pinned (OpenSpec.ofChange fnExactDriftUpWrong)

/-- 'laws.FnExactDriftDown': WHATEVER THE INPUT: true; the input reads as it did. -/
def fnExactDriftDownSpec : ChangeSpec := { name := "fnExactDriftDown", fn := fun _ => fun
  | [d1, d2, d3] => { results := [.lit (.bool true)], args := [d1, d2, d3] }
  | _ => none }
def fnExactDriftDownRow : OpenClaim := { program := "ytpaelafopjmklaa", sum := "1ce778023fb85a15788f1c7d1e2e5af7baa99121af4351da13c33787c09271fa", func := "loop.example/g01375/laws.FnExactDriftDown", spec := "fnExactDriftDown", inPlace := ["math.Float64bits", "math.Float64frombits"], unfollowed := true, recurses := true, apart := false }
def FnExactDriftDownSaid : Prop := fnExactDriftDownRow.holds Try.pinned (OpenSpec.ofChange fnExactDriftDownSpec)

/-- ITS FALSE NEIGHBOUR: 'it returns false'. Refute it at one input. -/
def fnExactDriftDownWrong : ChangeSpec := { name := "fnExactDriftDown", fn := fun _ => fun
  | [d1, d2, d3] => { results := [.lit (.bool false)], args := [d1, d2, d3] }
  | _ => none }
def FnExactDriftDownWrongFalsely : Prop := fnExactDriftDownRow.holds Try.pinned (OpenSpec.ofChange fnExactDriftDownWrong)

/-- 'laws.FnExactDriftAt': WHATEVER THE INPUT: true; the input reads as it did. -/
def fnExactDriftAtSpec : ChangeSpec := { name := "fnExactDriftAt", fn := fun _ => fun
  | [d1, d2, d3, d4] => { results := [.lit (.bool true)], args := [d1, d2, d3, d4] }
  | _ => none }
def fnExactDriftAtRow : OpenClaim := { program := "ytpaelafopjmklaa", sum := "1ce778023fb85a15788f1c7d1e2e5af7baa99121af4351da13c33787c09271fa", func := "loop.example/g01375/laws.FnExactDriftAt", spec := "fnExactDriftAt", inPlace := ["math.Float64bits", "math.Float64frombits"], unfollowed := true, recurses := true, apart := false }
def FnExactDriftAtSaid : Prop := fnExactDriftAtRow.holds Try.pinned (OpenSpec.ofChange fnExactDriftAtSpec)

/-- ITS FALSE NEIGHBOUR: 'it returns false'. Refute it at one input. -/
def fnExactDriftAtWrong : ChangeSpec := { name := "fnExactDriftAt", fn := fun _ => fun
  | [d1, d2, d3, d4] => { results := [.lit (.bool false)], args := [d1, d2, d3, d4] }
  | _ => none }
def FnExactDriftAtWrongFalsely : Prop := fnExactDriftAtRow.holds Try.pinned (OpenSpec.ofChange fnExactDriftAtWrong)

/-- 'laws.FnExactRunLong': WHATEVER THE INPUT: true; the input reads as it did. -/
def fnExactRunLongSpec : ChangeSpec := { name := "fnExactRunLong", fn := fun _ => fun
  | [d1, d2, d3] => { results := [.lit (.bool true)], args := [d1, d2, d3] }
  | _ => none }
def fnExactRunLongRow : OpenClaim := { program := "ytpaelafopjmklaa", sum := "1ce778023fb85a15788f1c7d1e2e5af7baa99121af4351da13c33787c09271fa", func := "loop.example/g01375/laws.FnExactRunLong", spec := "fnExactRunLong", inPlace := ["math.Float64bits", "math.Float64frombits"], apart := false }
def FnExactRunLongSaid : Prop := fnExactRunLongRow.holds Try.pinned (OpenSpec.ofChange fnExactRunLongSpec)

/-- ITS FALSE NEIGHBOUR: 'it returns false'. Refute it at one input. -/
def fnExactRunLongWrong : ChangeSpec := { name := "fnExactRunLong", fn := fun _ => fun
  | [d1, d2, d3] => { results := [.lit (.bool false)], args := [d1, d2, d3] }
  | _ => none }
def FnExactRunLongWrongFalsely : Prop := fnExactRunLongRow.holds Try.pinned (OpenSpec.ofChange fnExactRunLongWrong)

/-- 'laws.FnExactRunChance': WHATEVER THE INPUT: true; the input reads as it did. -/
def fnExactRunChanceSpec : ChangeSpec := { name := "fnExactRunChance", fn := fun _ => fun
  | [d1, d2, d3, d4] => { results := [.lit (.bool true)], args := [d1, d2, d3, d4] }
  | _ => none }
def fnExactRunChanceRow : OpenClaim := { program := "ytpaelafopjmklaa", sum := "1ce778023fb85a15788f1c7d1e2e5af7baa99121af4351da13c33787c09271fa", func := "loop.example/g01375/laws.FnExactRunChance", spec := "fnExactRunChance", inPlace := ["math.Float64bits", "math.Float64frombits"], apart := false }
def FnExactRunChanceSaid : Prop := fnExactRunChanceRow.holds Try.pinned (OpenSpec.ofChange fnExactRunChanceSpec)

/-- ITS FALSE NEIGHBOUR: 'it returns false'. Refute it at one input. -/
def fnExactRunChanceWrong : ChangeSpec := { name := "fnExactRunChance", fn := fun _ => fun
  | [d1, d2, d3, d4] => { results := [.lit (.bool false)], args := [d1, d2, d3, d4] }
  | _ => none }
def FnExactRunChanceWrongFalsely : Prop := fnExactRunChanceRow.holds Try.pinned (OpenSpec.ofChange fnExactRunChanceWrong)

/-- 'laws.FnExactSignFar': WHATEVER THE INPUT: true; the input reads as it did. -/
def fnExactSignFarSpec : ChangeSpec := { name := "fnExactSignFar", fn := fun _ => fun
  | [d1, d2, d3] => { results := [.lit (.bool true)], args := [d1, d2, d3] }
  | _ => none }
def fnExactSignFarRow : OpenClaim := { program := "ytpaelafopjmklaa", sum := "1ce778023fb85a15788f1c7d1e2e5af7baa99121af4351da13c33787c09271fa", func := "loop.example/g01375/laws.FnExactSignFar", spec := "fnExactSignFar", inPlace := ["math.sqrt", "math.Float64bits", "math.Float64frombits"], unfollowed := true, recurses := true, apart := false }
def FnExactSignFarSaid : Prop := fnExactSignFarRow.holds Try.pinned (OpenSpec.ofChange fnExactSignFarSpec)

/-- ITS FALSE NEIGHBOUR: 'it returns false'. Refute it at one input. -/
def fnExactSignFarWrong : ChangeSpec := { name := "fnExactSignFar", fn := fun _ => fun
  | [d1, d2, d3] => { results := [.lit (.bool false)], args := [d1, d2, d3] }
  | _ => none }
def FnExactSignFarWrongFalsely : Prop := fnExactSignFarRow.holds Try.pinned (OpenSpec.ofChange fnExactSignFarWrong)

/-- 'laws.FnExactNearestShape': WHATEVER THE INPUT: true; the input reads as it did. -/
def fnExactNearestShapeSpec : ChangeSpec := { name := "fnExactNearestShape", fn := fun _ => fun
  | [d1, d2] => { results := [.lit (.bool true)], args := [d1, d2] }
  | _ => none }
def fnExactNearestShapeRow : OpenClaim := { program := "ytpaelafopjmklaa", sum := "1ce778023fb85a15788f1c7d1e2e5af7baa99121af4351da13c33787c09271fa", func := "loop.example/g01375/laws.FnExactNearestShape", spec := "fnExactNearestShape", inPlace := ["math.sqrt", "math.Float64bits", "math.Float64frombits"], unfollowed := true, recurses := true, apart := false }
def FnExactNearestShapeSaid : Prop := fnExactNearestShapeRow.holds Try.pinned (OpenSpec.ofChange fnExactNearestShapeSpec)

/-- ITS FALSE NEIGHBOUR: 'it returns false'. Refute it at one input. -/
def fnExactNearestShapeWrong : ChangeSpec := { name := "fnExactNearestShape", fn := fun _ => fun
  | [d1, d2] => { results := [.lit (.bool false)], args := [d1, d2] }
  | _ => none }
def FnExactNearestShapeWrongFalsely : Prop := fnExactNearestShapeRow.holds Try.pinned (OpenSpec.ofChange fnExactNearestShapeWrong)

/-- 'laws.FnExactWidthOfCenters': WHATEVER THE INPUT: true; the input reads as it did. -/
def fnExactWidthOfCentersSpec : ChangeSpec := { name := "fnExactWidthOfCenters", fn := fun _ => fun
  | [d1, d2] => { results := [.lit (.bool true)], args := [d1, d2] }
  | _ => none }
def fnExactWidthOfCentersRow : OpenClaim := { program := "ytpaelafopjmklaa", sum := "1ce778023fb85a15788f1c7d1e2e5af7baa99121af4351da13c33787c09271fa", func := "loop.example/g01375/laws.FnExactWidthOfCenters", spec := "fnExactWidthOfCenters", inPlace := ["math.sqrt", "math.Float64bits", "math.Float64frombits"], unfollowed := true, recurses := true, apart := false }
def FnExactWidthOfCentersSaid : Prop := fnExactWidthOfCentersRow.holds Try.pinned (OpenSpec.ofChange fnExactWidthOfCentersSpec)

/-- ITS FALSE NEIGHBOUR: 'it returns false'. Refute it at one input. -/
def fnExactWidthOfCentersWrong : ChangeSpec := { name := "fnExactWidthOfCenters", fn := fun _ => fun
  | [d1, d2] => { results := [.lit (.bool false)], args := [d1, d2] }
  | _ => none }
def FnExactWidthOfCentersWrongFalsely : Prop := fnExactWidthOfCentersRow.holds Try.pinned (OpenSpec.ofChange fnExactWidthOfCentersWrong)

/-- 'laws.FnExactSignsOf': WHATEVER THE INPUT: true; the input reads as it did. -/
def fnExactSignsOfSpec : ChangeSpec := { name := "fnExactSignsOf", fn := fun _ => fun
  | [d1, d2, d3] => { results := [.lit (.bool true)], args := [d1, d2, d3] }
  | _ => none }
def fnExactSignsOfRow : OpenClaim := { program := "ytpaelafopjmklaa", sum := "1ce778023fb85a15788f1c7d1e2e5af7baa99121af4351da13c33787c09271fa", func := "loop.example/g01375/laws.FnExactSignsOf", spec := "fnExactSignsOf", inPlace := ["math.Float64bits", "math.Float64frombits"], unfollowed := true, recurses := true, apart := false }
def FnExactSignsOfSaid : Prop := fnExactSignsOfRow.holds Try.pinned (OpenSpec.ofChange fnExactSignsOfSpec)

/-- ITS FALSE NEIGHBOUR: 'it returns false'. Refute it at one input. -/
def fnExactSignsOfWrong : ChangeSpec := { name := "fnExactSignsOf", fn := fun _ => fun
  | [d1, d2, d3] => { results := [.lit (.bool false)], args := [d1, d2, d3] }
  | _ => none }
def FnExactSignsOfWrongFalsely : Prop := fnExactSignsOfRow.holds Try.pinned (OpenSpec.ofChange fnExactSignsOfWrong)

/- THE SECOND FORM. 'bulk': how many values and letters a reading holds, each counted each time it is reached (what is shared counts as often as it is met; a slice's spare places count too). A statement '..UptoSaid' is the law's where the arguments, and the package variables that the reading takes, are together of bulk at most 1048576: NARROWER than '..Said'. Prove '..Said' where nothing that the law and all that it calls make is longer than what came in: it says more and counts as full. Else prove '..UptoSaid'. A law counts once. -/
mutual
def uptoBulk {H : Type} : DataW H → Nat
  | .lit (.string bytes) => bytes.length + 1
  | .lit _ => 1
  | .nil => 1
  | .ptr d => uptoBulk d + 1
  | .slice elems spare => uptoBulkAll elems + uptoBulkAll spare + 1
  | .agg parts => uptoBulkAll parts + 1
  | .iface _ d => uptoBulk d + 1
  | .map entries => uptoBulkEntries entries + 1
  | .held _ => 1
def uptoBulkAll {H : Type} : List (DataW H) → Nat
  | [] => 0
  | d :: r => uptoBulk d + uptoBulkAll r
def uptoBulkEntries {H : Type} : List (Lit × DataW H) → Nat
  | [] => 0
  | x :: r => uptoBulkEntry x + uptoBulkEntries r
def uptoBulkEntry {H : Type} : Lit × DataW H → Nat
  | (.string bytes, d) => bytes.length + uptoBulk d + 1
  | (_, d) => uptoBulk d + 1
 end
def uptoSmall : (H : Type) → List (DataW H) → Bool := fun _ ds => decide (uptoBulkAll ds ≤ 1048576)
def OpenSpec.upto (s : _root_.Go.ChangeSpec) : _root_.Go.OpenSpec := { _root_.Go.OpenSpec.ofChange s with cond := some uptoSmall }

/-- 'laws.FnExactFarOfShapes', WHERE WHAT IT READS IS OF BULK AT MOST 1048576: true; the input reads as it did. -/
def fnExactFarOfShapesUptoRow : OpenClaim := { program := "ytpaelafopjmklaa", sum := "1ce778023fb85a15788f1c7d1e2e5af7baa99121af4351da13c33787c09271fa", func := "loop.example/g01375/laws.FnExactFarOfShapes", spec := "fnExactFarOfShapes", inPlace := ["math.sqrt", "math.Float64bits", "math.Float64frombits"], unfollowed := true, recurses := true, apart := false, narrowed := true }
def FnExactFarOfShapesUptoSaid : Prop := fnExactFarOfShapesUptoRow.holds Try.pinned (OpenSpec.upto fnExactFarOfShapesSpec)

/-- 'laws.FnExactNormShape', WHERE WHAT IT READS IS OF BULK AT MOST 1048576: true; the input reads as it did. -/
def fnExactNormShapeUptoRow : OpenClaim := { program := "ytpaelafopjmklaa", sum := "1ce778023fb85a15788f1c7d1e2e5af7baa99121af4351da13c33787c09271fa", func := "loop.example/g01375/laws.FnExactNormShape", spec := "fnExactNormShape", inPlace := ["math.sqrt", "math.Float64bits", "math.Float64frombits"], unfollowed := true, recurses := true, apart := false, narrowed := true }
def FnExactNormShapeUptoSaid : Prop := fnExactNormShapeUptoRow.holds Try.pinned (OpenSpec.upto fnExactNormShapeSpec)

/-- 'laws.FnExactPartMeans', WHERE WHAT IT READS IS OF BULK AT MOST 1048576: true; the input reads as it did. -/
def fnExactPartMeansUptoRow : OpenClaim := { program := "ytpaelafopjmklaa", sum := "1ce778023fb85a15788f1c7d1e2e5af7baa99121af4351da13c33787c09271fa", func := "loop.example/g01375/laws.FnExactPartMeans", spec := "fnExactPartMeans", inPlace := ["math.Float64bits", "math.Float64frombits"], unfollowed := true, recurses := true, apart := false, narrowed := true }
def FnExactPartMeansUptoSaid : Prop := fnExactPartMeansUptoRow.holds Try.pinned (OpenSpec.upto fnExactPartMeansSpec)

/-- 'laws.FnExactDriftUp', WHERE WHAT IT READS IS OF BULK AT MOST 1048576: true; the input reads as it did. -/
def fnExactDriftUpUptoRow : OpenClaim := { program := "ytpaelafopjmklaa", sum := "1ce778023fb85a15788f1c7d1e2e5af7baa99121af4351da13c33787c09271fa", func := "loop.example/g01375/laws.FnExactDriftUp", spec := "fnExactDriftUp", inPlace := ["math.Float64bits", "math.Float64frombits"], unfollowed := true, recurses := true, apart := false, narrowed := true }
def FnExactDriftUpUptoSaid : Prop := fnExactDriftUpUptoRow.holds Try.pinned (OpenSpec.upto fnExactDriftUpSpec)

/-- 'laws.FnExactDriftDown', WHERE WHAT IT READS IS OF BULK AT MOST 1048576: true; the input reads as it did. -/
def fnExactDriftDownUptoRow : OpenClaim := { program := "ytpaelafopjmklaa", sum := "1ce778023fb85a15788f1c7d1e2e5af7baa99121af4351da13c33787c09271fa", func := "loop.example/g01375/laws.FnExactDriftDown", spec := "fnExactDriftDown", inPlace := ["math.Float64bits", "math.Float64frombits"], unfollowed := true, recurses := true, apart := false, narrowed := true }
def FnExactDriftDownUptoSaid : Prop := fnExactDriftDownUptoRow.holds Try.pinned (OpenSpec.upto fnExactDriftDownSpec)

/-- 'laws.FnExactDriftAt', WHERE WHAT IT READS IS OF BULK AT MOST 1048576: true; the input reads as it did. -/
def fnExactDriftAtUptoRow : OpenClaim := { program := "ytpaelafopjmklaa", sum := "1ce778023fb85a15788f1c7d1e2e5af7baa99121af4351da13c33787c09271fa", func := "loop.example/g01375/laws.FnExactDriftAt", spec := "fnExactDriftAt", inPlace := ["math.Float64bits", "math.Float64frombits"], unfollowed := true, recurses := true, apart := false, narrowed := true }
def FnExactDriftAtUptoSaid : Prop := fnExactDriftAtUptoRow.holds Try.pinned (OpenSpec.upto fnExactDriftAtSpec)

/-- 'laws.FnExactRunLong', WHERE WHAT IT READS IS OF BULK AT MOST 1048576: true; the input reads as it did. -/
def fnExactRunLongUptoRow : OpenClaim := { program := "ytpaelafopjmklaa", sum := "1ce778023fb85a15788f1c7d1e2e5af7baa99121af4351da13c33787c09271fa", func := "loop.example/g01375/laws.FnExactRunLong", spec := "fnExactRunLong", inPlace := ["math.Float64bits", "math.Float64frombits"], apart := false, narrowed := true }
def FnExactRunLongUptoSaid : Prop := fnExactRunLongUptoRow.holds Try.pinned (OpenSpec.upto fnExactRunLongSpec)

/-- 'laws.FnExactRunChance', WHERE WHAT IT READS IS OF BULK AT MOST 1048576: true; the input reads as it did. -/
def fnExactRunChanceUptoRow : OpenClaim := { program := "ytpaelafopjmklaa", sum := "1ce778023fb85a15788f1c7d1e2e5af7baa99121af4351da13c33787c09271fa", func := "loop.example/g01375/laws.FnExactRunChance", spec := "fnExactRunChance", inPlace := ["math.Float64bits", "math.Float64frombits"], apart := false, narrowed := true }
def FnExactRunChanceUptoSaid : Prop := fnExactRunChanceUptoRow.holds Try.pinned (OpenSpec.upto fnExactRunChanceSpec)

/-- 'laws.FnExactSignFar', WHERE WHAT IT READS IS OF BULK AT MOST 1048576: true; the input reads as it did. -/
def fnExactSignFarUptoRow : OpenClaim := { program := "ytpaelafopjmklaa", sum := "1ce778023fb85a15788f1c7d1e2e5af7baa99121af4351da13c33787c09271fa", func := "loop.example/g01375/laws.FnExactSignFar", spec := "fnExactSignFar", inPlace := ["math.sqrt", "math.Float64bits", "math.Float64frombits"], unfollowed := true, recurses := true, apart := false, narrowed := true }
def FnExactSignFarUptoSaid : Prop := fnExactSignFarUptoRow.holds Try.pinned (OpenSpec.upto fnExactSignFarSpec)

/-- 'laws.FnExactNearestShape', WHERE WHAT IT READS IS OF BULK AT MOST 1048576: true; the input reads as it did. -/
def fnExactNearestShapeUptoRow : OpenClaim := { program := "ytpaelafopjmklaa", sum := "1ce778023fb85a15788f1c7d1e2e5af7baa99121af4351da13c33787c09271fa", func := "loop.example/g01375/laws.FnExactNearestShape", spec := "fnExactNearestShape", inPlace := ["math.sqrt", "math.Float64bits", "math.Float64frombits"], unfollowed := true, recurses := true, apart := false, narrowed := true }
def FnExactNearestShapeUptoSaid : Prop := fnExactNearestShapeUptoRow.holds Try.pinned (OpenSpec.upto fnExactNearestShapeSpec)

/-- 'laws.FnExactWidthOfCenters', WHERE WHAT IT READS IS OF BULK AT MOST 1048576: true; the input reads as it did. -/
def fnExactWidthOfCentersUptoRow : OpenClaim := { program := "ytpaelafopjmklaa", sum := "1ce778023fb85a15788f1c7d1e2e5af7baa99121af4351da13c33787c09271fa", func := "loop.example/g01375/laws.FnExactWidthOfCenters", spec := "fnExactWidthOfCenters", inPlace := ["math.sqrt", "math.Float64bits", "math.Float64frombits"], unfollowed := true, recurses := true, apart := false, narrowed := true }
def FnExactWidthOfCentersUptoSaid : Prop := fnExactWidthOfCentersUptoRow.holds Try.pinned (OpenSpec.upto fnExactWidthOfCentersSpec)

/-- 'laws.FnExactSignsOf', WHERE WHAT IT READS IS OF BULK AT MOST 1048576: true; the input reads as it did. -/
def fnExactSignsOfUptoRow : OpenClaim := { program := "ytpaelafopjmklaa", sum := "1ce778023fb85a15788f1c7d1e2e5af7baa99121af4351da13c33787c09271fa", func := "loop.example/g01375/laws.FnExactSignsOf", spec := "fnExactSignsOf", inPlace := ["math.Float64bits", "math.Float64frombits"], unfollowed := true, recurses := true, apart := false, narrowed := true }
def FnExactSignsOfUptoSaid : Prop := fnExactSignsOfUptoRow.holds Try.pinned (OpenSpec.upto fnExactSignsOfSpec)

end Rows
end Go.Proofs.Ytpaelafopjmklaa
