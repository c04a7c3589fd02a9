/-
  No cell of these rows narrows 'for every input' (looked for: loops, veiled, ifaces, maps, wideKeys, modest, calm, conditions, laid).
  DERIVED. THE GIVEN ROWS OF THIS SEAT. 7 by the template 'for every input the law returns true; each argument reads behind the call as it read before'; 0 by the template 'total and deterministic' (their statements: YtallegmkkbmelaaTotals.lean).
  GIVEN WITH THE SEED: the statements are not yours to turn. If you find one false, say at which input.
  Laid BY PROGRAM, IN A SANDBOX (cutbox-rows.mjs): the forced cells as the released guide's own fill.sh prints them over the translation ddd9e888fa4e95c1… (all of the seat's roots in one cut). By AI agents, Wed Nov 11 2026. No macro, syntax, notation, axiom, sorry.
-/
import Derived.Test.YtallegmkkbmelaaChecked
import GoSem.Claim
import GoSem.ClaimJoined
import GoSem.ClaimMapViews
import Derived.JoinedTies
import Derived.KernelRfl
namespace Go.Proofs.Ytallegmkkbmelaa
/- THE CELL 'sum', in the pinned program and in every row, IS THE sha256 OF THE DUMP (.gsa) THAT YtallegmkkbmelaaProg.lean LOADS. Nothing in Lean hashes anything: it is a label: what it is worth is what the hold of that sum in a sandbox is worth. -/
noncomputable def Try.pinned : Pinned := { name := "ytallegmkkbmelaa", sum := "ddd9e888fa4e95c18571fe576a767fab4f0e0973912004c1928269c4e8e7fb0a", checked := Try.checked }
namespace Rows
def none {H : Type} : Left H := { results := [], args := [] }

/-- 'laws.FnExactMedianOf': WHATEVER THE INPUT: true; the input reads as it did. -/
def fnExactMedianOfSpec : ChangeSpec := { name := "fnExactMedianOf", fn := fun _ => fun
  | [d] => { results := [.lit (.bool true)], args := [d] }
  | _ => none }
def fnExactMedianOfRow : OpenClaim := { program := "ytallegmkkbmelaa", sum := "ddd9e888fa4e95c18571fe576a767fab4f0e0973912004c1928269c4e8e7fb0a", func := "loop.example/g01375/laws.FnExactMedianOf", spec := "fnExactMedianOf", inPlace := ["math.Float64bits", "math.Float64frombits"], unfollowed := true, recurses := true, apart := false }
def FnExactMedianOfSaid : Prop := fnExactMedianOfRow.holds Try.pinned (OpenSpec.ofChange fnExactMedianOfSpec)

/-- ITS FALSE NEIGHBOUR: 'it returns false'. Refute it at one input. -/
def fnExactMedianOfWrong : ChangeSpec := { name := "fnExactMedianOf", fn := fun _ => fun
  | [d] => { results := [.lit (.bool false)], args := [d] }
  | _ => none }
def FnExactMedianOfWrongFalsely : Prop := fnExactMedianOfRow.holds Try.pinned (OpenSpec.ofChange fnExactMedianOfWrong)

/-- 'laws.FnExactQuantileOf': WHATEVER THE INPUT: true; the input reads as it did. -/
def fnExactQuantileOfSpec : ChangeSpec := { name := "fnExactQuantileOf", fn := fun _ => fun
  | [d1, d2] => { results := [.lit (.bool true)], args := [d1, d2] }
  | _ => none }
def fnExactQuantileOfRow : OpenClaim := { program := "ytallegmkkbmelaa", sum := "ddd9e888fa4e95c18571fe576a767fab4f0e0973912004c1928269c4e8e7fb0a", func := "loop.example/g01375/laws.FnExactQuantileOf", spec := "fnExactQuantileOf", inPlace := ["math.Float64bits", "math.Float64frombits"], unfollowed := true, recurses := true, apart := false }
def FnExactQuantileOfSaid : Prop := fnExactQuantileOfRow.holds Try.pinned (OpenSpec.ofChange fnExactQuantileOfSpec)

/-- ITS FALSE NEIGHBOUR: 'it returns false'. Refute it at one input. -/
def fnExactQuantileOfWrong : ChangeSpec := { name := "fnExactQuantileOf", fn := fun _ => fun
  | [d1, d2] => { results := [.lit (.bool false)], args := [d1, d2] }
  | _ => none }
def FnExactQuantileOfWrongFalsely : Prop := fnExactQuantileOfRow.holds Try.pinned (OpenSpec.ofChange fnExactQuantileOfWrong)

/-- 'laws.FnExactMovingMedian': WHATEVER THE INPUT: true; the input reads as it did. -/
def fnExactMovingMedianSpec : ChangeSpec := { name := "fnExactMovingMedian", fn := fun _ => fun
  | [d1, d2] => { results := [.lit (.bool true)], args := [d1, d2] }
  | _ => none }
def fnExactMovingMedianRow : OpenClaim := { program := "ytallegmkkbmelaa", sum := "ddd9e888fa4e95c18571fe576a767fab4f0e0973912004c1928269c4e8e7fb0a", func := "loop.example/g01375/laws.FnExactMovingMedian", spec := "fnExactMovingMedian", inPlace := ["math.Float64bits", "math.Float64frombits"], unfollowed := true, recurses := true, apart := false }
def FnExactMovingMedianSaid : Prop := fnExactMovingMedianRow.holds Try.pinned (OpenSpec.ofChange fnExactMovingMedianSpec)

/-- ITS FALSE NEIGHBOUR: 'it returns false'. Refute it at one input. -/
def fnExactMovingMedianWrong : ChangeSpec := { name := "fnExactMovingMedian", fn := fun _ => fun
  | [d1, d2] => { results := [.lit (.bool false)], args := [d1, d2] }
  | _ => none }
def FnExactMovingMedianWrongFalsely : Prop := fnExactMovingMedianRow.holds Try.pinned (OpenSpec.ofChange fnExactMovingMedianWrong)

/-- 'laws.FnExactTakeApart': WHATEVER THE INPUT: true; the input reads as it did. -/
def fnExactTakeApartSpec : ChangeSpec := { name := "fnExactTakeApart", fn := fun _ => fun
  | [d1, d2, d3, d4] => { results := [.lit (.bool true)], args := [d1, d2, d3, d4] }
  | _ => none }
def fnExactTakeApartRow : OpenClaim := { program := "ytallegmkkbmelaa", sum := "ddd9e888fa4e95c18571fe576a767fab4f0e0973912004c1928269c4e8e7fb0a", func := "loop.example/g01375/laws.FnExactTakeApart", spec := "fnExactTakeApart", inPlace := ["math.Float64bits", "math.Float64frombits"], unfollowed := true, recurses := true, apart := false }
def FnExactTakeApartSaid : Prop := fnExactTakeApartRow.holds Try.pinned (OpenSpec.ofChange fnExactTakeApartSpec)

/-- ITS FALSE NEIGHBOUR: 'it returns false'. Refute it at one input. -/
def fnExactTakeApartWrong : ChangeSpec := { name := "fnExactTakeApart", fn := fun _ => fun
  | [d1, d2, d3, d4] => { results := [.lit (.bool false)], args := [d1, d2, d3, d4] }
  | _ => none }
def FnExactTakeApartWrongFalsely : Prop := fnExactTakeApartRow.holds Try.pinned (OpenSpec.ofChange fnExactTakeApartWrong)

/-- 'laws.FnExactLineFit': WHATEVER THE INPUT: true; the input reads as it did. -/
def fnExactLineFitSpec : ChangeSpec := { name := "fnExactLineFit", fn := fun _ => fun
  | [d] => { results := [.lit (.bool true)], args := [d] }
  | _ => none }
def fnExactLineFitRow : OpenClaim := { program := "ytallegmkkbmelaa", sum := "ddd9e888fa4e95c18571fe576a767fab4f0e0973912004c1928269c4e8e7fb0a", func := "loop.example/g01375/laws.FnExactLineFit", spec := "fnExactLineFit", inPlace := ["math.Float64bits", "math.Float64frombits"], unfollowed := true, recurses := true, apart := false }
def FnExactLineFitSaid : Prop := fnExactLineFitRow.holds Try.pinned (OpenSpec.ofChange fnExactLineFitSpec)

/-- ITS FALSE NEIGHBOUR: 'it returns false'. Refute it at one input. -/
def fnExactLineFitWrong : ChangeSpec := { name := "fnExactLineFit", fn := fun _ => fun
  | [d] => { results := [.lit (.bool false)], args := [d] }
  | _ => none }
def FnExactLineFitWrongFalsely : Prop := fnExactLineFitRow.holds Try.pinned (OpenSpec.ofChange fnExactLineFitWrong)

/-- 'laws.FnExactFoldedBy': WHATEVER THE INPUT: true; the input reads as it did. -/
def fnExactFoldedBySpec : ChangeSpec := { name := "fnExactFoldedBy", fn := fun _ => fun
  | [d1, d2] => { results := [.lit (.bool true)], args := [d1, d2] }
  | _ => none }
def fnExactFoldedByRow : OpenClaim := { program := "ytallegmkkbmelaa", sum := "ddd9e888fa4e95c18571fe576a767fab4f0e0973912004c1928269c4e8e7fb0a", func := "loop.example/g01375/laws.FnExactFoldedBy", spec := "fnExactFoldedBy", inPlace := ["math.Float64bits", "math.Float64frombits"], unfollowed := true, recurses := true, apart := false }
def FnExactFoldedBySaid : Prop := fnExactFoldedByRow.holds Try.pinned (OpenSpec.ofChange fnExactFoldedBySpec)

/-- ITS FALSE NEIGHBOUR: 'it returns false'. Refute it at one input. -/
def fnExactFoldedByWrong : ChangeSpec := { name := "fnExactFoldedBy", fn := fun _ => fun
  | [d1, d2] => { results := [.lit (.bool false)], args := [d1, d2] }
  | _ => none }
def FnExactFoldedByWrongFalsely : Prop := fnExactFoldedByRow.holds Try.pinned (OpenSpec.ofChange fnExactFoldedByWrong)

/-- 'laws.FnExactStepWaves': WHATEVER THE INPUT: true; the input reads as it did. -/
def fnExactStepWavesSpec : ChangeSpec := { name := "fnExactStepWaves", fn := fun _ => fun
  | [d] => { results := [.lit (.bool true)], args := [d] }
  | _ => none }
def fnExactStepWavesRow : OpenClaim := { program := "ytallegmkkbmelaa", sum := "ddd9e888fa4e95c18571fe576a767fab4f0e0973912004c1928269c4e8e7fb0a", func := "loop.example/g01375/laws.FnExactStepWaves", spec := "fnExactStepWaves", inPlace := ["math.Float64bits", "math.Float64frombits"], unfollowed := true, recurses := true, apart := false }
def FnExactStepWavesSaid : Prop := fnExactStepWavesRow.holds Try.pinned (OpenSpec.ofChange fnExactStepWavesSpec)

/-- ITS FALSE NEIGHBOUR: 'it returns false'. Refute it at one input. -/
def fnExactStepWavesWrong : ChangeSpec := { name := "fnExactStepWaves", fn := fun _ => fun
  | [d] => { results := [.lit (.bool false)], args := [d] }
  | _ => none }
def FnExactStepWavesWrongFalsely : Prop := fnExactStepWavesRow.holds Try.pinned (OpenSpec.ofChange fnExactStepWavesWrong)

/- THE SECOND FORM. 'bulk': how many values and letters a reading holds, each counted each time it is reached (what is shared counts as often as it is met; a slice's spare places count too). A statement '..UptoSaid' is the law's where the arguments, and the package variables that the reading takes, are together of bulk at most 1048576: NARROWER than '..Said'. Prove '..Said' where nothing that the law and all that it calls make is longer than what came in: it says more and counts as full. Else prove '..UptoSaid'. A law counts once. -/
mutual
def uptoBulk {H : Type} : DataW H → Nat
  | .lit (.string bytes) => bytes.length + 1
  | .lit _ => 1
  | .nil => 1
  | .ptr d => uptoBulk d + 1
  | .slice elems spare => uptoBulkAll elems + uptoBulkAll spare + 1
  | .agg parts => uptoBulkAll parts + 1
  | .iface _ d => uptoBulk d + 1
  | .map entries => uptoBulkEntries entries + 1
  | .held _ => 1
def uptoBulkAll {H : Type} : List (DataW H) → Nat
  | [] => 0
  | d :: r => uptoBulk d + uptoBulkAll r
def uptoBulkEntries {H : Type} : List (Lit × DataW H) → Nat
  | [] => 0
  | x :: r => uptoBulkEntry x + uptoBulkEntries r
def uptoBulkEntry {H : Type} : Lit × DataW H → Nat
  | (.string bytes, d) => bytes.length + uptoBulk d + 1
  | (_, d) => uptoBulk d + 1
 end
def uptoSmall : (H : Type) → List (DataW H) → Bool := fun _ ds => decide (uptoBulkAll ds ≤ 1048576)
def OpenSpec.upto (s : _root_.Go.ChangeSpec) : _root_.Go.OpenSpec := { _root_.Go.OpenSpec.ofChange s with cond := some uptoSmall }

/-- 'laws.FnExactMedianOf', WHERE WHAT IT READS IS OF BULK AT MOST 1048576: true; the input reads as it did. -/
def fnExactMedianOfUptoRow : OpenClaim := { program := "ytallegmkkbmelaa", sum := "ddd9e888fa4e95c18571fe576a767fab4f0e0973912004c1928269c4e8e7fb0a", func := "loop.example/g01375/laws.FnExactMedianOf", spec := "fnExactMedianOf", inPlace := ["math.Float64bits", "math.Float64frombits"], unfollowed := true, recurses := true, apart := false, narrowed := true }
def FnExactMedianOfUptoSaid : Prop := fnExactMedianOfUptoRow.holds Try.pinned (OpenSpec.upto fnExactMedianOfSpec)

/-- 'laws.FnExactQuantileOf', WHERE WHAT IT READS IS OF BULK AT MOST 1048576: true; the input reads as it did. -/
def fnExactQuantileOfUptoRow : OpenClaim := { program := "ytallegmkkbmelaa", sum := "ddd9e888fa4e95c18571fe576a767fab4f0e0973912004c1928269c4e8e7fb0a", func := "loop.example/g01375/laws.FnExactQuantileOf", spec := "fnExactQuantileOf", inPlace := ["math.Float64bits", "math.Float64frombits"], unfollowed := true, recurses := true, apart := false, narrowed := true }
def FnExactQuantileOfUptoSaid : Prop := fnExactQuantileOfUptoRow.holds Try.pinned (OpenSpec.upto fnExactQuantileOfSpec)

/-- 'laws.FnExactMovingMedian', WHERE WHAT IT READS IS OF BULK AT MOST 1048576: true; the input reads as it did. -/
def fnExactMovingMedianUptoRow : OpenClaim := { program := "ytallegmkkbmelaa", sum := "ddd9e888fa4e95c18571fe576a767fab4f0e0973912004c1928269c4e8e7fb0a", func := "loop.example/g01375/laws.FnExactMovingMedian", spec := "fnExactMovingMedian", inPlace := ["math.Float64bits", "math.Float64frombits"], unfollowed := true, recurses := true, apart := false, narrowed := true }
def FnExactMovingMedianUptoSaid : Prop := fnExactMovingMedianUptoRow.holds Try.pinned (OpenSpec.upto fnExactMovingMedianSpec)

/-- 'laws.FnExactTakeApart', WHERE WHAT IT READS IS OF BULK AT MOST 1048576: true; the input reads as it did. -/
def fnExactTakeApartUptoRow : OpenClaim := { program := "ytallegmkkbmelaa", sum := "ddd9e888fa4e95c18571fe576a767fab4f0e0973912004c1928269c4e8e7fb0a", func := "loop.example/g01375/laws.FnExactTakeApart", spec := "fnExactTakeApart", inPlace := ["math.Float64bits", "math.Float64frombits"], unfollowed := true, recurses := true, apart := false, narrowed := true }
def FnExactTakeApartUptoSaid : Prop := fnExactTakeApartUptoRow.holds Try.pinned (OpenSpec.upto fnExactTakeApartSpec)

/-- 'laws.FnExactLineFit', WHERE WHAT IT READS IS OF BULK AT MOST 1048576: true; the input reads as it did. -/
def fnExactLineFitUptoRow : OpenClaim := { program := "ytallegmkkbmelaa", sum := "ddd9e888fa4e95c18571fe576a767fab4f0e0973912004c1928269c4e8e7fb0a", func := "loop.example/g01375/laws.FnExactLineFit", spec := "fnExactLineFit", inPlace := ["math.Float64bits", "math.Float64frombits"], unfollowed := true, recurses := true, apart := false, narrowed := true }
def FnExactLineFitUptoSaid : Prop := fnExactLineFitUptoRow.holds Try.pinned (OpenSpec.upto fnExactLineFitSpec)

/-- 'laws.FnExactFoldedBy', WHERE WHAT IT READS IS OF BULK AT MOST 1048576: true; the input reads as it did. -/
def fnExactFoldedByUptoRow : OpenClaim := { program := "ytallegmkkbmelaa", sum := "ddd9e888fa4e95c18571fe576a767fab4f0e0973912004c1928269c4e8e7fb0a", func := "loop.example/g01375/laws.FnExactFoldedBy", spec := "fnExactFoldedBy", inPlace := ["math.Float64bits", "math.Float64frombits"], unfollowed := true, recurses := true, apart := false, narrowed := true }
def FnExactFoldedByUptoSaid : Prop := fnExactFoldedByUptoRow.holds Try.pinned (OpenSpec.upto fnExactFoldedBySpec)

/-- 'laws.FnExactStepWaves', WHERE WHAT IT READS IS OF BULK AT MOST 1048576: true; the input reads as it did. -/
def fnExactStepWavesUptoRow : OpenClaim := { program := "ytallegmkkbmelaa", sum := "ddd9e888fa4e95c18571fe576a767fab4f0e0973912004c1928269c4e8e7fb0a", func := "loop.example/g01375/laws.FnExactStepWaves", spec := "fnExactStepWaves", inPlace := ["math.Float64bits", "math.Float64frombits"], unfollowed := true, recurses := true, apart := false, narrowed := true }
def FnExactStepWavesUptoSaid : Prop := fnExactStepWavesUptoRow.holds Try.pinned (OpenSpec.upto fnExactStepWavesSpec)

end Rows
end Go.Proofs.Ytallegmkkbmelaa
