/-
  No cell of these rows narrows 'for every input' (looked for: loops, veiled, ifaces, maps, wideKeys, modest, calm, conditions, laid).
  DERIVED. THE GIVEN ROWS OF THIS SEAT. 5 by the template 'for every input the law returns true; each argument reads behind the call as it read before'; 0 by the template 'total and deterministic' (their statements: YthbnmhinmkjmjaaTotals.lean).
  GIVEN WITH THE SEED: the statements are not yours to turn. If you find one false, say at which input.
  Laid BY PROGRAM, IN A SANDBOX (cutbox-rows.mjs): the forced cells as the released guide's own fill.sh prints them over the translation 88db9313ea8b070a… (all of the seat's roots in one cut). By AI agents, Wed Nov 11 2026. No macro, syntax, notation, axiom, sorry.
-/
import Derived.Test.YthbnmhinmkjmjaaChecked
import GoSem.Claim
import GoSem.ClaimJoined
import GoSem.ClaimMapViews
import Derived.JoinedTies
import Derived.KernelRfl
namespace Go.Proofs.Ythbnmhinmkjmjaa
/- THE CELL 'sum', in the pinned program and in every row, IS THE sha256 OF THE DUMP (.gsa) THAT YthbnmhinmkjmjaaProg.lean LOADS. Nothing in Lean hashes anything: it is a label: what it is worth is what the hold of that sum in a sandbox is worth. -/
noncomputable def Try.pinned : Pinned := { name := "ythbnmhinmkjmjaa", sum := "88db9313ea8b070af635c85caa64030f5f914e19cea0bdca861ecf59f8ab4196", checked := Try.checked }
namespace Rows
def none {H : Type} : Left H := { results := [], args := [] }

/-- 'laws.FnExactEvenSeries': WHATEVER THE INPUT: true; the input reads as it did. -/
def fnExactEvenSeriesSpec : ChangeSpec := { name := "fnExactEvenSeries", fn := fun _ => fun
  | [d] => { results := [.lit (.bool true)], args := [d] }
  | _ => none }
def fnExactEvenSeriesRow : OpenClaim := { program := "ythbnmhinmkjmjaa", sum := "88db9313ea8b070af635c85caa64030f5f914e19cea0bdca861ecf59f8ab4196", func := "loop.example/g01375/laws.FnExactEvenSeries", spec := "fnExactEvenSeries", inPlace := ["math.sqrt", "math.Float64bits", "math.Float64frombits"], unfollowed := true, recurses := true, apart := false }
def FnExactEvenSeriesSaid : Prop := fnExactEvenSeriesRow.holds Try.pinned (OpenSpec.ofChange fnExactEvenSeriesSpec)

/-- ITS FALSE NEIGHBOUR: 'it returns false'. Refute it at one input. -/
def fnExactEvenSeriesWrong : ChangeSpec := { name := "fnExactEvenSeries", fn := fun _ => fun
  | [d] => { results := [.lit (.bool false)], args := [d] }
  | _ => none }
def FnExactEvenSeriesWrongFalsely : Prop := fnExactEvenSeriesRow.holds Try.pinned (OpenSpec.ofChange fnExactEvenSeriesWrong)

/-- 'laws.FnExactTakeApart': WHATEVER THE INPUT: true; the input reads as it did. -/
def fnExactTakeApartSpec : ChangeSpec := { name := "fnExactTakeApart", fn := fun _ => fun
  | [d1, d2, d3, d4] => { results := [.lit (.bool true)], args := [d1, d2, d3, d4] }
  | _ => none }
def fnExactTakeApartRow : OpenClaim := { program := "ythbnmhinmkjmjaa", sum := "88db9313ea8b070af635c85caa64030f5f914e19cea0bdca861ecf59f8ab4196", func := "loop.example/g01375/laws.FnExactTakeApart", spec := "fnExactTakeApart", inPlace := ["math.Float64bits", "math.Float64frombits"], unfollowed := true, recurses := true, apart := false }
def FnExactTakeApartSaid : Prop := fnExactTakeApartRow.holds Try.pinned (OpenSpec.ofChange fnExactTakeApartSpec)

/-- ITS FALSE NEIGHBOUR: 'it returns false'. Refute it at one input. -/
def fnExactTakeApartWrong : ChangeSpec := { name := "fnExactTakeApart", fn := fun _ => fun
  | [d1, d2, d3, d4] => { results := [.lit (.bool false)], args := [d1, d2, d3, d4] }
  | _ => none }
def FnExactTakeApartWrongFalsely : Prop := fnExactTakeApartRow.holds Try.pinned (OpenSpec.ofChange fnExactTakeApartWrong)

/-- 'laws.FnExactMovingMedian': WHATEVER THE INPUT: true; the input reads as it did. -/
def fnExactMovingMedianSpec : ChangeSpec := { name := "fnExactMovingMedian", fn := fun _ => fun
  | [d1, d2] => { results := [.lit (.bool true)], args := [d1, d2] }
  | _ => none }
def fnExactMovingMedianRow : OpenClaim := { program := "ythbnmhinmkjmjaa", sum := "88db9313ea8b070af635c85caa64030f5f914e19cea0bdca861ecf59f8ab4196", func := "loop.example/g01375/laws.FnExactMovingMedian", spec := "fnExactMovingMedian", inPlace := ["math.Float64bits", "math.Float64frombits"], unfollowed := true, recurses := true, apart := false }
def FnExactMovingMedianSaid : Prop := fnExactMovingMedianRow.holds Try.pinned (OpenSpec.ofChange fnExactMovingMedianSpec)

/-- ITS FALSE NEIGHBOUR: 'it returns false'. Refute it at one input. -/
def fnExactMovingMedianWrong : ChangeSpec := { name := "fnExactMovingMedian", fn := fun _ => fun
  | [d1, d2] => { results := [.lit (.bool false)], args := [d1, d2] }
  | _ => none }
def FnExactMovingMedianWrongFalsely : Prop := fnExactMovingMedianRow.holds Try.pinned (OpenSpec.ofChange fnExactMovingMedianWrong)

/-- 'laws.FnUndone': WHATEVER THE INPUT: true; the input reads as it did. -/
def fnUndoneSpec : ChangeSpec := { name := "fnUndone", fn := fun _ => fun
  | [d1, d2] => { results := [.lit (.bool true)], args := [d1, d2] }
  | _ => none }
def fnUndoneRow : OpenClaim := { program := "ythbnmhinmkjmjaa", sum := "88db9313ea8b070af635c85caa64030f5f914e19cea0bdca861ecf59f8ab4196", func := "loop.example/g01375/laws.FnUndone", spec := "fnUndone", inPlace := ["math.Float64bits", "math.Float64frombits"], unfollowed := true, recurses := true, apart := false }
def FnUndoneSaid : Prop := fnUndoneRow.holds Try.pinned (OpenSpec.ofChange fnUndoneSpec)

/-- ITS FALSE NEIGHBOUR: 'it returns false'. Refute it at one input. -/
def fnUndoneWrong : ChangeSpec := { name := "fnUndone", fn := fun _ => fun
  | [d1, d2] => { results := [.lit (.bool false)], args := [d1, d2] }
  | _ => none }
def FnUndoneWrongFalsely : Prop := fnUndoneRow.holds Try.pinned (OpenSpec.ofChange fnUndoneWrong)

/-- 'laws.FnApart': WHATEVER THE INPUT: true; the input reads as it did. -/
def fnApartSpec : ChangeSpec := { name := "fnApart", fn := fun _ => fun
  | [d1, d2] => { results := [.lit (.bool true)], args := [d1, d2] }
  | _ => none }
def fnApartRow : OpenClaim := { program := "ythbnmhinmkjmjaa", sum := "88db9313ea8b070af635c85caa64030f5f914e19cea0bdca861ecf59f8ab4196", func := "loop.example/g01375/laws.FnApart", spec := "fnApart", inPlace := ["math.Float64bits", "math.Float64frombits"], unfollowed := true, recurses := true, apart := false }
def FnApartSaid : Prop := fnApartRow.holds Try.pinned (OpenSpec.ofChange fnApartSpec)

/-- ITS FALSE NEIGHBOUR: 'it returns false'. Refute it at one input. -/
def fnApartWrong : ChangeSpec := { name := "fnApart", fn := fun _ => fun
  | [d1, d2] => { results := [.lit (.bool false)], args := [d1, d2] }
  | _ => none }
def FnApartWrongFalsely : Prop := fnApartRow.holds Try.pinned (OpenSpec.ofChange fnApartWrong)

/- THE SECOND FORM. 'bulk': how many values and letters a reading holds, each counted each time it is reached (what is shared counts as often as it is met; a slice's spare places count too). A statement '..UptoSaid' is the law's where the arguments, and the package variables that the reading takes, are together of bulk at most 1048576: NARROWER than '..Said'. Prove '..Said' where nothing that the law and all that it calls make is longer than what came in: it says more and counts as full. Else prove '..UptoSaid'. A law counts once. -/
mutual
def uptoBulk {H : Type} : DataW H → Nat
  | .lit (.string bytes) => bytes.length + 1
  | .lit _ => 1
  | .nil => 1
  | .ptr d => uptoBulk d + 1
  | .slice elems spare => uptoBulkAll elems + uptoBulkAll spare + 1
  | .agg parts => uptoBulkAll parts + 1
  | .iface _ d => uptoBulk d + 1
  | .map entries => uptoBulkEntries entries + 1
  | .held _ => 1
def uptoBulkAll {H : Type} : List (DataW H) → Nat
  | [] => 0
  | d :: r => uptoBulk d + uptoBulkAll r
def uptoBulkEntries {H : Type} : List (Lit × DataW H) → Nat
  | [] => 0
  | x :: r => uptoBulkEntry x + uptoBulkEntries r
def uptoBulkEntry {H : Type} : Lit × DataW H → Nat
  | (.string bytes, d) => bytes.length + uptoBulk d + 1
  | (_, d) => uptoBulk d + 1
 end
def uptoSmall : (H : Type) → List (DataW H) → Bool := fun _ ds => decide (uptoBulkAll ds ≤ 1048576)
def OpenSpec.upto (s : _root_.Go.ChangeSpec) : _root_.Go.OpenSpec := { _root_.Go.OpenSpec.ofChange s with cond := some uptoSmall }

/-- 'laws.FnExactEvenSeries', WHERE WHAT IT READS IS OF BULK AT MOST 1048576: true; the input reads as it did. -/
def fnExactEvenSeriesUptoRow : OpenClaim := { program := "ythbnmhinmkjmjaa", sum := "88db9313ea8b070af635c85caa64030f5f914e19cea0bdca861ecf59f8ab4196", func := "loop.example/g01375/laws.FnExactEvenSeries", spec := "fnExactEvenSeries", inPlace := ["math.sqrt", "math.Float64bits", "math.Float64frombits"], unfollowed := true, recurses := true, apart := false, narrowed := true }
def FnExactEvenSeriesUptoSaid : Prop := fnExactEvenSeriesUptoRow.holds Try.pinned (OpenSpec.upto fnExactEvenSeriesSpec)

/-- 'laws.FnExactTakeApart', WHERE WHAT IT READS IS OF BULK AT MOST 1048576: true; the input reads as it did. -/
def fnExactTakeApartUptoRow : OpenClaim := { program := "ythbnmhinmkjmjaa", sum := "88db9313ea8b070af635c85caa64030f5f914e19cea0bdca861ecf59f8ab4196", func := "loop.example/g01375/laws.FnExactTakeApart", spec := "fnExactTakeApart", inPlace := ["math.Float64bits", "math.Float64frombits"], unfollowed := true, recurses := true, apart := false, narrowed := true }
def FnExactTakeApartUptoSaid : Prop := fnExactTakeApartUptoRow.holds Try.pinned (OpenSpec.upto fnExactTakeApartSpec)

/-- 'laws.FnExactMovingMedian', WHERE WHAT IT READS IS OF BULK AT MOST 1048576: true; the input reads as it did. -/
def fnExactMovingMedianUptoRow : OpenClaim := { program := "ythbnmhinmkjmjaa", sum := "88db9313ea8b070af635c85caa64030f5f914e19cea0bdca861ecf59f8ab4196", func := "loop.example/g01375/laws.FnExactMovingMedian", spec := "fnExactMovingMedian", inPlace := ["math.Float64bits", "math.Float64frombits"], unfollowed := true, recurses := true, apart := false, narrowed := true }
def FnExactMovingMedianUptoSaid : Prop := fnExactMovingMedianUptoRow.holds Try.pinned (OpenSpec.upto fnExactMovingMedianSpec)

/-- 'laws.FnUndone', WHERE WHAT IT READS IS OF BULK AT MOST 1048576: true; the input reads as it did. -/
def fnUndoneUptoRow : OpenClaim := { program := "ythbnmhinmkjmjaa", sum := "88db9313ea8b070af635c85caa64030f5f914e19cea0bdca861ecf59f8ab4196", func := "loop.example/g01375/laws.FnUndone", spec := "fnUndone", inPlace := ["math.Float64bits", "math.Float64frombits"], unfollowed := true, recurses := true, apart := false, narrowed := true }
def FnUndoneUptoSaid : Prop := fnUndoneUptoRow.holds Try.pinned (OpenSpec.upto fnUndoneSpec)

/-- 'laws.FnApart', WHERE WHAT IT READS IS OF BULK AT MOST 1048576: true; the input reads as it did. -/
def fnApartUptoRow : OpenClaim := { program := "ythbnmhinmkjmjaa", sum := "88db9313ea8b070af635c85caa64030f5f914e19cea0bdca861ecf59f8ab4196", func := "loop.example/g01375/laws.FnApart", spec := "fnApart", inPlace := ["math.Float64bits", "math.Float64frombits"], unfollowed := true, recurses := true, apart := false, narrowed := true }
def FnApartUptoSaid : Prop := fnApartUptoRow.holds Try.pinned (OpenSpec.upto fnApartSpec)

end Rows
end Go.Proofs.Ythbnmhinmkjmjaa
