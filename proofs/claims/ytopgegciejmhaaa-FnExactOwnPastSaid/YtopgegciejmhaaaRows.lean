/-
  No cell of these rows narrows 'for every input' (looked for: loops, veiled, ifaces, maps, wideKeys, modest, calm, conditions, laid).
  DERIVED. THE GIVEN ROWS OF THIS SEAT. 12 by the template 'for every input the law returns true; each argument reads behind the call as it read before'; 0 by the template 'total and deterministic' (their statements: YtopgegciejmhaaaTotals.lean).
  GIVEN WITH THE SEED: the statements are not yours to turn. If you find one false, say at which input.
  Laid BY PROGRAM, IN A SANDBOX (cutbox-rows.mjs): the forced cells as the released guide's own fill.sh prints them over the translation c9a3d5758455e16d… (all of the seat's roots in one cut). By AI agents, Wed Nov 11 2026. No macro, syntax, notation, axiom, sorry.
-/
import Derived.Test.YtopgegciejmhaaaChecked
import GoSem.Claim
import GoSem.ClaimJoined
import GoSem.ClaimMapViews
import Derived.JoinedTies
import Derived.KernelRfl
namespace Go.Proofs.Ytopgegciejmhaaa
/- THE CELL 'sum', in the pinned program and in every row, IS THE sha256 OF THE DUMP (.gsa) THAT YtopgegciejmhaaaProg.lean LOADS. Nothing in Lean hashes anything: it is a label: what it is worth is what the hold of that sum in a sandbox is worth. -/
noncomputable def Try.pinned : Pinned := { name := "ytopgegciejmhaaa", sum := "c9a3d5758455e16d8407cfef0a749127e5288d2c5b6c8efd53853ea7b49219b0", checked := Try.checked }
namespace Rows
def none {H : Type} : Left H := { results := [], args := [] }

/-- 'laws.FnExactFillGaps': WHATEVER THE INPUT: true; the input reads as it did. -/
def fnExactFillGapsSpec : ChangeSpec := { name := "fnExactFillGaps", fn := fun _ => fun
  | [d1, d2] => { results := [.lit (.bool true)], args := [d1, d2] }
  | _ => none }
def fnExactFillGapsRow : OpenClaim := { program := "ytopgegciejmhaaa", sum := "c9a3d5758455e16d8407cfef0a749127e5288d2c5b6c8efd53853ea7b49219b0", func := "loop.example/g01375/laws.FnExactFillGaps", spec := "fnExactFillGaps", inPlace := ["math.Float64bits", "math.Float64frombits"], unfollowed := true, recurses := true, apart := false }
def FnExactFillGapsSaid : Prop := fnExactFillGapsRow.holds Try.pinned (OpenSpec.ofChange fnExactFillGapsSpec)

/-- ITS FALSE NEIGHBOUR: 'it returns false'. Refute it at one input. -/
def fnExactFillGapsWrong : ChangeSpec := { name := "fnExactFillGaps", fn := fun _ => fun
  | [d1, d2] => { results := [.lit (.bool false)], args := [d1, d2] }
  | _ => none }
def FnExactFillGapsWrongFalsely : Prop := fnExactFillGapsRow.holds Try.pinned (OpenSpec.ofChange fnExactFillGapsWrong)

/-- 'laws.FnExactWeightFit': WHATEVER THE INPUT: true; the input reads as it did. -/
def fnExactWeightFitSpec : ChangeSpec := { name := "fnExactWeightFit", fn := fun _ => fun
  | [d1, d2, d3] => { results := [.lit (.bool true)], args := [d1, d2, d3] }
  | _ => none }
def fnExactWeightFitRow : OpenClaim := { program := "ytopgegciejmhaaa", sum := "c9a3d5758455e16d8407cfef0a749127e5288d2c5b6c8efd53853ea7b49219b0", func := "loop.example/g01375/laws.FnExactWeightFit", spec := "fnExactWeightFit", inPlace := ["math.Float64bits", "math.Float64frombits"], unfollowed := true, recurses := true, apart := false }
def FnExactWeightFitSaid : Prop := fnExactWeightFitRow.holds Try.pinned (OpenSpec.ofChange fnExactWeightFitSpec)

/-- ITS FALSE NEIGHBOUR: 'it returns false'. Refute it at one input. -/
def fnExactWeightFitWrong : ChangeSpec := { name := "fnExactWeightFit", fn := fun _ => fun
  | [d1, d2, d3] => { results := [.lit (.bool false)], args := [d1, d2, d3] }
  | _ => none }
def FnExactWeightFitWrongFalsely : Prop := fnExactWeightFitRow.holds Try.pinned (OpenSpec.ofChange fnExactWeightFitWrong)

/-- 'laws.FnExactColumnFit': WHATEVER THE INPUT: true; the input reads as it did. -/
def fnExactColumnFitSpec : ChangeSpec := { name := "fnExactColumnFit", fn := fun _ => fun
  | [d1, d2] => { results := [.lit (.bool true)], args := [d1, d2] }
  | _ => none }
def fnExactColumnFitRow : OpenClaim := { program := "ytopgegciejmhaaa", sum := "c9a3d5758455e16d8407cfef0a749127e5288d2c5b6c8efd53853ea7b49219b0", func := "loop.example/g01375/laws.FnExactColumnFit", spec := "fnExactColumnFit", inPlace := ["math.Float64bits", "math.Float64frombits"], unfollowed := true, recurses := true, apart := false }
def FnExactColumnFitSaid : Prop := fnExactColumnFitRow.holds Try.pinned (OpenSpec.ofChange fnExactColumnFitSpec)

/-- ITS FALSE NEIGHBOUR: 'it returns false'. Refute it at one input. -/
def fnExactColumnFitWrong : ChangeSpec := { name := "fnExactColumnFit", fn := fun _ => fun
  | [d1, d2] => { results := [.lit (.bool false)], args := [d1, d2] }
  | _ => none }
def FnExactColumnFitWrongFalsely : Prop := fnExactColumnFitRow.holds Try.pinned (OpenSpec.ofChange fnExactColumnFitWrong)

/-- 'laws.FnExactHarmonicAt': WHATEVER THE INPUT: true; the input reads as it did. -/
def fnExactHarmonicAtSpec : ChangeSpec := { name := "fnExactHarmonicAt", fn := fun _ => fun
  | [d1, d2, d3] => { results := [.lit (.bool true)], args := [d1, d2, d3] }
  | _ => none }
def fnExactHarmonicAtRow : OpenClaim := { program := "ytopgegciejmhaaa", sum := "c9a3d5758455e16d8407cfef0a749127e5288d2c5b6c8efd53853ea7b49219b0", func := "loop.example/g01375/laws.FnExactHarmonicAt", spec := "fnExactHarmonicAt", inPlace := ["math.Float32frombits", "math.Float64frombits", "math.Float64bits"], unfollowed := true, recurses := true, apart := false }
def FnExactHarmonicAtSaid : Prop := fnExactHarmonicAtRow.holds Try.pinned (OpenSpec.ofChange fnExactHarmonicAtSpec)

/-- ITS FALSE NEIGHBOUR: 'it returns false'. Refute it at one input. -/
def fnExactHarmonicAtWrong : ChangeSpec := { name := "fnExactHarmonicAt", fn := fun _ => fun
  | [d1, d2, d3] => { results := [.lit (.bool false)], args := [d1, d2, d3] }
  | _ => none }
def FnExactHarmonicAtWrongFalsely : Prop := fnExactHarmonicAtRow.holds Try.pinned (OpenSpec.ofChange fnExactHarmonicAtWrong)

/-- 'laws.FnExactHarmonicFit': WHATEVER THE INPUT: true; the input reads as it did. -/
def fnExactHarmonicFitSpec : ChangeSpec := { name := "fnExactHarmonicFit", fn := fun _ => fun
  | [d1, d2, d3] => { results := [.lit (.bool true)], args := [d1, d2, d3] }
  | _ => none }
def fnExactHarmonicFitRow : OpenClaim := { program := "ytopgegciejmhaaa", sum := "c9a3d5758455e16d8407cfef0a749127e5288d2c5b6c8efd53853ea7b49219b0", func := "loop.example/g01375/laws.FnExactHarmonicFit", spec := "fnExactHarmonicFit", inPlace := ["math.Float32frombits", "math.Float64frombits", "math.Float64bits"], unfollowed := true, recurses := true, apart := false }
def FnExactHarmonicFitSaid : Prop := fnExactHarmonicFitRow.holds Try.pinned (OpenSpec.ofChange fnExactHarmonicFitSpec)

/-- ITS FALSE NEIGHBOUR: 'it returns false'. Refute it at one input. -/
def fnExactHarmonicFitWrong : ChangeSpec := { name := "fnExactHarmonicFit", fn := fun _ => fun
  | [d1, d2, d3] => { results := [.lit (.bool false)], args := [d1, d2, d3] }
  | _ => none }
def FnExactHarmonicFitWrongFalsely : Prop := fnExactHarmonicFitRow.holds Try.pinned (OpenSpec.ofChange fnExactHarmonicFitWrong)

/-- 'laws.FnExactLinesOf': WHATEVER THE INPUT: true; the input reads as it did. -/
def fnExactLinesOfSpec : ChangeSpec := { name := "fnExactLinesOf", fn := fun _ => fun
  | [d] => { results := [.lit (.bool true)], args := [d] }
  | _ => none }
def fnExactLinesOfRow : OpenClaim := { program := "ytopgegciejmhaaa", sum := "c9a3d5758455e16d8407cfef0a749127e5288d2c5b6c8efd53853ea7b49219b0", func := "loop.example/g01375/laws.FnExactLinesOf", spec := "fnExactLinesOf", inPlace := ["math.Float32frombits", "math.Float64frombits", "math.Float64bits"], apart := false }
def FnExactLinesOfSaid : Prop := fnExactLinesOfRow.holds Try.pinned (OpenSpec.ofChange fnExactLinesOfSpec)

/-- ITS FALSE NEIGHBOUR: 'it returns false'. Refute it at one input. -/
def fnExactLinesOfWrong : ChangeSpec := { name := "fnExactLinesOf", fn := fun _ => fun
  | [d] => { results := [.lit (.bool false)], args := [d] }
  | _ => none }
def FnExactLinesOfWrongFalsely : Prop := fnExactLinesOfRow.holds Try.pinned (OpenSpec.ofChange fnExactLinesOfWrong)

/-- 'laws.FnExactLinePowers': WHATEVER THE INPUT: true; the input reads as it did. -/
def fnExactLinePowersSpec : ChangeSpec := { name := "fnExactLinePowers", fn := fun _ => fun
  | [d] => { results := [.lit (.bool true)], args := [d] }
  | _ => none }
def fnExactLinePowersRow : OpenClaim := { program := "ytopgegciejmhaaa", sum := "c9a3d5758455e16d8407cfef0a749127e5288d2c5b6c8efd53853ea7b49219b0", func := "loop.example/g01375/laws.FnExactLinePowers", spec := "fnExactLinePowers", inPlace := ["math.Float32frombits", "math.Float64frombits", "math.Float64bits"], unfollowed := true, recurses := true, apart := false }
def FnExactLinePowersSaid : Prop := fnExactLinePowersRow.holds Try.pinned (OpenSpec.ofChange fnExactLinePowersSpec)

/-- ITS FALSE NEIGHBOUR: 'it returns false'. Refute it at one input. -/
def fnExactLinePowersWrong : ChangeSpec := { name := "fnExactLinePowers", fn := fun _ => fun
  | [d] => { results := [.lit (.bool false)], args := [d] }
  | _ => none }
def FnExactLinePowersWrongFalsely : Prop := fnExactLinePowersRow.holds Try.pinned (OpenSpec.ofChange fnExactLinePowersWrong)

/-- 'laws.FnExactLeadOf': WHATEVER THE INPUT: true; the input reads as it did. -/
def fnExactLeadOfSpec : ChangeSpec := { name := "fnExactLeadOf", fn := fun _ => fun
  | [d1, d2, d3] => { results := [.lit (.bool true)], args := [d1, d2, d3] }
  | _ => none }
def fnExactLeadOfRow : OpenClaim := { program := "ytopgegciejmhaaa", sum := "c9a3d5758455e16d8407cfef0a749127e5288d2c5b6c8efd53853ea7b49219b0", func := "loop.example/g01375/laws.FnExactLeadOf", spec := "fnExactLeadOf", inPlace := ["math.Float32frombits", "math.Float64frombits", "math.Float64bits", "math.sqrt"], apart := false }
def FnExactLeadOfSaid : Prop := fnExactLeadOfRow.holds Try.pinned (OpenSpec.ofChange fnExactLeadOfSpec)

/-- ITS FALSE NEIGHBOUR: 'it returns false'. Refute it at one input. -/
def fnExactLeadOfWrong : ChangeSpec := { name := "fnExactLeadOf", fn := fun _ => fun
  | [d1, d2, d3] => { results := [.lit (.bool false)], args := [d1, d2, d3] }
  | _ => none }
def FnExactLeadOfWrongFalsely : Prop := fnExactLeadOfRow.holds Try.pinned (OpenSpec.ofChange fnExactLeadOfWrong)

/-- 'laws.FnExactPartLikes': WHATEVER THE INPUT: true; the input reads as it did. -/
def fnExactPartLikesSpec : ChangeSpec := { name := "fnExactPartLikes", fn := fun _ => fun
  | [d1, d2] => { results := [.lit (.bool true)], args := [d1, d2] }
  | _ => none }
def fnExactPartLikesRow : OpenClaim := { program := "ytopgegciejmhaaa", sum := "c9a3d5758455e16d8407cfef0a749127e5288d2c5b6c8efd53853ea7b49219b0", func := "loop.example/g01375/laws.FnExactPartLikes", spec := "fnExactPartLikes", inPlace := ["math.Float64bits", "math.Float64frombits"], unfollowed := true, recurses := true, apart := false }
def FnExactPartLikesSaid : Prop := fnExactPartLikesRow.holds Try.pinned (OpenSpec.ofChange fnExactPartLikesSpec)

/-- ITS FALSE NEIGHBOUR: 'it returns false'. Refute it at one input. -/
def fnExactPartLikesWrong : ChangeSpec := { name := "fnExactPartLikes", fn := fun _ => fun
  | [d1, d2] => { results := [.lit (.bool false)], args := [d1, d2] }
  | _ => none }
def FnExactPartLikesWrongFalsely : Prop := fnExactPartLikesRow.holds Try.pinned (OpenSpec.ofChange fnExactPartLikesWrong)

/-- 'laws.FnExactOwnPast': WHATEVER THE INPUT: true; the input reads as it did. -/
def fnExactOwnPastSpec : ChangeSpec := { name := "fnExactOwnPast", fn := fun _ => fun
  | [d1, d2] => { results := [.lit (.bool true)], args := [d1, d2] }
  | _ => none }
def fnExactOwnPastRow : OpenClaim := { program := "ytopgegciejmhaaa", sum := "c9a3d5758455e16d8407cfef0a749127e5288d2c5b6c8efd53853ea7b49219b0", func := "loop.example/g01375/laws.FnExactOwnPast", spec := "fnExactOwnPast", inPlace := ["math.Float64bits", "math.Float64frombits"], unfollowed := true, recurses := true, apart := false }
def FnExactOwnPastSaid : Prop := fnExactOwnPastRow.holds Try.pinned (OpenSpec.ofChange fnExactOwnPastSpec)

/-- ITS FALSE NEIGHBOUR: 'it returns false'. Refute it at one input. -/
def fnExactOwnPastWrong : ChangeSpec := { name := "fnExactOwnPast", fn := fun _ => fun
  | [d1, d2] => { results := [.lit (.bool false)], args := [d1, d2] }
  | _ => none }
def FnExactOwnPastWrongFalsely : Prop := fnExactOwnPastRow.holds Try.pinned (OpenSpec.ofChange fnExactOwnPastWrong)

/-- 'laws.FnExactMovingParts': WHATEVER THE INPUT: true; the input reads as it did. -/
def fnExactMovingPartsSpec : ChangeSpec := { name := "fnExactMovingParts", fn := fun _ => fun
  | [d1, d2, d3] => { results := [.lit (.bool true)], args := [d1, d2, d3] }
  | _ => none }
def fnExactMovingPartsRow : OpenClaim := { program := "ytopgegciejmhaaa", sum := "c9a3d5758455e16d8407cfef0a749127e5288d2c5b6c8efd53853ea7b49219b0", func := "loop.example/g01375/laws.FnExactMovingParts", spec := "fnExactMovingParts", inPlace := ["math.Float64bits", "math.Float64frombits"], unfollowed := true, recurses := true, apart := false }
def FnExactMovingPartsSaid : Prop := fnExactMovingPartsRow.holds Try.pinned (OpenSpec.ofChange fnExactMovingPartsSpec)

/-- ITS FALSE NEIGHBOUR: 'it returns false'. Refute it at one input. -/
def fnExactMovingPartsWrong : ChangeSpec := { name := "fnExactMovingParts", fn := fun _ => fun
  | [d1, d2, d3] => { results := [.lit (.bool false)], args := [d1, d2, d3] }
  | _ => none }
def FnExactMovingPartsWrongFalsely : Prop := fnExactMovingPartsRow.holds Try.pinned (OpenSpec.ofChange fnExactMovingPartsWrong)

/-- 'laws.FnExactRegimeShares': WHATEVER THE INPUT: true; the input reads as it did. -/
def fnExactRegimeSharesSpec : ChangeSpec := { name := "fnExactRegimeShares", fn := fun _ => fun
  | [d1, d2] => { results := [.lit (.bool true)], args := [d1, d2] }
  | _ => none }
def fnExactRegimeSharesRow : OpenClaim := { program := "ytopgegciejmhaaa", sum := "c9a3d5758455e16d8407cfef0a749127e5288d2c5b6c8efd53853ea7b49219b0", func := "loop.example/g01375/laws.FnExactRegimeShares", spec := "fnExactRegimeShares", inPlace := ["math.Float64frombits", "math.sqrt", "math.Float64bits"], unfollowed := true, recurses := true, apart := false }
def FnExactRegimeSharesSaid : Prop := fnExactRegimeSharesRow.holds Try.pinned (OpenSpec.ofChange fnExactRegimeSharesSpec)

/-- ITS FALSE NEIGHBOUR: 'it returns false'. Refute it at one input. -/
def fnExactRegimeSharesWrong : ChangeSpec := { name := "fnExactRegimeShares", fn := fun _ => fun
  | [d1, d2] => { results := [.lit (.bool false)], args := [d1, d2] }
  | _ => none }
def FnExactRegimeSharesWrongFalsely : Prop := fnExactRegimeSharesRow.holds Try.pinned (OpenSpec.ofChange fnExactRegimeSharesWrong)

/- THE SECOND FORM. 'bulk': how many values and letters a reading holds, each counted each time it is reached (what is shared counts as often as it is met; a slice's spare places count too). A statement '..UptoSaid' is the law's where the arguments, and the package variables that the reading takes, are together of bulk at most 1048576: NARROWER than '..Said'. Prove '..Said' where nothing that the law and all that it calls make is longer than what came in: it says more and counts as full. Else prove '..UptoSaid'. A law counts once. -/
mutual
def uptoBulk {H : Type} : DataW H → Nat
  | .lit (.string bytes) => bytes.length + 1
  | .lit _ => 1
  | .nil => 1
  | .ptr d => uptoBulk d + 1
  | .slice elems spare => uptoBulkAll elems + uptoBulkAll spare + 1
  | .agg parts => uptoBulkAll parts + 1
  | .iface _ d => uptoBulk d + 1
  | .map entries => uptoBulkEntries entries + 1
  | .held _ => 1
def uptoBulkAll {H : Type} : List (DataW H) → Nat
  | [] => 0
  | d :: r => uptoBulk d + uptoBulkAll r
def uptoBulkEntries {H : Type} : List (Lit × DataW H) → Nat
  | [] => 0
  | x :: r => uptoBulkEntry x + uptoBulkEntries r
def uptoBulkEntry {H : Type} : Lit × DataW H → Nat
  | (.string bytes, d) => bytes.length + uptoBulk d + 1
  | (_, d) => uptoBulk d + 1
 end
def uptoSmall : (H : Type) → List (DataW H) → Bool := fun _ ds => decide (uptoBulkAll ds ≤ 1048576)
def OpenSpec.upto (s : _root_.Go.ChangeSpec) : _root_.Go.OpenSpec := { _root_.Go.OpenSpec.ofChange s with cond := some uptoSmall }

/-- 'laws.FnExactFillGaps', WHERE WHAT IT READS IS OF BULK AT MOST 1048576: true; the input reads as it did. -/
def fnExactFillGapsUptoRow : OpenClaim := { program := "ytopgegciejmhaaa", sum := "c9a3d5758455e16d8407cfef0a749127e5288d2c5b6c8efd53853ea7b49219b0", func := "loop.example/g01375/laws.FnExactFillGaps", spec := "fnExactFillGaps", inPlace := ["math.Float64bits", "math.Float64frombits"], unfollowed := true, recurses := true, apart := false, narrowed := true }
def FnExactFillGapsUptoSaid : Prop := fnExactFillGapsUptoRow.holds Try.pinned (OpenSpec.upto fnExactFillGapsSpec)

/-- 'laws.FnExactWeightFit', WHERE WHAT IT READS IS OF BULK AT MOST 1048576: true; the input reads as it did. -/
def fnExactWeightFitUptoRow : OpenClaim := { program := "ytopgegciejmhaaa", sum := "c9a3d5758455e16d8407cfef0a749127e5288d2c5b6c8efd53853ea7b49219b0", func := "loop.example/g01375/laws.FnExactWeightFit", spec := "fnExactWeightFit", inPlace := ["math.Float64bits", "math.Float64frombits"], unfollowed := true, recurses := true, apart := false, narrowed := true }
def FnExactWeightFitUptoSaid : Prop := fnExactWeightFitUptoRow.holds Try.pinned (OpenSpec.upto fnExactWeightFitSpec)

/-- 'laws.FnExactColumnFit', WHERE WHAT IT READS IS OF BULK AT MOST 1048576: true; the input reads as it did. -/
def fnExactColumnFitUptoRow : OpenClaim := { program := "ytopgegciejmhaaa", sum := "c9a3d5758455e16d8407cfef0a749127e5288d2c5b6c8efd53853ea7b49219b0", func := "loop.example/g01375/laws.FnExactColumnFit", spec := "fnExactColumnFit", inPlace := ["math.Float64bits", "math.Float64frombits"], unfollowed := true, recurses := true, apart := false, narrowed := true }
def FnExactColumnFitUptoSaid : Prop := fnExactColumnFitUptoRow.holds Try.pinned (OpenSpec.upto fnExactColumnFitSpec)

/-- 'laws.FnExactHarmonicAt', WHERE WHAT IT READS IS OF BULK AT MOST 1048576: true; the input reads as it did. -/
def fnExactHarmonicAtUptoRow : OpenClaim := { program := "ytopgegciejmhaaa", sum := "c9a3d5758455e16d8407cfef0a749127e5288d2c5b6c8efd53853ea7b49219b0", func := "loop.example/g01375/laws.FnExactHarmonicAt", spec := "fnExactHarmonicAt", inPlace := ["math.Float32frombits", "math.Float64frombits", "math.Float64bits"], unfollowed := true, recurses := true, apart := false, narrowed := true }
def FnExactHarmonicAtUptoSaid : Prop := fnExactHarmonicAtUptoRow.holds Try.pinned (OpenSpec.upto fnExactHarmonicAtSpec)

/-- 'laws.FnExactHarmonicFit', WHERE WHAT IT READS IS OF BULK AT MOST 1048576: true; the input reads as it did. -/
def fnExactHarmonicFitUptoRow : OpenClaim := { program := "ytopgegciejmhaaa", sum := "c9a3d5758455e16d8407cfef0a749127e5288d2c5b6c8efd53853ea7b49219b0", func := "loop.example/g01375/laws.FnExactHarmonicFit", spec := "fnExactHarmonicFit", inPlace := ["math.Float32frombits", "math.Float64frombits", "math.Float64bits"], unfollowed := true, recurses := true, apart := false, narrowed := true }
def FnExactHarmonicFitUptoSaid : Prop := fnExactHarmonicFitUptoRow.holds Try.pinned (OpenSpec.upto fnExactHarmonicFitSpec)

/-- 'laws.FnExactLinesOf', WHERE WHAT IT READS IS OF BULK AT MOST 1048576: true; the input reads as it did. -/
def fnExactLinesOfUptoRow : OpenClaim := { program := "ytopgegciejmhaaa", sum := "c9a3d5758455e16d8407cfef0a749127e5288d2c5b6c8efd53853ea7b49219b0", func := "loop.example/g01375/laws.FnExactLinesOf", spec := "fnExactLinesOf", inPlace := ["math.Float32frombits", "math.Float64frombits", "math.Float64bits"], apart := false, narrowed := true }
def FnExactLinesOfUptoSaid : Prop := fnExactLinesOfUptoRow.holds Try.pinned (OpenSpec.upto fnExactLinesOfSpec)

/-- 'laws.FnExactLinePowers', WHERE WHAT IT READS IS OF BULK AT MOST 1048576: true; the input reads as it did. -/
def fnExactLinePowersUptoRow : OpenClaim := { program := "ytopgegciejmhaaa", sum := "c9a3d5758455e16d8407cfef0a749127e5288d2c5b6c8efd53853ea7b49219b0", func := "loop.example/g01375/laws.FnExactLinePowers", spec := "fnExactLinePowers", inPlace := ["math.Float32frombits", "math.Float64frombits", "math.Float64bits"], unfollowed := true, recurses := true, apart := false, narrowed := true }
def FnExactLinePowersUptoSaid : Prop := fnExactLinePowersUptoRow.holds Try.pinned (OpenSpec.upto fnExactLinePowersSpec)

/-- 'laws.FnExactLeadOf', WHERE WHAT IT READS IS OF BULK AT MOST 1048576: true; the input reads as it did. -/
def fnExactLeadOfUptoRow : OpenClaim := { program := "ytopgegciejmhaaa", sum := "c9a3d5758455e16d8407cfef0a749127e5288d2c5b6c8efd53853ea7b49219b0", func := "loop.example/g01375/laws.FnExactLeadOf", spec := "fnExactLeadOf", inPlace := ["math.Float32frombits", "math.Float64frombits", "math.Float64bits", "math.sqrt"], apart := false, narrowed := true }
def FnExactLeadOfUptoSaid : Prop := fnExactLeadOfUptoRow.holds Try.pinned (OpenSpec.upto fnExactLeadOfSpec)

/-- 'laws.FnExactPartLikes', WHERE WHAT IT READS IS OF BULK AT MOST 1048576: true; the input reads as it did. -/
def fnExactPartLikesUptoRow : OpenClaim := { program := "ytopgegciejmhaaa", sum := "c9a3d5758455e16d8407cfef0a749127e5288d2c5b6c8efd53853ea7b49219b0", func := "loop.example/g01375/laws.FnExactPartLikes", spec := "fnExactPartLikes", inPlace := ["math.Float64bits", "math.Float64frombits"], unfollowed := true, recurses := true, apart := false, narrowed := true }
def FnExactPartLikesUptoSaid : Prop := fnExactPartLikesUptoRow.holds Try.pinned (OpenSpec.upto fnExactPartLikesSpec)

/-- 'laws.FnExactOwnPast', WHERE WHAT IT READS IS OF BULK AT MOST 1048576: true; the input reads as it did. -/
def fnExactOwnPastUptoRow : OpenClaim := { program := "ytopgegciejmhaaa", sum := "c9a3d5758455e16d8407cfef0a749127e5288d2c5b6c8efd53853ea7b49219b0", func := "loop.example/g01375/laws.FnExactOwnPast", spec := "fnExactOwnPast", inPlace := ["math.Float64bits", "math.Float64frombits"], unfollowed := true, recurses := true, apart := false, narrowed := true }
def FnExactOwnPastUptoSaid : Prop := fnExactOwnPastUptoRow.holds Try.pinned (OpenSpec.upto fnExactOwnPastSpec)

/-- 'laws.FnExactMovingParts', WHERE WHAT IT READS IS OF BULK AT MOST 1048576: true; the input reads as it did. -/
def fnExactMovingPartsUptoRow : OpenClaim := { program := "ytopgegciejmhaaa", sum := "c9a3d5758455e16d8407cfef0a749127e5288d2c5b6c8efd53853ea7b49219b0", func := "loop.example/g01375/laws.FnExactMovingParts", spec := "fnExactMovingParts", inPlace := ["math.Float64bits", "math.Float64frombits"], unfollowed := true, recurses := true, apart := false, narrowed := true }
def FnExactMovingPartsUptoSaid : Prop := fnExactMovingPartsUptoRow.holds Try.pinned (OpenSpec.upto fnExactMovingPartsSpec)

/-- 'laws.FnExactRegimeShares', WHERE WHAT IT READS IS OF BULK AT MOST 1048576: true; the input reads as it did. -/
def fnExactRegimeSharesUptoRow : OpenClaim := { program := "ytopgegciejmhaaa", sum := "c9a3d5758455e16d8407cfef0a749127e5288d2c5b6c8efd53853ea7b49219b0", func := "loop.example/g01375/laws.FnExactRegimeShares", spec := "fnExactRegimeShares", inPlace := ["math.Float64frombits", "math.sqrt", "math.Float64bits"], unfollowed := true, recurses := true, apart := false, narrowed := true }
def FnExactRegimeSharesUptoSaid : Prop := fnExactRegimeSharesUptoRow.holds Try.pinned (OpenSpec.upto fnExactRegimeSharesSpec)

end Rows
end Go.Proofs.Ytopgegciejmhaaa
