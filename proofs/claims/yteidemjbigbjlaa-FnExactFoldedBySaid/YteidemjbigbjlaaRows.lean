/-
  No cell of these rows narrows 'for every input' (looked for: loops, veiled, ifaces, maps, wideKeys, modest, calm, conditions, laid).
  DERIVED. THE GIVEN ROWS OF THIS SEAT. 12 by the template 'for every input the law returns true; each argument reads behind the call as it read before'; 0 by the template 'total and deterministic' (their statements: YteidemjbigbjlaaTotals.lean).
  GIVEN WITH THE SEED: the statements are not yours to turn. If you find one false, say at which input.
  Laid BY PROGRAM, IN A SANDBOX (cutbox-rows.mjs): the forced cells as the released guide's own fill.sh prints them over the translation 7be96827180b122d… (all of the seat's roots in one cut). By AI agents, Wed Nov 11 2026. No macro, syntax, notation, axiom, sorry.
-/
import Derived.Test.YteidemjbigbjlaaChecked
import GoSem.Claim
import GoSem.ClaimJoined
import GoSem.ClaimMapViews
import Derived.JoinedTies
import Derived.KernelRfl
namespace Go.Proofs.Yteidemjbigbjlaa
/- THE CELL 'sum', in the pinned program and in every row, IS THE sha256 OF THE DUMP (.gsa) THAT YteidemjbigbjlaaProg.lean LOADS. Nothing in Lean hashes anything: it is a label: what it is worth is what the hold of that sum in a sandbox is worth. -/
noncomputable def Try.pinned : Pinned := { name := "yteidemjbigbjlaa", sum := "7be96827180b122ddc19f8a9aa3b5e222d50a653891e5b22ecfae491d7840106", checked := Try.checked }
namespace Rows
def none {H : Type} : Left H := { results := [], args := [] }

/-- 'laws.FnExactTakeApart': WHATEVER THE INPUT: true; the input reads as it did. -/
def fnExactTakeApartSpec : ChangeSpec := { name := "fnExactTakeApart", fn := fun _ => fun
  | [d1, d2, d3, d4] => { results := [.lit (.bool true)], args := [d1, d2, d3, d4] }
  | _ => none }
def fnExactTakeApartRow : OpenClaim := { program := "yteidemjbigbjlaa", sum := "7be96827180b122ddc19f8a9aa3b5e222d50a653891e5b22ecfae491d7840106", func := "loop.example/g01375/laws.FnExactTakeApart", spec := "fnExactTakeApart", inPlace := ["math.Float64bits", "math.Float64frombits"], unfollowed := true, recurses := true, apart := false }
def FnExactTakeApartSaid : Prop := fnExactTakeApartRow.holds Try.pinned (OpenSpec.ofChange fnExactTakeApartSpec)

/-- ITS FALSE NEIGHBOUR: 'it returns false'. Refute it at one input. -/
def fnExactTakeApartWrong : ChangeSpec := { name := "fnExactTakeApart", fn := fun _ => fun
  | [d1, d2, d3, d4] => { results := [.lit (.bool false)], args := [d1, d2, d3, d4] }
  | _ => none }
def FnExactTakeApartWrongFalsely : Prop := fnExactTakeApartRow.holds Try.pinned (OpenSpec.ofChange fnExactTakeApartWrong)

/-- 'laws.FnExactCrossLikes': WHATEVER THE INPUT: true; the input reads as it did. -/
def fnExactCrossLikesSpec : ChangeSpec := { name := "fnExactCrossLikes", fn := fun _ => fun
  | [d1, d2, d3] => { results := [.lit (.bool true)], args := [d1, d2, d3] }
  | _ => none }
def fnExactCrossLikesRow : OpenClaim := { program := "yteidemjbigbjlaa", sum := "7be96827180b122ddc19f8a9aa3b5e222d50a653891e5b22ecfae491d7840106", func := "loop.example/g01375/laws.FnExactCrossLikes", spec := "fnExactCrossLikes", inPlace := ["math.sqrt", "math.Float64bits", "math.Float64frombits"], unfollowed := true, recurses := true, apart := false }
def FnExactCrossLikesSaid : Prop := fnExactCrossLikesRow.holds Try.pinned (OpenSpec.ofChange fnExactCrossLikesSpec)

/-- ITS FALSE NEIGHBOUR: 'it returns false'. Refute it at one input. -/
def fnExactCrossLikesWrong : ChangeSpec := { name := "fnExactCrossLikes", fn := fun _ => fun
  | [d1, d2, d3] => { results := [.lit (.bool false)], args := [d1, d2, d3] }
  | _ => none }
def FnExactCrossLikesWrongFalsely : Prop := fnExactCrossLikesRow.holds Try.pinned (OpenSpec.ofChange fnExactCrossLikesWrong)

/-- 'laws.FnExactTapered': WHATEVER THE INPUT: true; the input reads as it did. -/
def fnExactTaperedSpec : ChangeSpec := { name := "fnExactTapered", fn := fun _ => fun
  | [d1, d2] => { results := [.lit (.bool true)], args := [d1, d2] }
  | _ => none }
def fnExactTaperedRow : OpenClaim := { program := "yteidemjbigbjlaa", sum := "7be96827180b122ddc19f8a9aa3b5e222d50a653891e5b22ecfae491d7840106", func := "loop.example/g01375/laws.FnExactTapered", spec := "fnExactTapered", inPlace := ["math.Float32frombits", "math.Float64frombits", "math.Float64bits"], unfollowed := true, recurses := true, apart := false }
def FnExactTaperedSaid : Prop := fnExactTaperedRow.holds Try.pinned (OpenSpec.ofChange fnExactTaperedSpec)

/-- ITS FALSE NEIGHBOUR: 'it returns false'. Refute it at one input. -/
def fnExactTaperedWrong : ChangeSpec := { name := "fnExactTapered", fn := fun _ => fun
  | [d1, d2] => { results := [.lit (.bool false)], args := [d1, d2] }
  | _ => none }
def FnExactTaperedWrongFalsely : Prop := fnExactTaperedRow.holds Try.pinned (OpenSpec.ofChange fnExactTaperedWrong)

/-- 'laws.FnExactRankLike': WHATEVER THE INPUT: true; the input reads as it did. -/
def fnExactRankLikeSpec : ChangeSpec := { name := "fnExactRankLike", fn := fun _ => fun
  | [d1, d2] => { results := [.lit (.bool true)], args := [d1, d2] }
  | _ => none }
def fnExactRankLikeRow : OpenClaim := { program := "yteidemjbigbjlaa", sum := "7be96827180b122ddc19f8a9aa3b5e222d50a653891e5b22ecfae491d7840106", func := "loop.example/g01375/laws.FnExactRankLike", spec := "fnExactRankLike", inPlace := ["math.sqrt", "math.Float64bits", "math.Float64frombits"], unfollowed := true, recurses := true, apart := false }
def FnExactRankLikeSaid : Prop := fnExactRankLikeRow.holds Try.pinned (OpenSpec.ofChange fnExactRankLikeSpec)

/-- ITS FALSE NEIGHBOUR: 'it returns false'. Refute it at one input. -/
def fnExactRankLikeWrong : ChangeSpec := { name := "fnExactRankLike", fn := fun _ => fun
  | [d1, d2] => { results := [.lit (.bool false)], args := [d1, d2] }
  | _ => none }
def FnExactRankLikeWrongFalsely : Prop := fnExactRankLikeRow.holds Try.pinned (OpenSpec.ofChange fnExactRankLikeWrong)

/-- 'laws.FnExactFoldedBy': WHATEVER THE INPUT: true; the input reads as it did. -/
def fnExactFoldedBySpec : ChangeSpec := { name := "fnExactFoldedBy", fn := fun _ => fun
  | [d1, d2] => { results := [.lit (.bool true)], args := [d1, d2] }
  | _ => none }
def fnExactFoldedByRow : OpenClaim := { program := "yteidemjbigbjlaa", sum := "7be96827180b122ddc19f8a9aa3b5e222d50a653891e5b22ecfae491d7840106", func := "loop.example/g01375/laws.FnExactFoldedBy", spec := "fnExactFoldedBy", inPlace := ["math.Float64bits", "math.Float64frombits"], unfollowed := true, recurses := true, apart := false }
def FnExactFoldedBySaid : Prop := fnExactFoldedByRow.holds Try.pinned (OpenSpec.ofChange fnExactFoldedBySpec)

/-- ITS FALSE NEIGHBOUR: 'it returns false'. Refute it at one input. -/
def fnExactFoldedByWrong : ChangeSpec := { name := "fnExactFoldedBy", fn := fun _ => fun
  | [d1, d2] => { results := [.lit (.bool false)], args := [d1, d2] }
  | _ => none }
def FnExactFoldedByWrongFalsely : Prop := fnExactFoldedByRow.holds Try.pinned (OpenSpec.ofChange fnExactFoldedByWrong)

/-- 'laws.FnExactWeightFit': WHATEVER THE INPUT: true; the input reads as it did. -/
def fnExactWeightFitSpec : ChangeSpec := { name := "fnExactWeightFit", fn := fun _ => fun
  | [d1, d2, d3] => { results := [.lit (.bool true)], args := [d1, d2, d3] }
  | _ => none }
def fnExactWeightFitRow : OpenClaim := { program := "yteidemjbigbjlaa", sum := "7be96827180b122ddc19f8a9aa3b5e222d50a653891e5b22ecfae491d7840106", func := "loop.example/g01375/laws.FnExactWeightFit", spec := "fnExactWeightFit", inPlace := ["math.Float64bits", "math.Float64frombits"], unfollowed := true, recurses := true, apart := false }
def FnExactWeightFitSaid : Prop := fnExactWeightFitRow.holds Try.pinned (OpenSpec.ofChange fnExactWeightFitSpec)

/-- ITS FALSE NEIGHBOUR: 'it returns false'. Refute it at one input. -/
def fnExactWeightFitWrong : ChangeSpec := { name := "fnExactWeightFit", fn := fun _ => fun
  | [d1, d2, d3] => { results := [.lit (.bool false)], args := [d1, d2, d3] }
  | _ => none }
def FnExactWeightFitWrongFalsely : Prop := fnExactWeightFitRow.holds Try.pinned (OpenSpec.ofChange fnExactWeightFitWrong)

/-- 'laws.FnExactLinePowers': WHATEVER THE INPUT: true; the input reads as it did. -/
def fnExactLinePowersSpec : ChangeSpec := { name := "fnExactLinePowers", fn := fun _ => fun
  | [d] => { results := [.lit (.bool true)], args := [d] }
  | _ => none }
def fnExactLinePowersRow : OpenClaim := { program := "yteidemjbigbjlaa", sum := "7be96827180b122ddc19f8a9aa3b5e222d50a653891e5b22ecfae491d7840106", func := "loop.example/g01375/laws.FnExactLinePowers", spec := "fnExactLinePowers", inPlace := ["math.Float32frombits", "math.Float64frombits", "math.Float64bits"], unfollowed := true, recurses := true, apart := false }
def FnExactLinePowersSaid : Prop := fnExactLinePowersRow.holds Try.pinned (OpenSpec.ofChange fnExactLinePowersSpec)

/-- ITS FALSE NEIGHBOUR: 'it returns false'. Refute it at one input. -/
def fnExactLinePowersWrong : ChangeSpec := { name := "fnExactLinePowers", fn := fun _ => fun
  | [d] => { results := [.lit (.bool false)], args := [d] }
  | _ => none }
def FnExactLinePowersWrongFalsely : Prop := fnExactLinePowersRow.holds Try.pinned (OpenSpec.ofChange fnExactLinePowersWrong)

/-- 'laws.FnExactHarmonicAt': WHATEVER THE INPUT: true; the input reads as it did. -/
def fnExactHarmonicAtSpec : ChangeSpec := { name := "fnExactHarmonicAt", fn := fun _ => fun
  | [d1, d2, d3] => { results := [.lit (.bool true)], args := [d1, d2, d3] }
  | _ => none }
def fnExactHarmonicAtRow : OpenClaim := { program := "yteidemjbigbjlaa", sum := "7be96827180b122ddc19f8a9aa3b5e222d50a653891e5b22ecfae491d7840106", func := "loop.example/g01375/laws.FnExactHarmonicAt", spec := "fnExactHarmonicAt", inPlace := ["math.Float32frombits", "math.Float64frombits", "math.Float64bits"], unfollowed := true, recurses := true, apart := false }
def FnExactHarmonicAtSaid : Prop := fnExactHarmonicAtRow.holds Try.pinned (OpenSpec.ofChange fnExactHarmonicAtSpec)

/-- ITS FALSE NEIGHBOUR: 'it returns false'. Refute it at one input. -/
def fnExactHarmonicAtWrong : ChangeSpec := { name := "fnExactHarmonicAt", fn := fun _ => fun
  | [d1, d2, d3] => { results := [.lit (.bool false)], args := [d1, d2, d3] }
  | _ => none }
def FnExactHarmonicAtWrongFalsely : Prop := fnExactHarmonicAtRow.holds Try.pinned (OpenSpec.ofChange fnExactHarmonicAtWrong)

/-- 'laws.FnExactLinesOf': WHATEVER THE INPUT: true; the input reads as it did. -/
def fnExactLinesOfSpec : ChangeSpec := { name := "fnExactLinesOf", fn := fun _ => fun
  | [d] => { results := [.lit (.bool true)], args := [d] }
  | _ => none }
def fnExactLinesOfRow : OpenClaim := { program := "yteidemjbigbjlaa", sum := "7be96827180b122ddc19f8a9aa3b5e222d50a653891e5b22ecfae491d7840106", func := "loop.example/g01375/laws.FnExactLinesOf", spec := "fnExactLinesOf", inPlace := ["math.Float32frombits", "math.Float64frombits", "math.Float64bits"], apart := false }
def FnExactLinesOfSaid : Prop := fnExactLinesOfRow.holds Try.pinned (OpenSpec.ofChange fnExactLinesOfSpec)

/-- ITS FALSE NEIGHBOUR: 'it returns false'. Refute it at one input. -/
def fnExactLinesOfWrong : ChangeSpec := { name := "fnExactLinesOf", fn := fun _ => fun
  | [d] => { results := [.lit (.bool false)], args := [d] }
  | _ => none }
def FnExactLinesOfWrongFalsely : Prop := fnExactLinesOfRow.holds Try.pinned (OpenSpec.ofChange fnExactLinesOfWrong)

/-- 'laws.FnExactPartLikes': WHATEVER THE INPUT: true; the input reads as it did. -/
def fnExactPartLikesSpec : ChangeSpec := { name := "fnExactPartLikes", fn := fun _ => fun
  | [d1, d2] => { results := [.lit (.bool true)], args := [d1, d2] }
  | _ => none }
def fnExactPartLikesRow : OpenClaim := { program := "yteidemjbigbjlaa", sum := "7be96827180b122ddc19f8a9aa3b5e222d50a653891e5b22ecfae491d7840106", func := "loop.example/g01375/laws.FnExactPartLikes", spec := "fnExactPartLikes", inPlace := ["math.Float64bits", "math.Float64frombits"], unfollowed := true, recurses := true, apart := false }
def FnExactPartLikesSaid : Prop := fnExactPartLikesRow.holds Try.pinned (OpenSpec.ofChange fnExactPartLikesSpec)

/-- ITS FALSE NEIGHBOUR: 'it returns false'. Refute it at one input. -/
def fnExactPartLikesWrong : ChangeSpec := { name := "fnExactPartLikes", fn := fun _ => fun
  | [d1, d2] => { results := [.lit (.bool false)], args := [d1, d2] }
  | _ => none }
def FnExactPartLikesWrongFalsely : Prop := fnExactPartLikesRow.holds Try.pinned (OpenSpec.ofChange fnExactPartLikesWrong)

/-- 'laws.FnExactLagColumns': WHATEVER THE INPUT: true; the input reads as it did. -/
def fnExactLagColumnsSpec : ChangeSpec := { name := "fnExactLagColumns", fn := fun _ => fun
  | [d1, d2] => { results := [.lit (.bool true)], args := [d1, d2] }
  | _ => none }
def fnExactLagColumnsRow : OpenClaim := { program := "yteidemjbigbjlaa", sum := "7be96827180b122ddc19f8a9aa3b5e222d50a653891e5b22ecfae491d7840106", func := "loop.example/g01375/laws.FnExactLagColumns", spec := "fnExactLagColumns", inPlace := ["math.Float64bits", "math.Float64frombits"], apart := false }
def FnExactLagColumnsSaid : Prop := fnExactLagColumnsRow.holds Try.pinned (OpenSpec.ofChange fnExactLagColumnsSpec)

/-- ITS FALSE NEIGHBOUR: 'it returns false'. Refute it at one input. -/
def fnExactLagColumnsWrong : ChangeSpec := { name := "fnExactLagColumns", fn := fun _ => fun
  | [d1, d2] => { results := [.lit (.bool false)], args := [d1, d2] }
  | _ => none }
def FnExactLagColumnsWrongFalsely : Prop := fnExactLagColumnsRow.holds Try.pinned (OpenSpec.ofChange fnExactLagColumnsWrong)

/-- 'laws.FnExactLeadOf': WHATEVER THE INPUT: true; the input reads as it did. -/
def fnExactLeadOfSpec : ChangeSpec := { name := "fnExactLeadOf", fn := fun _ => fun
  | [d1, d2, d3] => { results := [.lit (.bool true)], args := [d1, d2, d3] }
  | _ => none }
def fnExactLeadOfRow : OpenClaim := { program := "yteidemjbigbjlaa", sum := "7be96827180b122ddc19f8a9aa3b5e222d50a653891e5b22ecfae491d7840106", func := "loop.example/g01375/laws.FnExactLeadOf", spec := "fnExactLeadOf", inPlace := ["math.Float32frombits", "math.Float64frombits", "math.Float64bits", "math.sqrt"], apart := false }
def FnExactLeadOfSaid : Prop := fnExactLeadOfRow.holds Try.pinned (OpenSpec.ofChange fnExactLeadOfSpec)

/-- ITS FALSE NEIGHBOUR: 'it returns false'. Refute it at one input. -/
def fnExactLeadOfWrong : ChangeSpec := { name := "fnExactLeadOf", fn := fun _ => fun
  | [d1, d2, d3] => { results := [.lit (.bool false)], args := [d1, d2, d3] }
  | _ => none }
def FnExactLeadOfWrongFalsely : Prop := fnExactLeadOfRow.holds Try.pinned (OpenSpec.ofChange fnExactLeadOfWrong)

/- THE SECOND FORM. 'bulk': how many values and letters a reading holds, each counted each time it is reached (what is shared counts as often as it is met; a slice's spare places count too). A statement '..UptoSaid' is the law's where the arguments, and the package variables that the reading takes, are together of bulk at most 1048576: NARROWER than '..Said'. Prove '..Said' where nothing that the law and all that it calls make is longer than what came in: it says more and counts as full. Else prove '..UptoSaid'. A law counts once. -/
mutual
def uptoBulk {H : Type} : DataW H → Nat
  | .lit (.string bytes) => bytes.length + 1
  | .lit _ => 1
  | .nil => 1
  | .ptr d => uptoBulk d + 1
  | .slice elems spare => uptoBulkAll elems + uptoBulkAll spare + 1
  | .agg parts => uptoBulkAll parts + 1
  | .iface _ d => uptoBulk d + 1
  | .map entries => uptoBulkEntries entries + 1
  | .held _ => 1
def uptoBulkAll {H : Type} : List (DataW H) → Nat
  | [] => 0
  | d :: r => uptoBulk d + uptoBulkAll r
def uptoBulkEntries {H : Type} : List (Lit × DataW H) → Nat
  | [] => 0
  | x :: r => uptoBulkEntry x + uptoBulkEntries r
def uptoBulkEntry {H : Type} : Lit × DataW H → Nat
  | (.string bytes, d) => bytes.length + uptoBulk d + 1
  | (_, d) => uptoBulk d + 1
 end
def uptoSmall : (H : Type) → List (DataW H) → Bool := fun _ ds => decide (uptoBulkAll ds ≤ 1048576)
def OpenSpec.upto (s : _root_.Go.ChangeSpec) : _root_.Go.OpenSpec := { _root_.Go.OpenSpec.ofChange s with cond := some uptoSmall }

/-- 'laws.FnExactTakeApart', WHERE WHAT IT READS IS OF BULK AT MOST 1048576: true; the input reads as it did. -/
def fnExactTakeApartUptoRow : OpenClaim := { program := "yteidemjbigbjlaa", sum := "7be96827180b122ddc19f8a9aa3b5e222d50a653891e5b22ecfae491d7840106", func := "loop.example/g01375/laws.FnExactTakeApart", spec := "fnExactTakeApart", inPlace := ["math.Float64bits", "math.Float64frombits"], unfollowed := true, recurses := true, apart := false, narrowed := true }
def FnExactTakeApartUptoSaid : Prop := fnExactTakeApartUptoRow.holds Try.pinned (OpenSpec.upto fnExactTakeApartSpec)

/-- 'laws.FnExactCrossLikes', WHERE WHAT IT READS IS OF BULK AT MOST 1048576: true; the input reads as it did. -/
def fnExactCrossLikesUptoRow : OpenClaim := { program := "yteidemjbigbjlaa", sum := "7be96827180b122ddc19f8a9aa3b5e222d50a653891e5b22ecfae491d7840106", func := "loop.example/g01375/laws.FnExactCrossLikes", spec := "fnExactCrossLikes", inPlace := ["math.sqrt", "math.Float64bits", "math.Float64frombits"], unfollowed := true, recurses := true, apart := false, narrowed := true }
def FnExactCrossLikesUptoSaid : Prop := fnExactCrossLikesUptoRow.holds Try.pinned (OpenSpec.upto fnExactCrossLikesSpec)

/-- 'laws.FnExactTapered', WHERE WHAT IT READS IS OF BULK AT MOST 1048576: true; the input reads as it did. -/
def fnExactTaperedUptoRow : OpenClaim := { program := "yteidemjbigbjlaa", sum := "7be96827180b122ddc19f8a9aa3b5e222d50a653891e5b22ecfae491d7840106", func := "loop.example/g01375/laws.FnExactTapered", spec := "fnExactTapered", inPlace := ["math.Float32frombits", "math.Float64frombits", "math.Float64bits"], unfollowed := true, recurses := true, apart := false, narrowed := true }
def FnExactTaperedUptoSaid : Prop := fnExactTaperedUptoRow.holds Try.pinned (OpenSpec.upto fnExactTaperedSpec)

/-- 'laws.FnExactRankLike', WHERE WHAT IT READS IS OF BULK AT MOST 1048576: true; the input reads as it did. -/
def fnExactRankLikeUptoRow : OpenClaim := { program := "yteidemjbigbjlaa", sum := "7be96827180b122ddc19f8a9aa3b5e222d50a653891e5b22ecfae491d7840106", func := "loop.example/g01375/laws.FnExactRankLike", spec := "fnExactRankLike", inPlace := ["math.sqrt", "math.Float64bits", "math.Float64frombits"], unfollowed := true, recurses := true, apart := false, narrowed := true }
def FnExactRankLikeUptoSaid : Prop := fnExactRankLikeUptoRow.holds Try.pinned (OpenSpec.upto fnExactRankLikeSpec)

/-- 'laws.FnExactFoldedBy', WHERE WHAT IT READS IS OF BULK AT MOST 1048576: true; the input reads as it did. -/
def fnExactFoldedByUptoRow : OpenClaim := { program := "yteidemjbigbjlaa", sum := "7be96827180b122ddc19f8a9aa3b5e222d50a653891e5b22ecfae491d7840106", func := "loop.example/g01375/laws.FnExactFoldedBy", spec := "fnExactFoldedBy", inPlace := ["math.Float64bits", "math.Float64frombits"], unfollowed := true, recurses := true, apart := false, narrowed := true }
def FnExactFoldedByUptoSaid : Prop := fnExactFoldedByUptoRow.holds Try.pinned (OpenSpec.upto fnExactFoldedBySpec)

/-- 'laws.FnExactWeightFit', WHERE WHAT IT READS IS OF BULK AT MOST 1048576: true; the input reads as it did. -/
def fnExactWeightFitUptoRow : OpenClaim := { program := "yteidemjbigbjlaa", sum := "7be96827180b122ddc19f8a9aa3b5e222d50a653891e5b22ecfae491d7840106", func := "loop.example/g01375/laws.FnExactWeightFit", spec := "fnExactWeightFit", inPlace := ["math.Float64bits", "math.Float64frombits"], unfollowed := true, recurses := true, apart := false, narrowed := true }
def FnExactWeightFitUptoSaid : Prop := fnExactWeightFitUptoRow.holds Try.pinned (OpenSpec.upto fnExactWeightFitSpec)

/-- 'laws.FnExactLinePowers', WHERE WHAT IT READS IS OF BULK AT MOST 1048576: true; the input reads as it did. -/
def fnExactLinePowersUptoRow : OpenClaim := { program := "yteidemjbigbjlaa", sum := "7be96827180b122ddc19f8a9aa3b5e222d50a653891e5b22ecfae491d7840106", func := "loop.example/g01375/laws.FnExactLinePowers", spec := "fnExactLinePowers", inPlace := ["math.Float32frombits", "math.Float64frombits", "math.Float64bits"], unfollowed := true, recurses := true, apart := false, narrowed := true }
def FnExactLinePowersUptoSaid : Prop := fnExactLinePowersUptoRow.holds Try.pinned (OpenSpec.upto fnExactLinePowersSpec)

/-- 'laws.FnExactHarmonicAt', WHERE WHAT IT READS IS OF BULK AT MOST 1048576: true; the input reads as it did. -/
def fnExactHarmonicAtUptoRow : OpenClaim := { program := "yteidemjbigbjlaa", sum := "7be96827180b122ddc19f8a9aa3b5e222d50a653891e5b22ecfae491d7840106", func := "loop.example/g01375/laws.FnExactHarmonicAt", spec := "fnExactHarmonicAt", inPlace := ["math.Float32frombits", "math.Float64frombits", "math.Float64bits"], unfollowed := true, recurses := true, apart := false, narrowed := true }
def FnExactHarmonicAtUptoSaid : Prop := fnExactHarmonicAtUptoRow.holds Try.pinned (OpenSpec.upto fnExactHarmonicAtSpec)

/-- 'laws.FnExactLinesOf', WHERE WHAT IT READS IS OF BULK AT MOST 1048576: true; the input reads as it did. -/
def fnExactLinesOfUptoRow : OpenClaim := { program := "yteidemjbigbjlaa", sum := "7be96827180b122ddc19f8a9aa3b5e222d50a653891e5b22ecfae491d7840106", func := "loop.example/g01375/laws.FnExactLinesOf", spec := "fnExactLinesOf", inPlace := ["math.Float32frombits", "math.Float64frombits", "math.Float64bits"], apart := false, narrowed := true }
def FnExactLinesOfUptoSaid : Prop := fnExactLinesOfUptoRow.holds Try.pinned (OpenSpec.upto fnExactLinesOfSpec)

/-- 'laws.FnExactPartLikes', WHERE WHAT IT READS IS OF BULK AT MOST 1048576: true; the input reads as it did. -/
def fnExactPartLikesUptoRow : OpenClaim := { program := "yteidemjbigbjlaa", sum := "7be96827180b122ddc19f8a9aa3b5e222d50a653891e5b22ecfae491d7840106", func := "loop.example/g01375/laws.FnExactPartLikes", spec := "fnExactPartLikes", inPlace := ["math.Float64bits", "math.Float64frombits"], unfollowed := true, recurses := true, apart := false, narrowed := true }
def FnExactPartLikesUptoSaid : Prop := fnExactPartLikesUptoRow.holds Try.pinned (OpenSpec.upto fnExactPartLikesSpec)

/-- 'laws.FnExactLagColumns', WHERE WHAT IT READS IS OF BULK AT MOST 1048576: true; the input reads as it did. -/
def fnExactLagColumnsUptoRow : OpenClaim := { program := "yteidemjbigbjlaa", sum := "7be96827180b122ddc19f8a9aa3b5e222d50a653891e5b22ecfae491d7840106", func := "loop.example/g01375/laws.FnExactLagColumns", spec := "fnExactLagColumns", inPlace := ["math.Float64bits", "math.Float64frombits"], apart := false, narrowed := true }
def FnExactLagColumnsUptoSaid : Prop := fnExactLagColumnsUptoRow.holds Try.pinned (OpenSpec.upto fnExactLagColumnsSpec)

/-- 'laws.FnExactLeadOf', WHERE WHAT IT READS IS OF BULK AT MOST 1048576: true; the input reads as it did. -/
def fnExactLeadOfUptoRow : OpenClaim := { program := "yteidemjbigbjlaa", sum := "7be96827180b122ddc19f8a9aa3b5e222d50a653891e5b22ecfae491d7840106", func := "loop.example/g01375/laws.FnExactLeadOf", spec := "fnExactLeadOf", inPlace := ["math.Float32frombits", "math.Float64frombits", "math.Float64bits", "math.sqrt"], apart := false, narrowed := true }
def FnExactLeadOfUptoSaid : Prop := fnExactLeadOfUptoRow.holds Try.pinned (OpenSpec.upto fnExactLeadOfSpec)

end Rows
end Go.Proofs.Yteidemjbigbjlaa
