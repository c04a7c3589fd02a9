/-
  No cell of these rows narrows 'for every input' (looked for: loops, veiled, ifaces, maps, wideKeys, modest, calm, conditions, laid).
  DERIVED. THE GIVEN ROWS OF THIS SEAT. 12 by the template 'for every input the law returns true; each argument reads behind the call as it read before'; 0 by the template 'total and deterministic' (their statements: YtlmfheagekgceabTotals.lean).
  GIVEN WITH THE SEED: the statements are not yours to turn. If you find one false, say at which input.
  Laid BY PROGRAM, IN A SANDBOX (cutbox-rows.mjs): the forced cells as the released guide's own fill.sh prints them over the translation d42a9bccd88120f8… (all of the seat's roots in one cut). By AI agents, Wed Nov 11 2026. No macro, syntax, notation, axiom, sorry.
-/
import Derived.Test.YtlmfheagekgceabChecked
import GoSem.Claim
import GoSem.ClaimJoined
import GoSem.ClaimMapViews
import Derived.JoinedTies
import Derived.KernelRfl
namespace Go.Proofs.Ytlmfheagekgceab
/- THE CELL 'sum', in the pinned program and in every row, IS THE sha256 OF THE DUMP (.gsa) THAT YtlmfheagekgceabProg.lean LOADS. Nothing in Lean hashes anything: it is a label: what it is worth is what the hold of that sum in a sandbox is worth. -/
noncomputable def Try.pinned : Pinned := { name := "ytlmfheagekgceab", sum := "d42a9bccd88120f8ca34f4439e9895104f6f36febd225bdbae0ca8f2f15a21eb", checked := Try.checked }
namespace Rows
def none {H : Type} : Left H := { results := [], args := [] }

/-- 'laws.FnExactSelfLikes': WHATEVER THE INPUT: true; the input reads as it did. -/
def fnExactSelfLikesSpec : ChangeSpec := { name := "fnExactSelfLikes", fn := fun _ => fun
  | [d1, d2] => { results := [.lit (.bool true)], args := [d1, d2] }
  | _ => none }
def fnExactSelfLikesRow : OpenClaim := { program := "ytlmfheagekgceab", sum := "d42a9bccd88120f8ca34f4439e9895104f6f36febd225bdbae0ca8f2f15a21eb", func := "loop.example/g01375/laws.FnExactSelfLikes", spec := "fnExactSelfLikes", inPlace := ["math.Float64bits", "math.Float64frombits"], unfollowed := true, recurses := true, apart := false }
def FnExactSelfLikesSaid : Prop := fnExactSelfLikesRow.holds Try.pinned (OpenSpec.ofChange fnExactSelfLikesSpec)

/-- ITS FALSE NEIGHBOUR: 'it returns false'. Refute it at one input. -/
def fnExactSelfLikesWrong : ChangeSpec := { name := "fnExactSelfLikes", fn := fun _ => fun
  | [d1, d2] => { results := [.lit (.bool false)], args := [d1, d2] }
  | _ => none }
def FnExactSelfLikesWrongFalsely : Prop := fnExactSelfLikesRow.holds Try.pinned (OpenSpec.ofChange fnExactSelfLikesWrong)

/-- 'laws.FnExactPartLikes': WHATEVER THE INPUT: true; the input reads as it did. -/
def fnExactPartLikesSpec : ChangeSpec := { name := "fnExactPartLikes", fn := fun _ => fun
  | [d1, d2] => { results := [.lit (.bool true)], args := [d1, d2] }
  | _ => none }
def fnExactPartLikesRow : OpenClaim := { program := "ytlmfheagekgceab", sum := "d42a9bccd88120f8ca34f4439e9895104f6f36febd225bdbae0ca8f2f15a21eb", func := "loop.example/g01375/laws.FnExactPartLikes", spec := "fnExactPartLikes", inPlace := ["math.Float64bits", "math.Float64frombits"], unfollowed := true, recurses := true, apart := false }
def FnExactPartLikesSaid : Prop := fnExactPartLikesRow.holds Try.pinned (OpenSpec.ofChange fnExactPartLikesSpec)

/-- ITS FALSE NEIGHBOUR: 'it returns false'. Refute it at one input. -/
def fnExactPartLikesWrong : ChangeSpec := { name := "fnExactPartLikes", fn := fun _ => fun
  | [d1, d2] => { results := [.lit (.bool false)], args := [d1, d2] }
  | _ => none }
def FnExactPartLikesWrongFalsely : Prop := fnExactPartLikesRow.holds Try.pinned (OpenSpec.ofChange fnExactPartLikesWrong)

/-- 'laws.FnExactCrossLikes': WHATEVER THE INPUT: true; the input reads as it did. -/
def fnExactCrossLikesSpec : ChangeSpec := { name := "fnExactCrossLikes", fn := fun _ => fun
  | [d1, d2, d3] => { results := [.lit (.bool true)], args := [d1, d2, d3] }
  | _ => none }
def fnExactCrossLikesRow : OpenClaim := { program := "ytlmfheagekgceab", sum := "d42a9bccd88120f8ca34f4439e9895104f6f36febd225bdbae0ca8f2f15a21eb", func := "loop.example/g01375/laws.FnExactCrossLikes", spec := "fnExactCrossLikes", inPlace := ["math.sqrt", "math.Float64bits", "math.Float64frombits"], unfollowed := true, recurses := true, apart := false }
def FnExactCrossLikesSaid : Prop := fnExactCrossLikesRow.holds Try.pinned (OpenSpec.ofChange fnExactCrossLikesSpec)

/-- ITS FALSE NEIGHBOUR: 'it returns false'. Refute it at one input. -/
def fnExactCrossLikesWrong : ChangeSpec := { name := "fnExactCrossLikes", fn := fun _ => fun
  | [d1, d2, d3] => { results := [.lit (.bool false)], args := [d1, d2, d3] }
  | _ => none }
def FnExactCrossLikesWrongFalsely : Prop := fnExactCrossLikesRow.holds Try.pinned (OpenSpec.ofChange fnExactCrossLikesWrong)

/-- 'laws.FnExactLikeSum': WHATEVER THE INPUT: true; the input reads as it did. -/
def fnExactLikeSumSpec : ChangeSpec := { name := "fnExactLikeSum", fn := fun _ => fun
  | [d1, d2] => { results := [.lit (.bool true)], args := [d1, d2] }
  | _ => none }
def fnExactLikeSumRow : OpenClaim := { program := "ytlmfheagekgceab", sum := "d42a9bccd88120f8ca34f4439e9895104f6f36febd225bdbae0ca8f2f15a21eb", func := "loop.example/g01375/laws.FnExactLikeSum", spec := "fnExactLikeSum", inPlace := ["math.Float64bits", "math.Float64frombits"], unfollowed := true, recurses := true, apart := false }
def FnExactLikeSumSaid : Prop := fnExactLikeSumRow.holds Try.pinned (OpenSpec.ofChange fnExactLikeSumSpec)

/-- ITS FALSE NEIGHBOUR: 'it returns false'. Refute it at one input. -/
def fnExactLikeSumWrong : ChangeSpec := { name := "fnExactLikeSum", fn := fun _ => fun
  | [d1, d2] => { results := [.lit (.bool false)], args := [d1, d2] }
  | _ => none }
def FnExactLikeSumWrongFalsely : Prop := fnExactLikeSumRow.holds Try.pinned (OpenSpec.ofChange fnExactLikeSumWrong)

/-- 'laws.FnExactRankLike': WHATEVER THE INPUT: true; the input reads as it did. -/
def fnExactRankLikeSpec : ChangeSpec := { name := "fnExactRankLike", fn := fun _ => fun
  | [d1, d2] => { results := [.lit (.bool true)], args := [d1, d2] }
  | _ => none }
def fnExactRankLikeRow : OpenClaim := { program := "ytlmfheagekgceab", sum := "d42a9bccd88120f8ca34f4439e9895104f6f36febd225bdbae0ca8f2f15a21eb", func := "loop.example/g01375/laws.FnExactRankLike", spec := "fnExactRankLike", inPlace := ["math.sqrt", "math.Float64bits", "math.Float64frombits"], unfollowed := true, recurses := true, apart := false }
def FnExactRankLikeSaid : Prop := fnExactRankLikeRow.holds Try.pinned (OpenSpec.ofChange fnExactRankLikeSpec)

/-- ITS FALSE NEIGHBOUR: 'it returns false'. Refute it at one input. -/
def fnExactRankLikeWrong : ChangeSpec := { name := "fnExactRankLike", fn := fun _ => fun
  | [d1, d2] => { results := [.lit (.bool false)], args := [d1, d2] }
  | _ => none }
def FnExactRankLikeWrongFalsely : Prop := fnExactRankLikeRow.holds Try.pinned (OpenSpec.ofChange fnExactRankLikeWrong)

/-- 'laws.FnExactTapered': WHATEVER THE INPUT: true; the input reads as it did. -/
def fnExactTaperedSpec : ChangeSpec := { name := "fnExactTapered", fn := fun _ => fun
  | [d1, d2] => { results := [.lit (.bool true)], args := [d1, d2] }
  | _ => none }
def fnExactTaperedRow : OpenClaim := { program := "ytlmfheagekgceab", sum := "d42a9bccd88120f8ca34f4439e9895104f6f36febd225bdbae0ca8f2f15a21eb", func := "loop.example/g01375/laws.FnExactTapered", spec := "fnExactTapered", inPlace := ["math.Float32frombits", "math.Float64frombits", "math.Float64bits"], unfollowed := true, recurses := true, apart := false }
def FnExactTaperedSaid : Prop := fnExactTaperedRow.holds Try.pinned (OpenSpec.ofChange fnExactTaperedSpec)

/-- ITS FALSE NEIGHBOUR: 'it returns false'. Refute it at one input. -/
def fnExactTaperedWrong : ChangeSpec := { name := "fnExactTapered", fn := fun _ => fun
  | [d1, d2] => { results := [.lit (.bool false)], args := [d1, d2] }
  | _ => none }
def FnExactTaperedWrongFalsely : Prop := fnExactTaperedRow.holds Try.pinned (OpenSpec.ofChange fnExactTaperedWrong)

/-- 'laws.FnExactHarmonicFit': WHATEVER THE INPUT: true; the input reads as it did. -/
def fnExactHarmonicFitSpec : ChangeSpec := { name := "fnExactHarmonicFit", fn := fun _ => fun
  | [d1, d2, d3] => { results := [.lit (.bool true)], args := [d1, d2, d3] }
  | _ => none }
def fnExactHarmonicFitRow : OpenClaim := { program := "ytlmfheagekgceab", sum := "d42a9bccd88120f8ca34f4439e9895104f6f36febd225bdbae0ca8f2f15a21eb", func := "loop.example/g01375/laws.FnExactHarmonicFit", spec := "fnExactHarmonicFit", inPlace := ["math.Float32frombits", "math.Float64frombits", "math.Float64bits"], unfollowed := true, recurses := true, apart := false }
def FnExactHarmonicFitSaid : Prop := fnExactHarmonicFitRow.holds Try.pinned (OpenSpec.ofChange fnExactHarmonicFitSpec)

/-- ITS FALSE NEIGHBOUR: 'it returns false'. Refute it at one input. -/
def fnExactHarmonicFitWrong : ChangeSpec := { name := "fnExactHarmonicFit", fn := fun _ => fun
  | [d1, d2, d3] => { results := [.lit (.bool false)], args := [d1, d2, d3] }
  | _ => none }
def FnExactHarmonicFitWrongFalsely : Prop := fnExactHarmonicFitRow.holds Try.pinned (OpenSpec.ofChange fnExactHarmonicFitWrong)

/-- 'laws.FnExactHarmonicAt': WHATEVER THE INPUT: true; the input reads as it did. -/
def fnExactHarmonicAtSpec : ChangeSpec := { name := "fnExactHarmonicAt", fn := fun _ => fun
  | [d1, d2, d3] => { results := [.lit (.bool true)], args := [d1, d2, d3] }
  | _ => none }
def fnExactHarmonicAtRow : OpenClaim := { program := "ytlmfheagekgceab", sum := "d42a9bccd88120f8ca34f4439e9895104f6f36febd225bdbae0ca8f2f15a21eb", func := "loop.example/g01375/laws.FnExactHarmonicAt", spec := "fnExactHarmonicAt", inPlace := ["math.Float32frombits", "math.Float64frombits", "math.Float64bits"], unfollowed := true, recurses := true, apart := false }
def FnExactHarmonicAtSaid : Prop := fnExactHarmonicAtRow.holds Try.pinned (OpenSpec.ofChange fnExactHarmonicAtSpec)

/-- ITS FALSE NEIGHBOUR: 'it returns false'. Refute it at one input. -/
def fnExactHarmonicAtWrong : ChangeSpec := { name := "fnExactHarmonicAt", fn := fun _ => fun
  | [d1, d2, d3] => { results := [.lit (.bool false)], args := [d1, d2, d3] }
  | _ => none }
def FnExactHarmonicAtWrongFalsely : Prop := fnExactHarmonicAtRow.holds Try.pinned (OpenSpec.ofChange fnExactHarmonicAtWrong)

/-- 'laws.FnExactLinesOf': WHATEVER THE INPUT: true; the input reads as it did. -/
def fnExactLinesOfSpec : ChangeSpec := { name := "fnExactLinesOf", fn := fun _ => fun
  | [d] => { results := [.lit (.bool true)], args := [d] }
  | _ => none }
def fnExactLinesOfRow : OpenClaim := { program := "ytlmfheagekgceab", sum := "d42a9bccd88120f8ca34f4439e9895104f6f36febd225bdbae0ca8f2f15a21eb", func := "loop.example/g01375/laws.FnExactLinesOf", spec := "fnExactLinesOf", inPlace := ["math.Float32frombits", "math.Float64frombits", "math.Float64bits"], apart := false }
def FnExactLinesOfSaid : Prop := fnExactLinesOfRow.holds Try.pinned (OpenSpec.ofChange fnExactLinesOfSpec)

/-- ITS FALSE NEIGHBOUR: 'it returns false'. Refute it at one input. -/
def fnExactLinesOfWrong : ChangeSpec := { name := "fnExactLinesOf", fn := fun _ => fun
  | [d] => { results := [.lit (.bool false)], args := [d] }
  | _ => none }
def FnExactLinesOfWrongFalsely : Prop := fnExactLinesOfRow.holds Try.pinned (OpenSpec.ofChange fnExactLinesOfWrong)

/-- 'laws.FnExactLinePowers': WHATEVER THE INPUT: true; the input reads as it did. -/
def fnExactLinePowersSpec : ChangeSpec := { name := "fnExactLinePowers", fn := fun _ => fun
  | [d] => { results := [.lit (.bool true)], args := [d] }
  | _ => none }
def fnExactLinePowersRow : OpenClaim := { program := "ytlmfheagekgceab", sum := "d42a9bccd88120f8ca34f4439e9895104f6f36febd225bdbae0ca8f2f15a21eb", func := "loop.example/g01375/laws.FnExactLinePowers", spec := "fnExactLinePowers", inPlace := ["math.Float32frombits", "math.Float64frombits", "math.Float64bits"], unfollowed := true, recurses := true, apart := false }
def FnExactLinePowersSaid : Prop := fnExactLinePowersRow.holds Try.pinned (OpenSpec.ofChange fnExactLinePowersSpec)

/-- ITS FALSE NEIGHBOUR: 'it returns false'. Refute it at one input. -/
def fnExactLinePowersWrong : ChangeSpec := { name := "fnExactLinePowers", fn := fun _ => fun
  | [d] => { results := [.lit (.bool false)], args := [d] }
  | _ => none }
def FnExactLinePowersWrongFalsely : Prop := fnExactLinePowersRow.holds Try.pinned (OpenSpec.ofChange fnExactLinePowersWrong)

/-- 'laws.FnExactLeadOf': WHATEVER THE INPUT: true; the input reads as it did. -/
def fnExactLeadOfSpec : ChangeSpec := { name := "fnExactLeadOf", fn := fun _ => fun
  | [d1, d2, d3] => { results := [.lit (.bool true)], args := [d1, d2, d3] }
  | _ => none }
def fnExactLeadOfRow : OpenClaim := { program := "ytlmfheagekgceab", sum := "d42a9bccd88120f8ca34f4439e9895104f6f36febd225bdbae0ca8f2f15a21eb", func := "loop.example/g01375/laws.FnExactLeadOf", spec := "fnExactLeadOf", inPlace := ["math.Float32frombits", "math.Float64frombits", "math.Float64bits", "math.sqrt"], apart := false }
def FnExactLeadOfSaid : Prop := fnExactLeadOfRow.holds Try.pinned (OpenSpec.ofChange fnExactLeadOfSpec)

/-- ITS FALSE NEIGHBOUR: 'it returns false'. Refute it at one input. -/
def fnExactLeadOfWrong : ChangeSpec := { name := "fnExactLeadOf", fn := fun _ => fun
  | [d1, d2, d3] => { results := [.lit (.bool false)], args := [d1, d2, d3] }
  | _ => none }
def FnExactLeadOfWrongFalsely : Prop := fnExactLeadOfRow.holds Try.pinned (OpenSpec.ofChange fnExactLeadOfWrong)

/-- 'laws.FnExactTogetherOf': WHATEVER THE INPUT: true; the input reads as it did. -/
def fnExactTogetherOfSpec : ChangeSpec := { name := "fnExactTogetherOf", fn := fun _ => fun
  | [d1, d2, d3, d4] => { results := [.lit (.bool true)], args := [d1, d2, d3, d4] }
  | _ => none }
def fnExactTogetherOfRow : OpenClaim := { program := "ytlmfheagekgceab", sum := "d42a9bccd88120f8ca34f4439e9895104f6f36febd225bdbae0ca8f2f15a21eb", func := "loop.example/g01375/laws.FnExactTogetherOf", spec := "fnExactTogetherOf", inPlace := ["math.Float32frombits", "math.Float64frombits", "math.Float64bits"], apart := false }
def FnExactTogetherOfSaid : Prop := fnExactTogetherOfRow.holds Try.pinned (OpenSpec.ofChange fnExactTogetherOfSpec)

/-- ITS FALSE NEIGHBOUR: 'it returns false'. Refute it at one input. -/
def fnExactTogetherOfWrong : ChangeSpec := { name := "fnExactTogetherOf", fn := fun _ => fun
  | [d1, d2, d3, d4] => { results := [.lit (.bool false)], args := [d1, d2, d3, d4] }
  | _ => none }
def FnExactTogetherOfWrongFalsely : Prop := fnExactTogetherOfRow.holds Try.pinned (OpenSpec.ofChange fnExactTogetherOfWrong)

/- THE SECOND FORM. 'bulk': how many values and letters a reading holds, each counted each time it is reached (what is shared counts as often as it is met; a slice's spare places count too). A statement '..UptoSaid' is the law's where the arguments, and the package variables that the reading takes, are together of bulk at most 1048576: NARROWER than '..Said'. Prove '..Said' where nothing that the law and all that it calls make is longer than what came in: it says more and counts as full. Else prove '..UptoSaid'. A law counts once. -/
mutual
def uptoBulk {H : Type} : DataW H → Nat
  | .lit (.string bytes) => bytes.length + 1
  | .lit _ => 1
  | .nil => 1
  | .ptr d => uptoBulk d + 1
  | .slice elems spare => uptoBulkAll elems + uptoBulkAll spare + 1
  | .agg parts => uptoBulkAll parts + 1
  | .iface _ d => uptoBulk d + 1
  | .map entries => uptoBulkEntries entries + 1
  | .held _ => 1
def uptoBulkAll {H : Type} : List (DataW H) → Nat
  | [] => 0
  | d :: r => uptoBulk d + uptoBulkAll r
def uptoBulkEntries {H : Type} : List (Lit × DataW H) → Nat
  | [] => 0
  | x :: r => uptoBulkEntry x + uptoBulkEntries r
def uptoBulkEntry {H : Type} : Lit × DataW H → Nat
  | (.string bytes, d) => bytes.length + uptoBulk d + 1
  | (_, d) => uptoBulk d + 1
 end
def uptoSmall : (H : Type) → List (DataW H) → Bool := fun _ ds => decide (uptoBulkAll ds ≤ 1048576)
def OpenSpec.upto (s : _root_.Go.ChangeSpec) : _root_.Go.OpenSpec := { _root_.Go.OpenSpec.ofChange s with cond := some uptoSmall }

/-- 'laws.FnExactSelfLikes', WHERE WHAT IT READS IS OF BULK AT MOST 1048576: true; the input reads as it did. -/
def fnExactSelfLikesUptoRow : OpenClaim := { program := "ytlmfheagekgceab", sum := "d42a9bccd88120f8ca34f4439e9895104f6f36febd225bdbae0ca8f2f15a21eb", func := "loop.example/g01375/laws.FnExactSelfLikes", spec := "fnExactSelfLikes", inPlace := ["math.Float64bits", "math.Float64frombits"], unfollowed := true, recurses := true, apart := false, narrowed := true }
def FnExactSelfLikesUptoSaid : Prop := fnExactSelfLikesUptoRow.holds Try.pinned (OpenSpec.upto fnExactSelfLikesSpec)

/-- 'laws.FnExactPartLikes', WHERE WHAT IT READS IS OF BULK AT MOST 1048576: true; the input reads as it did. -/
def fnExactPartLikesUptoRow : OpenClaim := { program := "ytlmfheagekgceab", sum := "d42a9bccd88120f8ca34f4439e9895104f6f36febd225bdbae0ca8f2f15a21eb", func := "loop.example/g01375/laws.FnExactPartLikes", spec := "fnExactPartLikes", inPlace := ["math.Float64bits", "math.Float64frombits"], unfollowed := true, recurses := true, apart := false, narrowed := true }
def FnExactPartLikesUptoSaid : Prop := fnExactPartLikesUptoRow.holds Try.pinned (OpenSpec.upto fnExactPartLikesSpec)

/-- 'laws.FnExactCrossLikes', WHERE WHAT IT READS IS OF BULK AT MOST 1048576: true; the input reads as it did. -/
def fnExactCrossLikesUptoRow : OpenClaim := { program := "ytlmfheagekgceab", sum := "d42a9bccd88120f8ca34f4439e9895104f6f36febd225bdbae0ca8f2f15a21eb", func := "loop.example/g01375/laws.FnExactCrossLikes", spec := "fnExactCrossLikes", inPlace := ["math.sqrt", "math.Float64bits", "math.Float64frombits"], unfollowed := true, recurses := true, apart := false, narrowed := true }
def FnExactCrossLikesUptoSaid : Prop := fnExactCrossLikesUptoRow.holds Try.pinned (OpenSpec.upto fnExactCrossLikesSpec)

/-- 'laws.FnExactLikeSum', WHERE WHAT IT READS IS OF BULK AT MOST 1048576: true; the input reads as it did. -/
def fnExactLikeSumUptoRow : OpenClaim := { program := "ytlmfheagekgceab", sum := "d42a9bccd88120f8ca34f4439e9895104f6f36febd225bdbae0ca8f2f15a21eb", func := "loop.example/g01375/laws.FnExactLikeSum", spec := "fnExactLikeSum", inPlace := ["math.Float64bits", "math.Float64frombits"], unfollowed := true, recurses := true, apart := false, narrowed := true }
def FnExactLikeSumUptoSaid : Prop := fnExactLikeSumUptoRow.holds Try.pinned (OpenSpec.upto fnExactLikeSumSpec)

/-- 'laws.FnExactRankLike', WHERE WHAT IT READS IS OF BULK AT MOST 1048576: true; the input reads as it did. -/
def fnExactRankLikeUptoRow : OpenClaim := { program := "ytlmfheagekgceab", sum := "d42a9bccd88120f8ca34f4439e9895104f6f36febd225bdbae0ca8f2f15a21eb", func := "loop.example/g01375/laws.FnExactRankLike", spec := "fnExactRankLike", inPlace := ["math.sqrt", "math.Float64bits", "math.Float64frombits"], unfollowed := true, recurses := true, apart := false, narrowed := true }
def FnExactRankLikeUptoSaid : Prop := fnExactRankLikeUptoRow.holds Try.pinned (OpenSpec.upto fnExactRankLikeSpec)

/-- 'laws.FnExactTapered', WHERE WHAT IT READS IS OF BULK AT MOST 1048576: true; the input reads as it did. -/
def fnExactTaperedUptoRow : OpenClaim := { program := "ytlmfheagekgceab", sum := "d42a9bccd88120f8ca34f4439e9895104f6f36febd225bdbae0ca8f2f15a21eb", func := "loop.example/g01375/laws.FnExactTapered", spec := "fnExactTapered", inPlace := ["math.Float32frombits", "math.Float64frombits", "math.Float64bits"], unfollowed := true, recurses := true, apart := false, narrowed := true }
def FnExactTaperedUptoSaid : Prop := fnExactTaperedUptoRow.holds Try.pinned (OpenSpec.upto fnExactTaperedSpec)

/-- 'laws.FnExactHarmonicFit', WHERE WHAT IT READS IS OF BULK AT MOST 1048576: true; the input reads as it did. -/
def fnExactHarmonicFitUptoRow : OpenClaim := { program := "ytlmfheagekgceab", sum := "d42a9bccd88120f8ca34f4439e9895104f6f36febd225bdbae0ca8f2f15a21eb", func := "loop.example/g01375/laws.FnExactHarmonicFit", spec := "fnExactHarmonicFit", inPlace := ["math.Float32frombits", "math.Float64frombits", "math.Float64bits"], unfollowed := true, recurses := true, apart := false, narrowed := true }
def FnExactHarmonicFitUptoSaid : Prop := fnExactHarmonicFitUptoRow.holds Try.pinned (OpenSpec.upto fnExactHarmonicFitSpec)

/-- 'laws.FnExactHarmonicAt', WHERE WHAT IT READS IS OF BULK AT MOST 1048576: true; the input reads as it did. -/
def fnExactHarmonicAtUptoRow : OpenClaim := { program := "ytlmfheagekgceab", sum := "d42a9bccd88120f8ca34f4439e9895104f6f36febd225bdbae0ca8f2f15a21eb", func := "loop.example/g01375/laws.FnExactHarmonicAt", spec := "fnExactHarmonicAt", inPlace := ["math.Float32frombits", "math.Float64frombits", "math.Float64bits"], unfollowed := true, recurses := true, apart := false, narrowed := true }
def FnExactHarmonicAtUptoSaid : Prop := fnExactHarmonicAtUptoRow.holds Try.pinned (OpenSpec.upto fnExactHarmonicAtSpec)

/-- 'laws.FnExactLinesOf', WHERE WHAT IT READS IS OF BULK AT MOST 1048576: true; the input reads as it did. -/
def fnExactLinesOfUptoRow : OpenClaim := { program := "ytlmfheagekgceab", sum := "d42a9bccd88120f8ca34f4439e9895104f6f36febd225bdbae0ca8f2f15a21eb", func := "loop.example/g01375/laws.FnExactLinesOf", spec := "fnExactLinesOf", inPlace := ["math.Float32frombits", "math.Float64frombits", "math.Float64bits"], apart := false, narrowed := true }
def FnExactLinesOfUptoSaid : Prop := fnExactLinesOfUptoRow.holds Try.pinned (OpenSpec.upto fnExactLinesOfSpec)

/-- 'laws.FnExactLinePowers', WHERE WHAT IT READS IS OF BULK AT MOST 1048576: true; the input reads as it did. -/
def fnExactLinePowersUptoRow : OpenClaim := { program := "ytlmfheagekgceab", sum := "d42a9bccd88120f8ca34f4439e9895104f6f36febd225bdbae0ca8f2f15a21eb", func := "loop.example/g01375/laws.FnExactLinePowers", spec := "fnExactLinePowers", inPlace := ["math.Float32frombits", "math.Float64frombits", "math.Float64bits"], unfollowed := true, recurses := true, apart := false, narrowed := true }
def FnExactLinePowersUptoSaid : Prop := fnExactLinePowersUptoRow.holds Try.pinned (OpenSpec.upto fnExactLinePowersSpec)

/-- 'laws.FnExactLeadOf', WHERE WHAT IT READS IS OF BULK AT MOST 1048576: true; the input reads as it did. -/
def fnExactLeadOfUptoRow : OpenClaim := { program := "ytlmfheagekgceab", sum := "d42a9bccd88120f8ca34f4439e9895104f6f36febd225bdbae0ca8f2f15a21eb", func := "loop.example/g01375/laws.FnExactLeadOf", spec := "fnExactLeadOf", inPlace := ["math.Float32frombits", "math.Float64frombits", "math.Float64bits", "math.sqrt"], apart := false, narrowed := true }
def FnExactLeadOfUptoSaid : Prop := fnExactLeadOfUptoRow.holds Try.pinned (OpenSpec.upto fnExactLeadOfSpec)

/-- 'laws.FnExactTogetherOf', WHERE WHAT IT READS IS OF BULK AT MOST 1048576: true; the input reads as it did. -/
def fnExactTogetherOfUptoRow : OpenClaim := { program := "ytlmfheagekgceab", sum := "d42a9bccd88120f8ca34f4439e9895104f6f36febd225bdbae0ca8f2f15a21eb", func := "loop.example/g01375/laws.FnExactTogetherOf", spec := "fnExactTogetherOf", inPlace := ["math.Float32frombits", "math.Float64frombits", "math.Float64bits"], apart := false, narrowed := true }
def FnExactTogetherOfUptoSaid : Prop := fnExactTogetherOfUptoRow.holds Try.pinned (OpenSpec.upto fnExactTogetherOfSpec)

end Rows
end Go.Proofs.Ytlmfheagekgceab
