/-
  No cell of these rows narrows 'for every input' (looked for: loops, veiled, ifaces, maps, wideKeys, modest, calm, conditions, laid).
  DERIVED. THE GIVEN ROWS OF THIS SEAT. 8 by the template 'for every input the law returns true; each argument reads behind the call as it read before'; 0 by the template 'total and deterministic' (their statements: YtndmffkpbihcmaaTotals.lean).
  GIVEN WITH THE SEED: the statements are not yours to turn. If you find one false, say at which input.
  Laid BY PROGRAM, IN A SANDBOX (cutbox-rows.mjs): the forced cells as the released guide's own fill.sh prints them over the translation 84354688d958fca7… (all of the seat's roots in one cut). By AI agents, Wed Nov 11 2026. No macro, syntax, notation, axiom, sorry.
-/
import Derived.Test.YtndmffkpbihcmaaChecked
import GoSem.Claim
import GoSem.ClaimJoined
import GoSem.ClaimMapViews
import Derived.JoinedTies
import Derived.KernelRfl
namespace Go.Proofs.Ytndmffkpbihcmaa
/- THE CELL 'sum', in the pinned program and in every row, IS THE sha256 OF THE DUMP (.gsa) THAT YtndmffkpbihcmaaProg.lean LOADS. Nothing in Lean hashes anything: it is a label: what it is worth is what the hold of that sum in a sandbox is worth. -/
noncomputable def Try.pinned : Pinned := { name := "ytndmffkpbihcmaa", sum := "84354688d958fca7ee42fae83e0ad8105c72a55ade893f0628d1c327b72ac6f9", checked := Try.checked }
namespace Rows
def none {H : Type} : Left H := { results := [], args := [] }

/-- 'laws.FnExactFittedOf': WHATEVER THE INPUT: true; the input reads as it did. -/
def fnExactFittedOfSpec : ChangeSpec := { name := "fnExactFittedOf", fn := fun _ => fun
  | [d1, d2] => { results := [.lit (.bool true)], args := [d1, d2] }
  | _ => none }
def fnExactFittedOfRow : OpenClaim := { program := "ytndmffkpbihcmaa", sum := "84354688d958fca7ee42fae83e0ad8105c72a55ade893f0628d1c327b72ac6f9", func := "loop.example/g01375/laws.FnExactFittedOf", spec := "fnExactFittedOf", inPlace := ["math.Float64bits", "math.Float64frombits"], unfollowed := true, recurses := true, apart := false }
def FnExactFittedOfSaid : Prop := fnExactFittedOfRow.holds Try.pinned (OpenSpec.ofChange fnExactFittedOfSpec)

/-- ITS FALSE NEIGHBOUR: 'it returns false'. Refute it at one input. -/
def fnExactFittedOfWrong : ChangeSpec := { name := "fnExactFittedOf", fn := fun _ => fun
  | [d1, d2] => { results := [.lit (.bool false)], args := [d1, d2] }
  | _ => none }
def FnExactFittedOfWrongFalsely : Prop := fnExactFittedOfRow.holds Try.pinned (OpenSpec.ofChange fnExactFittedOfWrong)

/-- 'laws.FnExactPastAhead': WHATEVER THE INPUT: true; the input reads as it did. -/
def fnExactPastAheadSpec : ChangeSpec := { name := "fnExactPastAhead", fn := fun _ => fun
  | [d1, d2, d3, d4] => { results := [.lit (.bool true)], args := [d1, d2, d3, d4] }
  | _ => none }
def fnExactPastAheadRow : OpenClaim := { program := "ytndmffkpbihcmaa", sum := "84354688d958fca7ee42fae83e0ad8105c72a55ade893f0628d1c327b72ac6f9", func := "loop.example/g01375/laws.FnExactPastAhead", spec := "fnExactPastAhead", inPlace := ["math.Float64bits", "math.Float64frombits"], unfollowed := true, recurses := true, apart := false }
def FnExactPastAheadSaid : Prop := fnExactPastAheadRow.holds Try.pinned (OpenSpec.ofChange fnExactPastAheadSpec)

/-- ITS FALSE NEIGHBOUR: 'it returns false'. Refute it at one input. -/
def fnExactPastAheadWrong : ChangeSpec := { name := "fnExactPastAhead", fn := fun _ => fun
  | [d1, d2, d3, d4] => { results := [.lit (.bool false)], args := [d1, d2, d3, d4] }
  | _ => none }
def FnExactPastAheadWrongFalsely : Prop := fnExactPastAheadRow.holds Try.pinned (OpenSpec.ofChange fnExactPastAheadWrong)

/-- 'laws.FnExactCrossLikes': WHATEVER THE INPUT: true; the input reads as it did. -/
def fnExactCrossLikesSpec : ChangeSpec := { name := "fnExactCrossLikes", fn := fun _ => fun
  | [d1, d2, d3] => { results := [.lit (.bool true)], args := [d1, d2, d3] }
  | _ => none }
def fnExactCrossLikesRow : OpenClaim := { program := "ytndmffkpbihcmaa", sum := "84354688d958fca7ee42fae83e0ad8105c72a55ade893f0628d1c327b72ac6f9", func := "loop.example/g01375/laws.FnExactCrossLikes", spec := "fnExactCrossLikes", inPlace := ["math.sqrt", "math.Float64bits", "math.Float64frombits"], unfollowed := true, recurses := true, apart := false }
def FnExactCrossLikesSaid : Prop := fnExactCrossLikesRow.holds Try.pinned (OpenSpec.ofChange fnExactCrossLikesSpec)

/-- ITS FALSE NEIGHBOUR: 'it returns false'. Refute it at one input. -/
def fnExactCrossLikesWrong : ChangeSpec := { name := "fnExactCrossLikes", fn := fun _ => fun
  | [d1, d2, d3] => { results := [.lit (.bool false)], args := [d1, d2, d3] }
  | _ => none }
def FnExactCrossLikesWrongFalsely : Prop := fnExactCrossLikesRow.holds Try.pinned (OpenSpec.ofChange fnExactCrossLikesWrong)

/-- 'laws.FnExactLagColumns': WHATEVER THE INPUT: true; the input reads as it did. -/
def fnExactLagColumnsSpec : ChangeSpec := { name := "fnExactLagColumns", fn := fun _ => fun
  | [d1, d2] => { results := [.lit (.bool true)], args := [d1, d2] }
  | _ => none }
def fnExactLagColumnsRow : OpenClaim := { program := "ytndmffkpbihcmaa", sum := "84354688d958fca7ee42fae83e0ad8105c72a55ade893f0628d1c327b72ac6f9", func := "loop.example/g01375/laws.FnExactLagColumns", spec := "fnExactLagColumns", inPlace := ["math.Float64bits", "math.Float64frombits"], apart := false }
def FnExactLagColumnsSaid : Prop := fnExactLagColumnsRow.holds Try.pinned (OpenSpec.ofChange fnExactLagColumnsSpec)

/-- ITS FALSE NEIGHBOUR: 'it returns false'. Refute it at one input. -/
def fnExactLagColumnsWrong : ChangeSpec := { name := "fnExactLagColumns", fn := fun _ => fun
  | [d1, d2] => { results := [.lit (.bool false)], args := [d1, d2] }
  | _ => none }
def FnExactLagColumnsWrongFalsely : Prop := fnExactLagColumnsRow.holds Try.pinned (OpenSpec.ofChange fnExactLagColumnsWrong)

/-- 'laws.FnExactPastRests': WHATEVER THE INPUT: true; the input reads as it did. -/
def fnExactPastRestsSpec : ChangeSpec := { name := "fnExactPastRests", fn := fun _ => fun
  | [d1, d2, d3] => { results := [.lit (.bool true)], args := [d1, d2, d3] }
  | _ => none }
def fnExactPastRestsRow : OpenClaim := { program := "ytndmffkpbihcmaa", sum := "84354688d958fca7ee42fae83e0ad8105c72a55ade893f0628d1c327b72ac6f9", func := "loop.example/g01375/laws.FnExactPastRests", spec := "fnExactPastRests", inPlace := ["math.Float64bits", "math.Float64frombits"], unfollowed := true, recurses := true, apart := false }
def FnExactPastRestsSaid : Prop := fnExactPastRestsRow.holds Try.pinned (OpenSpec.ofChange fnExactPastRestsSpec)

/-- ITS FALSE NEIGHBOUR: 'it returns false'. Refute it at one input. -/
def fnExactPastRestsWrong : ChangeSpec := { name := "fnExactPastRests", fn := fun _ => fun
  | [d1, d2, d3] => { results := [.lit (.bool false)], args := [d1, d2, d3] }
  | _ => none }
def FnExactPastRestsWrongFalsely : Prop := fnExactPastRestsRow.holds Try.pinned (OpenSpec.ofChange fnExactPastRestsWrong)

/-- 'laws.FnExactRankLike': WHATEVER THE INPUT: true; the input reads as it did. -/
def fnExactRankLikeSpec : ChangeSpec := { name := "fnExactRankLike", fn := fun _ => fun
  | [d1, d2] => { results := [.lit (.bool true)], args := [d1, d2] }
  | _ => none }
def fnExactRankLikeRow : OpenClaim := { program := "ytndmffkpbihcmaa", sum := "84354688d958fca7ee42fae83e0ad8105c72a55ade893f0628d1c327b72ac6f9", func := "loop.example/g01375/laws.FnExactRankLike", spec := "fnExactRankLike", inPlace := ["math.sqrt", "math.Float64bits", "math.Float64frombits"], unfollowed := true, recurses := true, apart := false }
def FnExactRankLikeSaid : Prop := fnExactRankLikeRow.holds Try.pinned (OpenSpec.ofChange fnExactRankLikeSpec)

/-- ITS FALSE NEIGHBOUR: 'it returns false'. Refute it at one input. -/
def fnExactRankLikeWrong : ChangeSpec := { name := "fnExactRankLike", fn := fun _ => fun
  | [d1, d2] => { results := [.lit (.bool false)], args := [d1, d2] }
  | _ => none }
def FnExactRankLikeWrongFalsely : Prop := fnExactRankLikeRow.holds Try.pinned (OpenSpec.ofChange fnExactRankLikeWrong)

/-- 'laws.FnExactTapered': WHATEVER THE INPUT: true; the input reads as it did. -/
def fnExactTaperedSpec : ChangeSpec := { name := "fnExactTapered", fn := fun _ => fun
  | [d1, d2] => { results := [.lit (.bool true)], args := [d1, d2] }
  | _ => none }
def fnExactTaperedRow : OpenClaim := { program := "ytndmffkpbihcmaa", sum := "84354688d958fca7ee42fae83e0ad8105c72a55ade893f0628d1c327b72ac6f9", func := "loop.example/g01375/laws.FnExactTapered", spec := "fnExactTapered", inPlace := ["math.Float32frombits", "math.Float64frombits", "math.Float64bits"], unfollowed := true, recurses := true, apart := false }
def FnExactTaperedSaid : Prop := fnExactTaperedRow.holds Try.pinned (OpenSpec.ofChange fnExactTaperedSpec)

/-- ITS FALSE NEIGHBOUR: 'it returns false'. Refute it at one input. -/
def fnExactTaperedWrong : ChangeSpec := { name := "fnExactTapered", fn := fun _ => fun
  | [d1, d2] => { results := [.lit (.bool false)], args := [d1, d2] }
  | _ => none }
def FnExactTaperedWrongFalsely : Prop := fnExactTaperedRow.holds Try.pinned (OpenSpec.ofChange fnExactTaperedWrong)

/-- 'laws.FnExactRestOfFit': WHATEVER THE INPUT: true; the input reads as it did. -/
def fnExactRestOfFitSpec : ChangeSpec := { name := "fnExactRestOfFit", fn := fun _ => fun
  | [d1, d2] => { results := [.lit (.bool true)], args := [d1, d2] }
  | _ => none }
def fnExactRestOfFitRow : OpenClaim := { program := "ytndmffkpbihcmaa", sum := "84354688d958fca7ee42fae83e0ad8105c72a55ade893f0628d1c327b72ac6f9", func := "loop.example/g01375/laws.FnExactRestOfFit", spec := "fnExactRestOfFit", inPlace := ["math.Float64bits", "math.Float64frombits"], unfollowed := true, recurses := true, apart := false }
def FnExactRestOfFitSaid : Prop := fnExactRestOfFitRow.holds Try.pinned (OpenSpec.ofChange fnExactRestOfFitSpec)

/-- ITS FALSE NEIGHBOUR: 'it returns false'. Refute it at one input. -/
def fnExactRestOfFitWrong : ChangeSpec := { name := "fnExactRestOfFit", fn := fun _ => fun
  | [d1, d2] => { results := [.lit (.bool false)], args := [d1, d2] }
  | _ => none }
def FnExactRestOfFitWrongFalsely : Prop := fnExactRestOfFitRow.holds Try.pinned (OpenSpec.ofChange fnExactRestOfFitWrong)

/- THE SECOND FORM. 'bulk': how many values and letters a reading holds, each counted each time it is reached (what is shared counts as often as it is met; a slice's spare places count too). A statement '..UptoSaid' is the law's where the arguments, and the package variables that the reading takes, are together of bulk at most 1048576: NARROWER than '..Said'. Prove '..Said' where nothing that the law and all that it calls make is longer than what came in: it says more and counts as full. Else prove '..UptoSaid'. A law counts once. -/
mutual
def uptoBulk {H : Type} : DataW H → Nat
  | .lit (.string bytes) => bytes.length + 1
  | .lit _ => 1
  | .nil => 1
  | .ptr d => uptoBulk d + 1
  | .slice elems spare => uptoBulkAll elems + uptoBulkAll spare + 1
  | .agg parts => uptoBulkAll parts + 1
  | .iface _ d => uptoBulk d + 1
  | .map entries => uptoBulkEntries entries + 1
  | .held _ => 1
def uptoBulkAll {H : Type} : List (DataW H) → Nat
  | [] => 0
  | d :: r => uptoBulk d + uptoBulkAll r
def uptoBulkEntries {H : Type} : List (Lit × DataW H) → Nat
  | [] => 0
  | x :: r => uptoBulkEntry x + uptoBulkEntries r
def uptoBulkEntry {H : Type} : Lit × DataW H → Nat
  | (.string bytes, d) => bytes.length + uptoBulk d + 1
  | (_, d) => uptoBulk d + 1
 end
def uptoSmall : (H : Type) → List (DataW H) → Bool := fun _ ds => decide (uptoBulkAll ds ≤ 1048576)
def OpenSpec.upto (s : _root_.Go.ChangeSpec) : _root_.Go.OpenSpec := { _root_.Go.OpenSpec.ofChange s with cond := some uptoSmall }

/-- 'laws.FnExactFittedOf', WHERE WHAT IT READS IS OF BULK AT MOST 1048576: true; the input reads as it did. -/
def fnExactFittedOfUptoRow : OpenClaim := { program := "ytndmffkpbihcmaa", sum := "84354688d958fca7ee42fae83e0ad8105c72a55ade893f0628d1c327b72ac6f9", func := "loop.example/g01375/laws.FnExactFittedOf", spec := "fnExactFittedOf", inPlace := ["math.Float64bits", "math.Float64frombits"], unfollowed := true, recurses := true, apart := false, narrowed := true }
def FnExactFittedOfUptoSaid : Prop := fnExactFittedOfUptoRow.holds Try.pinned (OpenSpec.upto fnExactFittedOfSpec)

/-- 'laws.FnExactPastAhead', WHERE WHAT IT READS IS OF BULK AT MOST 1048576: true; the input reads as it did. -/
def fnExactPastAheadUptoRow : OpenClaim := { program := "ytndmffkpbihcmaa", sum := "84354688d958fca7ee42fae83e0ad8105c72a55ade893f0628d1c327b72ac6f9", func := "loop.example/g01375/laws.FnExactPastAhead", spec := "fnExactPastAhead", inPlace := ["math.Float64bits", "math.Float64frombits"], unfollowed := true, recurses := true, apart := false, narrowed := true }
def FnExactPastAheadUptoSaid : Prop := fnExactPastAheadUptoRow.holds Try.pinned (OpenSpec.upto fnExactPastAheadSpec)

/-- 'laws.FnExactCrossLikes', WHERE WHAT IT READS IS OF BULK AT MOST 1048576: true; the input reads as it did. -/
def fnExactCrossLikesUptoRow : OpenClaim := { program := "ytndmffkpbihcmaa", sum := "84354688d958fca7ee42fae83e0ad8105c72a55ade893f0628d1c327b72ac6f9", func := "loop.example/g01375/laws.FnExactCrossLikes", spec := "fnExactCrossLikes", inPlace := ["math.sqrt", "math.Float64bits", "math.Float64frombits"], unfollowed := true, recurses := true, apart := false, narrowed := true }
def FnExactCrossLikesUptoSaid : Prop := fnExactCrossLikesUptoRow.holds Try.pinned (OpenSpec.upto fnExactCrossLikesSpec)

/-- 'laws.FnExactLagColumns', WHERE WHAT IT READS IS OF BULK AT MOST 1048576: true; the input reads as it did. -/
def fnExactLagColumnsUptoRow : OpenClaim := { program := "ytndmffkpbihcmaa", sum := "84354688d958fca7ee42fae83e0ad8105c72a55ade893f0628d1c327b72ac6f9", func := "loop.example/g01375/laws.FnExactLagColumns", spec := "fnExactLagColumns", inPlace := ["math.Float64bits", "math.Float64frombits"], apart := false, narrowed := true }
def FnExactLagColumnsUptoSaid : Prop := fnExactLagColumnsUptoRow.holds Try.pinned (OpenSpec.upto fnExactLagColumnsSpec)

/-- 'laws.FnExactPastRests', WHERE WHAT IT READS IS OF BULK AT MOST 1048576: true; the input reads as it did. -/
def fnExactPastRestsUptoRow : OpenClaim := { program := "ytndmffkpbihcmaa", sum := "84354688d958fca7ee42fae83e0ad8105c72a55ade893f0628d1c327b72ac6f9", func := "loop.example/g01375/laws.FnExactPastRests", spec := "fnExactPastRests", inPlace := ["math.Float64bits", "math.Float64frombits"], unfollowed := true, recurses := true, apart := false, narrowed := true }
def FnExactPastRestsUptoSaid : Prop := fnExactPastRestsUptoRow.holds Try.pinned (OpenSpec.upto fnExactPastRestsSpec)

/-- 'laws.FnExactRankLike', WHERE WHAT IT READS IS OF BULK AT MOST 1048576: true; the input reads as it did. -/
def fnExactRankLikeUptoRow : OpenClaim := { program := "ytndmffkpbihcmaa", sum := "84354688d958fca7ee42fae83e0ad8105c72a55ade893f0628d1c327b72ac6f9", func := "loop.example/g01375/laws.FnExactRankLike", spec := "fnExactRankLike", inPlace := ["math.sqrt", "math.Float64bits", "math.Float64frombits"], unfollowed := true, recurses := true, apart := false, narrowed := true }
def FnExactRankLikeUptoSaid : Prop := fnExactRankLikeUptoRow.holds Try.pinned (OpenSpec.upto fnExactRankLikeSpec)

/-- 'laws.FnExactTapered', WHERE WHAT IT READS IS OF BULK AT MOST 1048576: true; the input reads as it did. -/
def fnExactTaperedUptoRow : OpenClaim := { program := "ytndmffkpbihcmaa", sum := "84354688d958fca7ee42fae83e0ad8105c72a55ade893f0628d1c327b72ac6f9", func := "loop.example/g01375/laws.FnExactTapered", spec := "fnExactTapered", inPlace := ["math.Float32frombits", "math.Float64frombits", "math.Float64bits"], unfollowed := true, recurses := true, apart := false, narrowed := true }
def FnExactTaperedUptoSaid : Prop := fnExactTaperedUptoRow.holds Try.pinned (OpenSpec.upto fnExactTaperedSpec)

/-- 'laws.FnExactRestOfFit', WHERE WHAT IT READS IS OF BULK AT MOST 1048576: true; the input reads as it did. -/
def fnExactRestOfFitUptoRow : OpenClaim := { program := "ytndmffkpbihcmaa", sum := "84354688d958fca7ee42fae83e0ad8105c72a55ade893f0628d1c327b72ac6f9", func := "loop.example/g01375/laws.FnExactRestOfFit", spec := "fnExactRestOfFit", inPlace := ["math.Float64bits", "math.Float64frombits"], unfollowed := true, recurses := true, apart := false, narrowed := true }
def FnExactRestOfFitUptoSaid : Prop := fnExactRestOfFitUptoRow.holds Try.pinned (OpenSpec.upto fnExactRestOfFitSpec)

end Rows
end Go.Proofs.Ytndmffkpbihcmaa
