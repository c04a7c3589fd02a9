/-
  No cell of these rows narrows 'for every input' (looked for: loops, veiled, ifaces, maps, wideKeys, modest, calm, conditions, laid).
  DERIVED. THE GIVEN ROWS OF THIS SEAT. 12 by the template 'for every input the law returns true; each argument reads behind the call as it read before'; 0 by the template 'total and deterministic' (their statements: YtmdcdehnkilogaaTotals.lean).
  GIVEN WITH THE SEED: the statements are not yours to turn. If you find one false, say at which input.
  Laid BY PROGRAM, IN A SANDBOX (cutbox-rows.mjs): the forced cells as the released guide's own fill.sh prints them over the translation 5add4c8384636ba9… (all of the seat's roots in one cut). By AI agents, Wed Nov 11 2026. No macro, syntax, notation, axiom, sorry.
-/
import Derived.Test.YtmdcdehnkilogaaChecked
import GoSem.Claim
import GoSem.ClaimJoined
import GoSem.ClaimMapViews
import Derived.JoinedTies
import Derived.KernelRfl
namespace Go.Proofs.Ytmdcdehnkilogaa
/- THE CELL 'sum', in the pinned program and in every row, IS THE sha256 OF THE DUMP (.gsa) THAT YtmdcdehnkilogaaProg.lean LOADS. Nothing in Lean hashes anything: it is a label: what it is worth is what the hold of that sum in a sandbox is worth. -/
noncomputable def Try.pinned : Pinned := { name := "ytmdcdehnkilogaa", sum := "5add4c8384636ba938cd182ac9cdb6acb3d252c35ee012a634f2612fe329869d", checked := Try.checked }
namespace Rows
def none {H : Type} : Left H := { results := [], args := [] }

/-- 'laws.FnExactLineFit': WHATEVER THE INPUT: true; the input reads as it did. -/
def fnExactLineFitSpec : ChangeSpec := { name := "fnExactLineFit", fn := fun _ => fun
  | [d] => { results := [.lit (.bool true)], args := [d] }
  | _ => none }
def fnExactLineFitRow : OpenClaim := { program := "ytmdcdehnkilogaa", sum := "5add4c8384636ba938cd182ac9cdb6acb3d252c35ee012a634f2612fe329869d", func := "loop.example/g01375/laws.FnExactLineFit", spec := "fnExactLineFit", inPlace := ["math.Float64bits", "math.Float64frombits"], unfollowed := true, recurses := true, apart := false }
def FnExactLineFitSaid : Prop := fnExactLineFitRow.holds Try.pinned (OpenSpec.ofChange fnExactLineFitSpec)

/-- ITS FALSE NEIGHBOUR: 'it returns false'. Refute it at one input. -/
def fnExactLineFitWrong : ChangeSpec := { name := "fnExactLineFit", fn := fun _ => fun
  | [d] => { results := [.lit (.bool false)], args := [d] }
  | _ => none }
def FnExactLineFitWrongFalsely : Prop := fnExactLineFitRow.holds Try.pinned (OpenSpec.ofChange fnExactLineFitWrong)

/-- 'laws.FnExactSelfLikes': WHATEVER THE INPUT: true; the input reads as it did. -/
def fnExactSelfLikesSpec : ChangeSpec := { name := "fnExactSelfLikes", fn := fun _ => fun
  | [d1, d2] => { results := [.lit (.bool true)], args := [d1, d2] }
  | _ => none }
def fnExactSelfLikesRow : OpenClaim := { program := "ytmdcdehnkilogaa", sum := "5add4c8384636ba938cd182ac9cdb6acb3d252c35ee012a634f2612fe329869d", func := "loop.example/g01375/laws.FnExactSelfLikes", spec := "fnExactSelfLikes", inPlace := ["math.Float64bits", "math.Float64frombits"], unfollowed := true, recurses := true, apart := false }
def FnExactSelfLikesSaid : Prop := fnExactSelfLikesRow.holds Try.pinned (OpenSpec.ofChange fnExactSelfLikesSpec)

/-- ITS FALSE NEIGHBOUR: 'it returns false'. Refute it at one input. -/
def fnExactSelfLikesWrong : ChangeSpec := { name := "fnExactSelfLikes", fn := fun _ => fun
  | [d1, d2] => { results := [.lit (.bool false)], args := [d1, d2] }
  | _ => none }
def FnExactSelfLikesWrongFalsely : Prop := fnExactSelfLikesRow.holds Try.pinned (OpenSpec.ofChange fnExactSelfLikesWrong)

/-- 'laws.FnExactLikeSum': WHATEVER THE INPUT: true; the input reads as it did. -/
def fnExactLikeSumSpec : ChangeSpec := { name := "fnExactLikeSum", fn := fun _ => fun
  | [d1, d2] => { results := [.lit (.bool true)], args := [d1, d2] }
  | _ => none }
def fnExactLikeSumRow : OpenClaim := { program := "ytmdcdehnkilogaa", sum := "5add4c8384636ba938cd182ac9cdb6acb3d252c35ee012a634f2612fe329869d", func := "loop.example/g01375/laws.FnExactLikeSum", spec := "fnExactLikeSum", inPlace := ["math.Float64bits", "math.Float64frombits"], unfollowed := true, recurses := true, apart := false }
def FnExactLikeSumSaid : Prop := fnExactLikeSumRow.holds Try.pinned (OpenSpec.ofChange fnExactLikeSumSpec)

/-- ITS FALSE NEIGHBOUR: 'it returns false'. Refute it at one input. -/
def fnExactLikeSumWrong : ChangeSpec := { name := "fnExactLikeSum", fn := fun _ => fun
  | [d1, d2] => { results := [.lit (.bool false)], args := [d1, d2] }
  | _ => none }
def FnExactLikeSumWrongFalsely : Prop := fnExactLikeSumRow.holds Try.pinned (OpenSpec.ofChange fnExactLikeSumWrong)

/-- 'laws.FnExactPairCount': WHATEVER THE INPUT: true; the input reads as it did. -/
def fnExactPairCountSpec : ChangeSpec := { name := "fnExactPairCount", fn := fun _ => fun
  | [d1, d2] => { results := [.lit (.bool true)], args := [d1, d2] }
  | _ => none }
def fnExactPairCountRow : OpenClaim := { program := "ytmdcdehnkilogaa", sum := "5add4c8384636ba938cd182ac9cdb6acb3d252c35ee012a634f2612fe329869d", func := "loop.example/g01375/laws.FnExactPairCount", spec := "fnExactPairCount", inPlace := ["math.Float64bits", "math.Float64frombits"], apart := false }
def FnExactPairCountSaid : Prop := fnExactPairCountRow.holds Try.pinned (OpenSpec.ofChange fnExactPairCountSpec)

/-- ITS FALSE NEIGHBOUR: 'it returns false'. Refute it at one input. -/
def fnExactPairCountWrong : ChangeSpec := { name := "fnExactPairCount", fn := fun _ => fun
  | [d1, d2] => { results := [.lit (.bool false)], args := [d1, d2] }
  | _ => none }
def FnExactPairCountWrongFalsely : Prop := fnExactPairCountRow.holds Try.pinned (OpenSpec.ofChange fnExactPairCountWrong)

/-- 'laws.FnExactFoldedBy': WHATEVER THE INPUT: true; the input reads as it did. -/
def fnExactFoldedBySpec : ChangeSpec := { name := "fnExactFoldedBy", fn := fun _ => fun
  | [d1, d2] => { results := [.lit (.bool true)], args := [d1, d2] }
  | _ => none }
def fnExactFoldedByRow : OpenClaim := { program := "ytmdcdehnkilogaa", sum := "5add4c8384636ba938cd182ac9cdb6acb3d252c35ee012a634f2612fe329869d", func := "loop.example/g01375/laws.FnExactFoldedBy", spec := "fnExactFoldedBy", inPlace := ["math.Float64bits", "math.Float64frombits"], unfollowed := true, recurses := true, apart := false }
def FnExactFoldedBySaid : Prop := fnExactFoldedByRow.holds Try.pinned (OpenSpec.ofChange fnExactFoldedBySpec)

/-- ITS FALSE NEIGHBOUR: 'it returns false'. Refute it at one input. -/
def fnExactFoldedByWrong : ChangeSpec := { name := "fnExactFoldedBy", fn := fun _ => fun
  | [d1, d2] => { results := [.lit (.bool false)], args := [d1, d2] }
  | _ => none }
def FnExactFoldedByWrongFalsely : Prop := fnExactFoldedByRow.holds Try.pinned (OpenSpec.ofChange fnExactFoldedByWrong)

/-- 'laws.FnExactStepWaves': WHATEVER THE INPUT: true; the input reads as it did. -/
def fnExactStepWavesSpec : ChangeSpec := { name := "fnExactStepWaves", fn := fun _ => fun
  | [d] => { results := [.lit (.bool true)], args := [d] }
  | _ => none }
def fnExactStepWavesRow : OpenClaim := { program := "ytmdcdehnkilogaa", sum := "5add4c8384636ba938cd182ac9cdb6acb3d252c35ee012a634f2612fe329869d", func := "loop.example/g01375/laws.FnExactStepWaves", spec := "fnExactStepWaves", inPlace := ["math.Float64bits", "math.Float64frombits"], unfollowed := true, recurses := true, apart := false }
def FnExactStepWavesSaid : Prop := fnExactStepWavesRow.holds Try.pinned (OpenSpec.ofChange fnExactStepWavesSpec)

/-- ITS FALSE NEIGHBOUR: 'it returns false'. Refute it at one input. -/
def fnExactStepWavesWrong : ChangeSpec := { name := "fnExactStepWaves", fn := fun _ => fun
  | [d] => { results := [.lit (.bool false)], args := [d] }
  | _ => none }
def FnExactStepWavesWrongFalsely : Prop := fnExactStepWavesRow.holds Try.pinned (OpenSpec.ofChange fnExactStepWavesWrong)

/-- 'laws.FnExactBackOfWaves': WHATEVER THE INPUT: true; the input reads as it did. -/
def fnExactBackOfWavesSpec : ChangeSpec := { name := "fnExactBackOfWaves", fn := fun _ => fun
  | [d1, d2] => { results := [.lit (.bool true)], args := [d1, d2] }
  | _ => none }
def fnExactBackOfWavesRow : OpenClaim := { program := "ytmdcdehnkilogaa", sum := "5add4c8384636ba938cd182ac9cdb6acb3d252c35ee012a634f2612fe329869d", func := "loop.example/g01375/laws.FnExactBackOfWaves", spec := "fnExactBackOfWaves", inPlace := ["math.Float64bits", "math.Float64frombits"], unfollowed := true, recurses := true, apart := false }
def FnExactBackOfWavesSaid : Prop := fnExactBackOfWavesRow.holds Try.pinned (OpenSpec.ofChange fnExactBackOfWavesSpec)

/-- ITS FALSE NEIGHBOUR: 'it returns false'. Refute it at one input. -/
def fnExactBackOfWavesWrong : ChangeSpec := { name := "fnExactBackOfWaves", fn := fun _ => fun
  | [d1, d2] => { results := [.lit (.bool false)], args := [d1, d2] }
  | _ => none }
def FnExactBackOfWavesWrongFalsely : Prop := fnExactBackOfWavesRow.holds Try.pinned (OpenSpec.ofChange fnExactBackOfWavesWrong)

/-- 'laws.FnExactValidState': WHATEVER THE INPUT: true; the input reads as it did. -/
def fnExactValidStateSpec : ChangeSpec := { name := "fnExactValidState", fn := fun _ => fun
  | [d] => { results := [.lit (.bool true)], args := [d] }
  | _ => none }
def fnExactValidStateRow : OpenClaim := { program := "ytmdcdehnkilogaa", sum := "5add4c8384636ba938cd182ac9cdb6acb3d252c35ee012a634f2612fe329869d", func := "loop.example/g01375/laws.FnExactValidState", spec := "fnExactValidState", inPlace := ["math.Float64bits", "math.Float64frombits"], apart := false }
def FnExactValidStateSaid : Prop := fnExactValidStateRow.holds Try.pinned (OpenSpec.ofChange fnExactValidStateSpec)

/-- ITS FALSE NEIGHBOUR: 'it returns false'. Refute it at one input. -/
def fnExactValidStateWrong : ChangeSpec := { name := "fnExactValidState", fn := fun _ => fun
  | [d] => { results := [.lit (.bool false)], args := [d] }
  | _ => none }
def FnExactValidStateWrongFalsely : Prop := fnExactValidStateRow.holds Try.pinned (OpenSpec.ofChange fnExactValidStateWrong)

/-- 'laws.FnExactGuessOf': WHATEVER THE INPUT: true; the input reads as it did. -/
def fnExactGuessOfSpec : ChangeSpec := { name := "fnExactGuessOf", fn := fun _ => fun
  | [d1, d2] => { results := [.lit (.bool true)], args := [d1, d2] }
  | _ => none }
def fnExactGuessOfRow : OpenClaim := { program := "ytmdcdehnkilogaa", sum := "5add4c8384636ba938cd182ac9cdb6acb3d252c35ee012a634f2612fe329869d", func := "loop.example/g01375/laws.FnExactGuessOf", spec := "fnExactGuessOf", inPlace := ["math.Float64bits", "math.Float64frombits"], apart := false }
def FnExactGuessOfSaid : Prop := fnExactGuessOfRow.holds Try.pinned (OpenSpec.ofChange fnExactGuessOfSpec)

/-- ITS FALSE NEIGHBOUR: 'it returns false'. Refute it at one input. -/
def fnExactGuessOfWrong : ChangeSpec := { name := "fnExactGuessOf", fn := fun _ => fun
  | [d1, d2] => { results := [.lit (.bool false)], args := [d1, d2] }
  | _ => none }
def FnExactGuessOfWrongFalsely : Prop := fnExactGuessOfRow.holds Try.pinned (OpenSpec.ofChange fnExactGuessOfWrong)

/-- 'laws.FnExactSimpleLevels': WHATEVER THE INPUT: true; the input reads as it did. -/
def fnExactSimpleLevelsSpec : ChangeSpec := { name := "fnExactSimpleLevels", fn := fun _ => fun
  | [d1, d2] => { results := [.lit (.bool true)], args := [d1, d2] }
  | _ => none }
def fnExactSimpleLevelsRow : OpenClaim := { program := "ytmdcdehnkilogaa", sum := "5add4c8384636ba938cd182ac9cdb6acb3d252c35ee012a634f2612fe329869d", func := "loop.example/g01375/laws.FnExactSimpleLevels", spec := "fnExactSimpleLevels", inPlace := ["math.Float64bits", "math.Float64frombits"], unfollowed := true, recurses := true, apart := false }
def FnExactSimpleLevelsSaid : Prop := fnExactSimpleLevelsRow.holds Try.pinned (OpenSpec.ofChange fnExactSimpleLevelsSpec)

/-- ITS FALSE NEIGHBOUR: 'it returns false'. Refute it at one input. -/
def fnExactSimpleLevelsWrong : ChangeSpec := { name := "fnExactSimpleLevels", fn := fun _ => fun
  | [d1, d2] => { results := [.lit (.bool false)], args := [d1, d2] }
  | _ => none }
def FnExactSimpleLevelsWrongFalsely : Prop := fnExactSimpleLevelsRow.holds Try.pinned (OpenSpec.ofChange fnExactSimpleLevelsWrong)

/-- 'laws.FnExactDoubleLine': WHATEVER THE INPUT: true; the input reads as it did. -/
def fnExactDoubleLineSpec : ChangeSpec := { name := "fnExactDoubleLine", fn := fun _ => fun
  | [d1, d2] => { results := [.lit (.bool true)], args := [d1, d2] }
  | _ => none }
def fnExactDoubleLineRow : OpenClaim := { program := "ytmdcdehnkilogaa", sum := "5add4c8384636ba938cd182ac9cdb6acb3d252c35ee012a634f2612fe329869d", func := "loop.example/g01375/laws.FnExactDoubleLine", spec := "fnExactDoubleLine", inPlace := ["math.Float64bits", "math.Float64frombits"], unfollowed := true, recurses := true, apart := false }
def FnExactDoubleLineSaid : Prop := fnExactDoubleLineRow.holds Try.pinned (OpenSpec.ofChange fnExactDoubleLineSpec)

/-- ITS FALSE NEIGHBOUR: 'it returns false'. Refute it at one input. -/
def fnExactDoubleLineWrong : ChangeSpec := { name := "fnExactDoubleLine", fn := fun _ => fun
  | [d1, d2] => { results := [.lit (.bool false)], args := [d1, d2] }
  | _ => none }
def FnExactDoubleLineWrongFalsely : Prop := fnExactDoubleLineRow.holds Try.pinned (OpenSpec.ofChange fnExactDoubleLineWrong)

/-- 'laws.FnExactSeldomNeeds': WHATEVER THE INPUT: true; the input reads as it did. -/
def fnExactSeldomNeedsSpec : ChangeSpec := { name := "fnExactSeldomNeeds", fn := fun _ => fun
  | [d1, d2] => { results := [.lit (.bool true)], args := [d1, d2] }
  | _ => none }
def fnExactSeldomNeedsRow : OpenClaim := { program := "ytmdcdehnkilogaa", sum := "5add4c8384636ba938cd182ac9cdb6acb3d252c35ee012a634f2612fe329869d", func := "loop.example/g01375/laws.FnExactSeldomNeeds", spec := "fnExactSeldomNeeds", inPlace := ["math.Float64bits", "math.Float64frombits"], unfollowed := true, recurses := true, apart := false }
def FnExactSeldomNeedsSaid : Prop := fnExactSeldomNeedsRow.holds Try.pinned (OpenSpec.ofChange fnExactSeldomNeedsSpec)

/-- ITS FALSE NEIGHBOUR: 'it returns false'. Refute it at one input. -/
def fnExactSeldomNeedsWrong : ChangeSpec := { name := "fnExactSeldomNeeds", fn := fun _ => fun
  | [d1, d2] => { results := [.lit (.bool false)], args := [d1, d2] }
  | _ => none }
def FnExactSeldomNeedsWrongFalsely : Prop := fnExactSeldomNeedsRow.holds Try.pinned (OpenSpec.ofChange fnExactSeldomNeedsWrong)

/- THE SECOND FORM. 'bulk': how many values and letters a reading holds, each counted each time it is reached (what is shared counts as often as it is met; a slice's spare places count too). A statement '..UptoSaid' is the law's where the arguments, and the package variables that the reading takes, are together of bulk at most 1048576: NARROWER than '..Said'. Prove '..Said' where nothing that the law and all that it calls make is longer than what came in: it says more and counts as full. Else prove '..UptoSaid'. A law counts once. -/
mutual
def uptoBulk {H : Type} : DataW H → Nat
  | .lit (.string bytes) => bytes.length + 1
  | .lit _ => 1
  | .nil => 1
  | .ptr d => uptoBulk d + 1
  | .slice elems spare => uptoBulkAll elems + uptoBulkAll spare + 1
  | .agg parts => uptoBulkAll parts + 1
  | .iface _ d => uptoBulk d + 1
  | .map entries => uptoBulkEntries entries + 1
  | .held _ => 1
def uptoBulkAll {H : Type} : List (DataW H) → Nat
  | [] => 0
  | d :: r => uptoBulk d + uptoBulkAll r
def uptoBulkEntries {H : Type} : List (Lit × DataW H) → Nat
  | [] => 0
  | x :: r => uptoBulkEntry x + uptoBulkEntries r
def uptoBulkEntry {H : Type} : Lit × DataW H → Nat
  | (.string bytes, d) => bytes.length + uptoBulk d + 1
  | (_, d) => uptoBulk d + 1
 end
def uptoSmall : (H : Type) → List (DataW H) → Bool := fun _ ds => decide (uptoBulkAll ds ≤ 1048576)
def OpenSpec.upto (s : _root_.Go.ChangeSpec) : _root_.Go.OpenSpec := { _root_.Go.OpenSpec.ofChange s with cond := some uptoSmall }

/-- 'laws.FnExactLineFit', WHERE WHAT IT READS IS OF BULK AT MOST 1048576: true; the input reads as it did. -/
def fnExactLineFitUptoRow : OpenClaim := { program := "ytmdcdehnkilogaa", sum := "5add4c8384636ba938cd182ac9cdb6acb3d252c35ee012a634f2612fe329869d", func := "loop.example/g01375/laws.FnExactLineFit", spec := "fnExactLineFit", inPlace := ["math.Float64bits", "math.Float64frombits"], unfollowed := true, recurses := true, apart := false, narrowed := true }
def FnExactLineFitUptoSaid : Prop := fnExactLineFitUptoRow.holds Try.pinned (OpenSpec.upto fnExactLineFitSpec)

/-- 'laws.FnExactSelfLikes', WHERE WHAT IT READS IS OF BULK AT MOST 1048576: true; the input reads as it did. -/
def fnExactSelfLikesUptoRow : OpenClaim := { program := "ytmdcdehnkilogaa", sum := "5add4c8384636ba938cd182ac9cdb6acb3d252c35ee012a634f2612fe329869d", func := "loop.example/g01375/laws.FnExactSelfLikes", spec := "fnExactSelfLikes", inPlace := ["math.Float64bits", "math.Float64frombits"], unfollowed := true, recurses := true, apart := false, narrowed := true }
def FnExactSelfLikesUptoSaid : Prop := fnExactSelfLikesUptoRow.holds Try.pinned (OpenSpec.upto fnExactSelfLikesSpec)

/-- 'laws.FnExactLikeSum', WHERE WHAT IT READS IS OF BULK AT MOST 1048576: true; the input reads as it did. -/
def fnExactLikeSumUptoRow : OpenClaim := { program := "ytmdcdehnkilogaa", sum := "5add4c8384636ba938cd182ac9cdb6acb3d252c35ee012a634f2612fe329869d", func := "loop.example/g01375/laws.FnExactLikeSum", spec := "fnExactLikeSum", inPlace := ["math.Float64bits", "math.Float64frombits"], unfollowed := true, recurses := true, apart := false, narrowed := true }
def FnExactLikeSumUptoSaid : Prop := fnExactLikeSumUptoRow.holds Try.pinned (OpenSpec.upto fnExactLikeSumSpec)

/-- 'laws.FnExactPairCount', WHERE WHAT IT READS IS OF BULK AT MOST 1048576: true; the input reads as it did. -/
def fnExactPairCountUptoRow : OpenClaim := { program := "ytmdcdehnkilogaa", sum := "5add4c8384636ba938cd182ac9cdb6acb3d252c35ee012a634f2612fe329869d", func := "loop.example/g01375/laws.FnExactPairCount", spec := "fnExactPairCount", inPlace := ["math.Float64bits", "math.Float64frombits"], apart := false, narrowed := true }
def FnExactPairCountUptoSaid : Prop := fnExactPairCountUptoRow.holds Try.pinned (OpenSpec.upto fnExactPairCountSpec)

/-- 'laws.FnExactFoldedBy', WHERE WHAT IT READS IS OF BULK AT MOST 1048576: true; the input reads as it did. -/
def fnExactFoldedByUptoRow : OpenClaim := { program := "ytmdcdehnkilogaa", sum := "5add4c8384636ba938cd182ac9cdb6acb3d252c35ee012a634f2612fe329869d", func := "loop.example/g01375/laws.FnExactFoldedBy", spec := "fnExactFoldedBy", inPlace := ["math.Float64bits", "math.Float64frombits"], unfollowed := true, recurses := true, apart := false, narrowed := true }
def FnExactFoldedByUptoSaid : Prop := fnExactFoldedByUptoRow.holds Try.pinned (OpenSpec.upto fnExactFoldedBySpec)

/-- 'laws.FnExactStepWaves', WHERE WHAT IT READS IS OF BULK AT MOST 1048576: true; the input reads as it did. -/
def fnExactStepWavesUptoRow : OpenClaim := { program := "ytmdcdehnkilogaa", sum := "5add4c8384636ba938cd182ac9cdb6acb3d252c35ee012a634f2612fe329869d", func := "loop.example/g01375/laws.FnExactStepWaves", spec := "fnExactStepWaves", inPlace := ["math.Float64bits", "math.Float64frombits"], unfollowed := true, recurses := true, apart := false, narrowed := true }
def FnExactStepWavesUptoSaid : Prop := fnExactStepWavesUptoRow.holds Try.pinned (OpenSpec.upto fnExactStepWavesSpec)

/-- 'laws.FnExactBackOfWaves', WHERE WHAT IT READS IS OF BULK AT MOST 1048576: true; the input reads as it did. -/
def fnExactBackOfWavesUptoRow : OpenClaim := { program := "ytmdcdehnkilogaa", sum := "5add4c8384636ba938cd182ac9cdb6acb3d252c35ee012a634f2612fe329869d", func := "loop.example/g01375/laws.FnExactBackOfWaves", spec := "fnExactBackOfWaves", inPlace := ["math.Float64bits", "math.Float64frombits"], unfollowed := true, recurses := true, apart := false, narrowed := true }
def FnExactBackOfWavesUptoSaid : Prop := fnExactBackOfWavesUptoRow.holds Try.pinned (OpenSpec.upto fnExactBackOfWavesSpec)

/-- 'laws.FnExactValidState', WHERE WHAT IT READS IS OF BULK AT MOST 1048576: true; the input reads as it did. -/
def fnExactValidStateUptoRow : OpenClaim := { program := "ytmdcdehnkilogaa", sum := "5add4c8384636ba938cd182ac9cdb6acb3d252c35ee012a634f2612fe329869d", func := "loop.example/g01375/laws.FnExactValidState", spec := "fnExactValidState", inPlace := ["math.Float64bits", "math.Float64frombits"], apart := false, narrowed := true }
def FnExactValidStateUptoSaid : Prop := fnExactValidStateUptoRow.holds Try.pinned (OpenSpec.upto fnExactValidStateSpec)

/-- 'laws.FnExactGuessOf', WHERE WHAT IT READS IS OF BULK AT MOST 1048576: true; the input reads as it did. -/
def fnExactGuessOfUptoRow : OpenClaim := { program := "ytmdcdehnkilogaa", sum := "5add4c8384636ba938cd182ac9cdb6acb3d252c35ee012a634f2612fe329869d", func := "loop.example/g01375/laws.FnExactGuessOf", spec := "fnExactGuessOf", inPlace := ["math.Float64bits", "math.Float64frombits"], apart := false, narrowed := true }
def FnExactGuessOfUptoSaid : Prop := fnExactGuessOfUptoRow.holds Try.pinned (OpenSpec.upto fnExactGuessOfSpec)

/-- 'laws.FnExactSimpleLevels', WHERE WHAT IT READS IS OF BULK AT MOST 1048576: true; the input reads as it did. -/
def fnExactSimpleLevelsUptoRow : OpenClaim := { program := "ytmdcdehnkilogaa", sum := "5add4c8384636ba938cd182ac9cdb6acb3d252c35ee012a634f2612fe329869d", func := "loop.example/g01375/laws.FnExactSimpleLevels", spec := "fnExactSimpleLevels", inPlace := ["math.Float64bits", "math.Float64frombits"], unfollowed := true, recurses := true, apart := false, narrowed := true }
def FnExactSimpleLevelsUptoSaid : Prop := fnExactSimpleLevelsUptoRow.holds Try.pinned (OpenSpec.upto fnExactSimpleLevelsSpec)

/-- 'laws.FnExactDoubleLine', WHERE WHAT IT READS IS OF BULK AT MOST 1048576: true; the input reads as it did. -/
def fnExactDoubleLineUptoRow : OpenClaim := { program := "ytmdcdehnkilogaa", sum := "5add4c8384636ba938cd182ac9cdb6acb3d252c35ee012a634f2612fe329869d", func := "loop.example/g01375/laws.FnExactDoubleLine", spec := "fnExactDoubleLine", inPlace := ["math.Float64bits", "math.Float64frombits"], unfollowed := true, recurses := true, apart := false, narrowed := true }
def FnExactDoubleLineUptoSaid : Prop := fnExactDoubleLineUptoRow.holds Try.pinned (OpenSpec.upto fnExactDoubleLineSpec)

/-- 'laws.FnExactSeldomNeeds', WHERE WHAT IT READS IS OF BULK AT MOST 1048576: true; the input reads as it did. -/
def fnExactSeldomNeedsUptoRow : OpenClaim := { program := "ytmdcdehnkilogaa", sum := "5add4c8384636ba938cd182ac9cdb6acb3d252c35ee012a634f2612fe329869d", func := "loop.example/g01375/laws.FnExactSeldomNeeds", spec := "fnExactSeldomNeeds", inPlace := ["math.Float64bits", "math.Float64frombits"], unfollowed := true, recurses := true, apart := false, narrowed := true }
def FnExactSeldomNeedsUptoSaid : Prop := fnExactSeldomNeedsUptoRow.holds Try.pinned (OpenSpec.upto fnExactSeldomNeedsSpec)

end Rows
end Go.Proofs.Ytmdcdehnkilogaa
