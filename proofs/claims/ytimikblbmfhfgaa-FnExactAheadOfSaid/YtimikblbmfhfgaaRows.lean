/-
  No cell of these rows narrows 'for every input' (looked for: loops, veiled, ifaces, maps, wideKeys, modest, calm, conditions, laid).
  DERIVED. THE GIVEN ROWS OF THIS SEAT. 12 by the template 'for every input the law returns true; each argument reads behind the call as it read before'; 0 by the template 'total and deterministic' (their statements: YtimikblbmfhfgaaTotals.lean).
  GIVEN WITH THE SEED: the statements are not yours to turn. If you find one false, say at which input.
  Laid BY PROGRAM, IN A SANDBOX (cutbox-rows.mjs): the forced cells as the released guide's own fill.sh prints them over the translation 0f4d59da00ec48e6… (all of the seat's roots in one cut). By AI agents, Wed Nov 11 2026. No macro, syntax, notation, axiom, sorry.
-/
import Derived.Test.YtimikblbmfhfgaaChecked
import GoSem.Claim
import GoSem.ClaimJoined
import GoSem.ClaimMapViews
import Derived.JoinedTies
import Derived.KernelRfl
namespace Go.Proofs.Ytimikblbmfhfgaa
/- THE CELL 'sum', in the pinned program and in every row, IS THE sha256 OF THE DUMP (.gsa) THAT YtimikblbmfhfgaaProg.lean LOADS. Nothing in Lean hashes anything: it is a label: what it is worth is what the hold of that sum in a sandbox is worth. -/
noncomputable def Try.pinned : Pinned := { name := "ytimikblbmfhfgaa", sum := "0f4d59da00ec48e65202d3a85dadf8161b4e745e085d620e4560995e0884bbde", checked := Try.checked }
namespace Rows
def none {H : Type} : Left H := { results := [], args := [] }

/-- 'laws.FnExactValidShares': WHATEVER THE INPUT: true; the input reads as it did. -/
def fnExactValidSharesSpec : ChangeSpec := { name := "fnExactValidShares", fn := fun _ => fun
  | [d] => { results := [.lit (.bool true)], args := [d] }
  | _ => none }
def fnExactValidSharesRow : OpenClaim := { program := "ytimikblbmfhfgaa", sum := "0f4d59da00ec48e65202d3a85dadf8161b4e745e085d620e4560995e0884bbde", func := "loop.example/g01375/laws.FnExactValidShares", spec := "fnExactValidShares", apart := false }
def FnExactValidSharesSaid : Prop := fnExactValidSharesRow.holds Try.pinned (OpenSpec.ofChange fnExactValidSharesSpec)

/-- ITS FALSE NEIGHBOUR: 'it returns false'. Refute it at one input. -/
def fnExactValidSharesWrong : ChangeSpec := { name := "fnExactValidShares", fn := fun _ => fun
  | [d] => { results := [.lit (.bool false)], args := [d] }
  | _ => none }
def FnExactValidSharesWrongFalsely : Prop := fnExactValidSharesRow.holds Try.pinned (OpenSpec.ofChange fnExactValidSharesWrong)

/-- 'laws.FnExactValidState': WHATEVER THE INPUT: true; the input reads as it did. -/
def fnExactValidStateSpec : ChangeSpec := { name := "fnExactValidState", fn := fun _ => fun
  | [d] => { results := [.lit (.bool true)], args := [d] }
  | _ => none }
def fnExactValidStateRow : OpenClaim := { program := "ytimikblbmfhfgaa", sum := "0f4d59da00ec48e65202d3a85dadf8161b4e745e085d620e4560995e0884bbde", func := "loop.example/g01375/laws.FnExactValidState", spec := "fnExactValidState", inPlace := ["math.Float64bits", "math.Float64frombits"], apart := false }
def FnExactValidStateSaid : Prop := fnExactValidStateRow.holds Try.pinned (OpenSpec.ofChange fnExactValidStateSpec)

/-- ITS FALSE NEIGHBOUR: 'it returns false'. Refute it at one input. -/
def fnExactValidStateWrong : ChangeSpec := { name := "fnExactValidState", fn := fun _ => fun
  | [d] => { results := [.lit (.bool false)], args := [d] }
  | _ => none }
def FnExactValidStateWrongFalsely : Prop := fnExactValidStateRow.holds Try.pinned (OpenSpec.ofChange fnExactValidStateWrong)

/-- 'laws.FnExactSameState': WHATEVER THE INPUT: true; the input reads as it did. -/
def fnExactSameStateSpec : ChangeSpec := { name := "fnExactSameState", fn := fun _ => fun
  | [d1, d2] => { results := [.lit (.bool true)], args := [d1, d2] }
  | _ => none }
def fnExactSameStateRow : OpenClaim := { program := "ytimikblbmfhfgaa", sum := "0f4d59da00ec48e65202d3a85dadf8161b4e745e085d620e4560995e0884bbde", func := "loop.example/g01375/laws.FnExactSameState", spec := "fnExactSameState", inPlace := ["math.Float32bits"], unfollowed := true, recurses := true, apart := false }
def FnExactSameStateSaid : Prop := fnExactSameStateRow.holds Try.pinned (OpenSpec.ofChange fnExactSameStateSpec)

/-- ITS FALSE NEIGHBOUR: 'it returns false'. Refute it at one input. -/
def fnExactSameStateWrong : ChangeSpec := { name := "fnExactSameState", fn := fun _ => fun
  | [d1, d2] => { results := [.lit (.bool false)], args := [d1, d2] }
  | _ => none }
def FnExactSameStateWrongFalsely : Prop := fnExactSameStateRow.holds Try.pinned (OpenSpec.ofChange fnExactSameStateWrong)

/-- 'laws.FnExactGuessOf': WHATEVER THE INPUT: true; the input reads as it did. -/
def fnExactGuessOfSpec : ChangeSpec := { name := "fnExactGuessOf", fn := fun _ => fun
  | [d1, d2] => { results := [.lit (.bool true)], args := [d1, d2] }
  | _ => none }
def fnExactGuessOfRow : OpenClaim := { program := "ytimikblbmfhfgaa", sum := "0f4d59da00ec48e65202d3a85dadf8161b4e745e085d620e4560995e0884bbde", func := "loop.example/g01375/laws.FnExactGuessOf", spec := "fnExactGuessOf", inPlace := ["math.Float64bits", "math.Float64frombits"], apart := false }
def FnExactGuessOfSaid : Prop := fnExactGuessOfRow.holds Try.pinned (OpenSpec.ofChange fnExactGuessOfSpec)

/-- ITS FALSE NEIGHBOUR: 'it returns false'. Refute it at one input. -/
def fnExactGuessOfWrong : ChangeSpec := { name := "fnExactGuessOf", fn := fun _ => fun
  | [d1, d2] => { results := [.lit (.bool false)], args := [d1, d2] }
  | _ => none }
def FnExactGuessOfWrongFalsely : Prop := fnExactGuessOfRow.holds Try.pinned (OpenSpec.ofChange fnExactGuessOfWrong)

/-- 'laws.FnExactStepState': WHATEVER THE INPUT: true; the input reads as it did. -/
def fnExactStepStateSpec : ChangeSpec := { name := "fnExactStepState", fn := fun _ => fun
  | [d1, d2, d3] => { results := [.lit (.bool true)], args := [d1, d2, d3] }
  | _ => none }
def fnExactStepStateRow : OpenClaim := { program := "ytimikblbmfhfgaa", sum := "0f4d59da00ec48e65202d3a85dadf8161b4e745e085d620e4560995e0884bbde", func := "loop.example/g01375/laws.FnExactStepState", spec := "fnExactStepState", inPlace := ["math.Float64bits", "math.Float64frombits"], apart := false }
def FnExactStepStateSaid : Prop := fnExactStepStateRow.holds Try.pinned (OpenSpec.ofChange fnExactStepStateSpec)

/-- ITS FALSE NEIGHBOUR: 'it returns false'. Refute it at one input. -/
def fnExactStepStateWrong : ChangeSpec := { name := "fnExactStepState", fn := fun _ => fun
  | [d1, d2, d3] => { results := [.lit (.bool false)], args := [d1, d2, d3] }
  | _ => none }
def FnExactStepStateWrongFalsely : Prop := fnExactStepStateRow.holds Try.pinned (OpenSpec.ofChange fnExactStepStateWrong)

/-- 'laws.FnExactStartState': WHATEVER THE INPUT: true; the input reads as it did. -/
def fnExactStartStateSpec : ChangeSpec := { name := "fnExactStartState", fn := fun _ => fun
  | [d1, d2] => { results := [.lit (.bool true)], args := [d1, d2] }
  | _ => none }
def fnExactStartStateRow : OpenClaim := { program := "ytimikblbmfhfgaa", sum := "0f4d59da00ec48e65202d3a85dadf8161b4e745e085d620e4560995e0884bbde", func := "loop.example/g01375/laws.FnExactStartState", spec := "fnExactStartState", inPlace := ["math.Float64bits", "math.Float64frombits"], apart := false }
def FnExactStartStateSaid : Prop := fnExactStartStateRow.holds Try.pinned (OpenSpec.ofChange fnExactStartStateSpec)

/-- ITS FALSE NEIGHBOUR: 'it returns false'. Refute it at one input. -/
def fnExactStartStateWrong : ChangeSpec := { name := "fnExactStartState", fn := fun _ => fun
  | [d1, d2] => { results := [.lit (.bool false)], args := [d1, d2] }
  | _ => none }
def FnExactStartStateWrongFalsely : Prop := fnExactStartStateRow.holds Try.pinned (OpenSpec.ofChange fnExactStartStateWrong)

/-- 'laws.FnExactSimpleLevels': WHATEVER THE INPUT: true; the input reads as it did. -/
def fnExactSimpleLevelsSpec : ChangeSpec := { name := "fnExactSimpleLevels", fn := fun _ => fun
  | [d1, d2] => { results := [.lit (.bool true)], args := [d1, d2] }
  | _ => none }
def fnExactSimpleLevelsRow : OpenClaim := { program := "ytimikblbmfhfgaa", sum := "0f4d59da00ec48e65202d3a85dadf8161b4e745e085d620e4560995e0884bbde", func := "loop.example/g01375/laws.FnExactSimpleLevels", spec := "fnExactSimpleLevels", inPlace := ["math.Float64bits", "math.Float64frombits"], unfollowed := true, recurses := true, apart := false }
def FnExactSimpleLevelsSaid : Prop := fnExactSimpleLevelsRow.holds Try.pinned (OpenSpec.ofChange fnExactSimpleLevelsSpec)

/-- ITS FALSE NEIGHBOUR: 'it returns false'. Refute it at one input. -/
def fnExactSimpleLevelsWrong : ChangeSpec := { name := "fnExactSimpleLevels", fn := fun _ => fun
  | [d1, d2] => { results := [.lit (.bool false)], args := [d1, d2] }
  | _ => none }
def FnExactSimpleLevelsWrongFalsely : Prop := fnExactSimpleLevelsRow.holds Try.pinned (OpenSpec.ofChange fnExactSimpleLevelsWrong)

/-- 'laws.FnExactDoubleLine': WHATEVER THE INPUT: true; the input reads as it did. -/
def fnExactDoubleLineSpec : ChangeSpec := { name := "fnExactDoubleLine", fn := fun _ => fun
  | [d1, d2] => { results := [.lit (.bool true)], args := [d1, d2] }
  | _ => none }
def fnExactDoubleLineRow : OpenClaim := { program := "ytimikblbmfhfgaa", sum := "0f4d59da00ec48e65202d3a85dadf8161b4e745e085d620e4560995e0884bbde", func := "loop.example/g01375/laws.FnExactDoubleLine", spec := "fnExactDoubleLine", inPlace := ["math.Float64bits", "math.Float64frombits"], unfollowed := true, recurses := true, apart := false }
def FnExactDoubleLineSaid : Prop := fnExactDoubleLineRow.holds Try.pinned (OpenSpec.ofChange fnExactDoubleLineSpec)

/-- ITS FALSE NEIGHBOUR: 'it returns false'. Refute it at one input. -/
def fnExactDoubleLineWrong : ChangeSpec := { name := "fnExactDoubleLine", fn := fun _ => fun
  | [d1, d2] => { results := [.lit (.bool false)], args := [d1, d2] }
  | _ => none }
def FnExactDoubleLineWrongFalsely : Prop := fnExactDoubleLineRow.holds Try.pinned (OpenSpec.ofChange fnExactDoubleLineWrong)

/-- 'laws.FnExactSeldomNeeds': WHATEVER THE INPUT: true; the input reads as it did. -/
def fnExactSeldomNeedsSpec : ChangeSpec := { name := "fnExactSeldomNeeds", fn := fun _ => fun
  | [d1, d2] => { results := [.lit (.bool true)], args := [d1, d2] }
  | _ => none }
def fnExactSeldomNeedsRow : OpenClaim := { program := "ytimikblbmfhfgaa", sum := "0f4d59da00ec48e65202d3a85dadf8161b4e745e085d620e4560995e0884bbde", func := "loop.example/g01375/laws.FnExactSeldomNeeds", spec := "fnExactSeldomNeeds", inPlace := ["math.Float64bits", "math.Float64frombits"], unfollowed := true, recurses := true, apart := false }
def FnExactSeldomNeedsSaid : Prop := fnExactSeldomNeedsRow.holds Try.pinned (OpenSpec.ofChange fnExactSeldomNeedsSpec)

/-- ITS FALSE NEIGHBOUR: 'it returns false'. Refute it at one input. -/
def fnExactSeldomNeedsWrong : ChangeSpec := { name := "fnExactSeldomNeeds", fn := fun _ => fun
  | [d1, d2] => { results := [.lit (.bool false)], args := [d1, d2] }
  | _ => none }
def FnExactSeldomNeedsWrongFalsely : Prop := fnExactSeldomNeedsRow.holds Try.pinned (OpenSpec.ofChange fnExactSeldomNeedsWrong)

/-- 'laws.FnExactChanceNeeds': WHATEVER THE INPUT: true; the input reads as it did. -/
def fnExactChanceNeedsSpec : ChangeSpec := { name := "fnExactChanceNeeds", fn := fun _ => fun
  | [d1, d2, d3] => { results := [.lit (.bool true)], args := [d1, d2, d3] }
  | _ => none }
def fnExactChanceNeedsRow : OpenClaim := { program := "ytimikblbmfhfgaa", sum := "0f4d59da00ec48e65202d3a85dadf8161b4e745e085d620e4560995e0884bbde", func := "loop.example/g01375/laws.FnExactChanceNeeds", spec := "fnExactChanceNeeds", inPlace := ["math.Float64bits", "math.Float64frombits"], unfollowed := true, recurses := true, apart := false }
def FnExactChanceNeedsSaid : Prop := fnExactChanceNeedsRow.holds Try.pinned (OpenSpec.ofChange fnExactChanceNeedsSpec)

/-- ITS FALSE NEIGHBOUR: 'it returns false'. Refute it at one input. -/
def fnExactChanceNeedsWrong : ChangeSpec := { name := "fnExactChanceNeeds", fn := fun _ => fun
  | [d1, d2, d3] => { results := [.lit (.bool false)], args := [d1, d2, d3] }
  | _ => none }
def FnExactChanceNeedsWrongFalsely : Prop := fnExactChanceNeedsRow.holds Try.pinned (OpenSpec.ofChange fnExactChanceNeedsWrong)

/-- 'laws.FnExactTimesSeason': WHATEVER THE INPUT: true; the input reads as it did. -/
def fnExactTimesSeasonSpec : ChangeSpec := { name := "fnExactTimesSeason", fn := fun _ => fun
  | [d1, d2, d3] => { results := [.lit (.bool true)], args := [d1, d2, d3] }
  | _ => none }
def fnExactTimesSeasonRow : OpenClaim := { program := "ytimikblbmfhfgaa", sum := "0f4d59da00ec48e65202d3a85dadf8161b4e745e085d620e4560995e0884bbde", func := "loop.example/g01375/laws.FnExactTimesSeason", spec := "fnExactTimesSeason", inPlace := ["math.Float64bits", "math.Float64frombits"], unfollowed := true, recurses := true, apart := false }
def FnExactTimesSeasonSaid : Prop := fnExactTimesSeasonRow.holds Try.pinned (OpenSpec.ofChange fnExactTimesSeasonSpec)

/-- ITS FALSE NEIGHBOUR: 'it returns false'. Refute it at one input. -/
def fnExactTimesSeasonWrong : ChangeSpec := { name := "fnExactTimesSeason", fn := fun _ => fun
  | [d1, d2, d3] => { results := [.lit (.bool false)], args := [d1, d2, d3] }
  | _ => none }
def FnExactTimesSeasonWrongFalsely : Prop := fnExactTimesSeasonRow.holds Try.pinned (OpenSpec.ofChange fnExactTimesSeasonWrong)

/-- 'laws.FnExactAheadOf': WHATEVER THE INPUT: true; the input reads as it did. -/
def fnExactAheadOfSpec : ChangeSpec := { name := "fnExactAheadOf", fn := fun _ => fun
  | [d1, d2, d3] => { results := [.lit (.bool true)], args := [d1, d2, d3] }
  | _ => none }
def fnExactAheadOfRow : OpenClaim := { program := "ytimikblbmfhfgaa", sum := "0f4d59da00ec48e65202d3a85dadf8161b4e745e085d620e4560995e0884bbde", func := "loop.example/g01375/laws.FnExactAheadOf", spec := "fnExactAheadOf", inPlace := ["math.Float64bits", "math.Float64frombits"], unfollowed := true, recurses := true, apart := false }
def FnExactAheadOfSaid : Prop := fnExactAheadOfRow.holds Try.pinned (OpenSpec.ofChange fnExactAheadOfSpec)

/-- ITS FALSE NEIGHBOUR: 'it returns false'. Refute it at one input. -/
def fnExactAheadOfWrong : ChangeSpec := { name := "fnExactAheadOf", fn := fun _ => fun
  | [d1, d2, d3] => { results := [.lit (.bool false)], args := [d1, d2, d3] }
  | _ => none }
def FnExactAheadOfWrongFalsely : Prop := fnExactAheadOfRow.holds Try.pinned (OpenSpec.ofChange fnExactAheadOfWrong)

/- THE SECOND FORM. 'bulk': how many values and letters a reading holds, each counted each time it is reached (what is shared counts as often as it is met; a slice's spare places count too). A statement '..UptoSaid' is the law's where the arguments, and the package variables that the reading takes, are together of bulk at most 1048576: NARROWER than '..Said'. Prove '..Said' where nothing that the law and all that it calls make is longer than what came in: it says more and counts as full. Else prove '..UptoSaid'. A law counts once. -/
mutual
def uptoBulk {H : Type} : DataW H → Nat
  | .lit (.string bytes) => bytes.length + 1
  | .lit _ => 1
  | .nil => 1
  | .ptr d => uptoBulk d + 1
  | .slice elems spare => uptoBulkAll elems + uptoBulkAll spare + 1
  | .agg parts => uptoBulkAll parts + 1
  | .iface _ d => uptoBulk d + 1
  | .map entries => uptoBulkEntries entries + 1
  | .held _ => 1
def uptoBulkAll {H : Type} : List (DataW H) → Nat
  | [] => 0
  | d :: r => uptoBulk d + uptoBulkAll r
def uptoBulkEntries {H : Type} : List (Lit × DataW H) → Nat
  | [] => 0
  | x :: r => uptoBulkEntry x + uptoBulkEntries r
def uptoBulkEntry {H : Type} : Lit × DataW H → Nat
  | (.string bytes, d) => bytes.length + uptoBulk d + 1
  | (_, d) => uptoBulk d + 1
 end
def uptoSmall : (H : Type) → List (DataW H) → Bool := fun _ ds => decide (uptoBulkAll ds ≤ 1048576)
def OpenSpec.upto (s : _root_.Go.ChangeSpec) : _root_.Go.OpenSpec := { _root_.Go.OpenSpec.ofChange s with cond := some uptoSmall }

/-- 'laws.FnExactValidShares', WHERE WHAT IT READS IS OF BULK AT MOST 1048576: true; the input reads as it did. -/
def fnExactValidSharesUptoRow : OpenClaim := { program := "ytimikblbmfhfgaa", sum := "0f4d59da00ec48e65202d3a85dadf8161b4e745e085d620e4560995e0884bbde", func := "loop.example/g01375/laws.FnExactValidShares", spec := "fnExactValidShares", apart := false, narrowed := true }
def FnExactValidSharesUptoSaid : Prop := fnExactValidSharesUptoRow.holds Try.pinned (OpenSpec.upto fnExactValidSharesSpec)

/-- 'laws.FnExactValidState', WHERE WHAT IT READS IS OF BULK AT MOST 1048576: true; the input reads as it did. -/
def fnExactValidStateUptoRow : OpenClaim := { program := "ytimikblbmfhfgaa", sum := "0f4d59da00ec48e65202d3a85dadf8161b4e745e085d620e4560995e0884bbde", func := "loop.example/g01375/laws.FnExactValidState", spec := "fnExactValidState", inPlace := ["math.Float64bits", "math.Float64frombits"], apart := false, narrowed := true }
def FnExactValidStateUptoSaid : Prop := fnExactValidStateUptoRow.holds Try.pinned (OpenSpec.upto fnExactValidStateSpec)

/-- 'laws.FnExactSameState', WHERE WHAT IT READS IS OF BULK AT MOST 1048576: true; the input reads as it did. -/
def fnExactSameStateUptoRow : OpenClaim := { program := "ytimikblbmfhfgaa", sum := "0f4d59da00ec48e65202d3a85dadf8161b4e745e085d620e4560995e0884bbde", func := "loop.example/g01375/laws.FnExactSameState", spec := "fnExactSameState", inPlace := ["math.Float32bits"], unfollowed := true, recurses := true, apart := false, narrowed := true }
def FnExactSameStateUptoSaid : Prop := fnExactSameStateUptoRow.holds Try.pinned (OpenSpec.upto fnExactSameStateSpec)

/-- 'laws.FnExactGuessOf', WHERE WHAT IT READS IS OF BULK AT MOST 1048576: true; the input reads as it did. -/
def fnExactGuessOfUptoRow : OpenClaim := { program := "ytimikblbmfhfgaa", sum := "0f4d59da00ec48e65202d3a85dadf8161b4e745e085d620e4560995e0884bbde", func := "loop.example/g01375/laws.FnExactGuessOf", spec := "fnExactGuessOf", inPlace := ["math.Float64bits", "math.Float64frombits"], apart := false, narrowed := true }
def FnExactGuessOfUptoSaid : Prop := fnExactGuessOfUptoRow.holds Try.pinned (OpenSpec.upto fnExactGuessOfSpec)

/-- 'laws.FnExactStepState', WHERE WHAT IT READS IS OF BULK AT MOST 1048576: true; the input reads as it did. -/
def fnExactStepStateUptoRow : OpenClaim := { program := "ytimikblbmfhfgaa", sum := "0f4d59da00ec48e65202d3a85dadf8161b4e745e085d620e4560995e0884bbde", func := "loop.example/g01375/laws.FnExactStepState", spec := "fnExactStepState", inPlace := ["math.Float64bits", "math.Float64frombits"], apart := false, narrowed := true }
def FnExactStepStateUptoSaid : Prop := fnExactStepStateUptoRow.holds Try.pinned (OpenSpec.upto fnExactStepStateSpec)

/-- 'laws.FnExactStartState', WHERE WHAT IT READS IS OF BULK AT MOST 1048576: true; the input reads as it did. -/
def fnExactStartStateUptoRow : OpenClaim := { program := "ytimikblbmfhfgaa", sum := "0f4d59da00ec48e65202d3a85dadf8161b4e745e085d620e4560995e0884bbde", func := "loop.example/g01375/laws.FnExactStartState", spec := "fnExactStartState", inPlace := ["math.Float64bits", "math.Float64frombits"], apart := false, narrowed := true }
def FnExactStartStateUptoSaid : Prop := fnExactStartStateUptoRow.holds Try.pinned (OpenSpec.upto fnExactStartStateSpec)

/-- 'laws.FnExactSimpleLevels', WHERE WHAT IT READS IS OF BULK AT MOST 1048576: true; the input reads as it did. -/
def fnExactSimpleLevelsUptoRow : OpenClaim := { program := "ytimikblbmfhfgaa", sum := "0f4d59da00ec48e65202d3a85dadf8161b4e745e085d620e4560995e0884bbde", func := "loop.example/g01375/laws.FnExactSimpleLevels", spec := "fnExactSimpleLevels", inPlace := ["math.Float64bits", "math.Float64frombits"], unfollowed := true, recurses := true, apart := false, narrowed := true }
def FnExactSimpleLevelsUptoSaid : Prop := fnExactSimpleLevelsUptoRow.holds Try.pinned (OpenSpec.upto fnExactSimpleLevelsSpec)

/-- 'laws.FnExactDoubleLine', WHERE WHAT IT READS IS OF BULK AT MOST 1048576: true; the input reads as it did. -/
def fnExactDoubleLineUptoRow : OpenClaim := { program := "ytimikblbmfhfgaa", sum := "0f4d59da00ec48e65202d3a85dadf8161b4e745e085d620e4560995e0884bbde", func := "loop.example/g01375/laws.FnExactDoubleLine", spec := "fnExactDoubleLine", inPlace := ["math.Float64bits", "math.Float64frombits"], unfollowed := true, recurses := true, apart := false, narrowed := true }
def FnExactDoubleLineUptoSaid : Prop := fnExactDoubleLineUptoRow.holds Try.pinned (OpenSpec.upto fnExactDoubleLineSpec)

/-- 'laws.FnExactSeldomNeeds', WHERE WHAT IT READS IS OF BULK AT MOST 1048576: true; the input reads as it did. -/
def fnExactSeldomNeedsUptoRow : OpenClaim := { program := "ytimikblbmfhfgaa", sum := "0f4d59da00ec48e65202d3a85dadf8161b4e745e085d620e4560995e0884bbde", func := "loop.example/g01375/laws.FnExactSeldomNeeds", spec := "fnExactSeldomNeeds", inPlace := ["math.Float64bits", "math.Float64frombits"], unfollowed := true, recurses := true, apart := false, narrowed := true }
def FnExactSeldomNeedsUptoSaid : Prop := fnExactSeldomNeedsUptoRow.holds Try.pinned (OpenSpec.upto fnExactSeldomNeedsSpec)

/-- 'laws.FnExactChanceNeeds', WHERE WHAT IT READS IS OF BULK AT MOST 1048576: true; the input reads as it did. -/
def fnExactChanceNeedsUptoRow : OpenClaim := { program := "ytimikblbmfhfgaa", sum := "0f4d59da00ec48e65202d3a85dadf8161b4e745e085d620e4560995e0884bbde", func := "loop.example/g01375/laws.FnExactChanceNeeds", spec := "fnExactChanceNeeds", inPlace := ["math.Float64bits", "math.Float64frombits"], unfollowed := true, recurses := true, apart := false, narrowed := true }
def FnExactChanceNeedsUptoSaid : Prop := fnExactChanceNeedsUptoRow.holds Try.pinned (OpenSpec.upto fnExactChanceNeedsSpec)

/-- 'laws.FnExactTimesSeason', WHERE WHAT IT READS IS OF BULK AT MOST 1048576: true; the input reads as it did. -/
def fnExactTimesSeasonUptoRow : OpenClaim := { program := "ytimikblbmfhfgaa", sum := "0f4d59da00ec48e65202d3a85dadf8161b4e745e085d620e4560995e0884bbde", func := "loop.example/g01375/laws.FnExactTimesSeason", spec := "fnExactTimesSeason", inPlace := ["math.Float64bits", "math.Float64frombits"], unfollowed := true, recurses := true, apart := false, narrowed := true }
def FnExactTimesSeasonUptoSaid : Prop := fnExactTimesSeasonUptoRow.holds Try.pinned (OpenSpec.upto fnExactTimesSeasonSpec)

/-- 'laws.FnExactAheadOf', WHERE WHAT IT READS IS OF BULK AT MOST 1048576: true; the input reads as it did. -/
def fnExactAheadOfUptoRow : OpenClaim := { program := "ytimikblbmfhfgaa", sum := "0f4d59da00ec48e65202d3a85dadf8161b4e745e085d620e4560995e0884bbde", func := "loop.example/g01375/laws.FnExactAheadOf", spec := "fnExactAheadOf", inPlace := ["math.Float64bits", "math.Float64frombits"], unfollowed := true, recurses := true, apart := false, narrowed := true }
def FnExactAheadOfUptoSaid : Prop := fnExactAheadOfUptoRow.holds Try.pinned (OpenSpec.upto fnExactAheadOfSpec)

end Rows
end Go.Proofs.Ytimikblbmfhfgaa
