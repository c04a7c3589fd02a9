/-
  No cell of these rows narrows 'for every input' (looked for: loops, veiled, ifaces, maps, wideKeys, modest, calm, conditions, laid).
  DERIVED. THE GIVEN ROWS OF THIS SEAT. 12 by the template 'for every input the law returns true; each argument reads behind the call as it read before'; 0 by the template 'total and deterministic' (their statements: YtdjlakjjgkhlmaaTotals.lean).
  GIVEN WITH THE SEED: the statements are not yours to turn. If you find one false, say at which input.
  Laid BY PROGRAM, IN A SANDBOX (cutbox-rows.mjs): the forced cells as the released guide's own fill.sh prints them over the translation d1a376cff022dafe… (all of the seat's roots in one cut). By AI agents, Wed Nov 11 2026. No macro, syntax, notation, axiom, sorry.
-/
import Derived.Test.YtdjlakjjgkhlmaaChecked
import GoSem.Claim
import GoSem.ClaimJoined
import GoSem.ClaimMapViews
import Derived.JoinedTies
import Derived.KernelRfl
namespace Go.Proofs.Ytdjlakjjgkhlmaa
/- THE CELL 'sum', in the pinned program and in every row, IS THE sha256 OF THE DUMP (.gsa) THAT YtdjlakjjgkhlmaaProg.lean LOADS. Nothing in Lean hashes anything: it is a label: what it is worth is what the hold of that sum in a sandbox is worth. -/
noncomputable def Try.pinned : Pinned := { name := "ytdjlakjjgkhlmaa", sum := "d1a376cff022dafef246b6423860a68ea4042fd1a5356208bc2ff4c50e42dc79", checked := Try.checked }
namespace Rows
def none {H : Type} : Left H := { results := [], args := [] }

/-- 'laws.FnExactValidDesk': WHATEVER THE INPUT: true; the input reads as it did. -/
def fnExactValidDeskSpec : ChangeSpec := { name := "fnExactValidDesk", fn := fun _ => fun
  | [d] => { results := [.lit (.bool true)], args := [d] }
  | _ => none }
def fnExactValidDeskRow : OpenClaim := { program := "ytdjlakjjgkhlmaa", sum := "d1a376cff022dafef246b6423860a68ea4042fd1a5356208bc2ff4c50e42dc79", func := "loop.example/g01375/laws.FnExactValidDesk", spec := "fnExactValidDesk", inPlace := ["math.Float64bits", "math.Float64frombits"], apart := false }
def FnExactValidDeskSaid : Prop := fnExactValidDeskRow.holds Try.pinned (OpenSpec.ofChange fnExactValidDeskSpec)

/-- ITS FALSE NEIGHBOUR: 'it returns false'. Refute it at one input. -/
def fnExactValidDeskWrong : ChangeSpec := { name := "fnExactValidDesk", fn := fun _ => fun
  | [d] => { results := [.lit (.bool false)], args := [d] }
  | _ => none }
def FnExactValidDeskWrongFalsely : Prop := fnExactValidDeskRow.holds Try.pinned (OpenSpec.ofChange fnExactValidDeskWrong)

/-- 'laws.FnExactSameDesk': WHATEVER THE INPUT: true; the input reads as it did. -/
def fnExactSameDeskSpec : ChangeSpec := { name := "fnExactSameDesk", fn := fun _ => fun
  | [d1, d2] => { results := [.lit (.bool true)], args := [d1, d2] }
  | _ => none }
def fnExactSameDeskRow : OpenClaim := { program := "ytdjlakjjgkhlmaa", sum := "d1a376cff022dafef246b6423860a68ea4042fd1a5356208bc2ff4c50e42dc79", func := "loop.example/g01375/laws.FnExactSameDesk", spec := "fnExactSameDesk", inPlace := ["math.Float32bits"], unfollowed := true, recurses := true, apart := false }
def FnExactSameDeskSaid : Prop := fnExactSameDeskRow.holds Try.pinned (OpenSpec.ofChange fnExactSameDeskSpec)

/-- ITS FALSE NEIGHBOUR: 'it returns false'. Refute it at one input. -/
def fnExactSameDeskWrong : ChangeSpec := { name := "fnExactSameDesk", fn := fun _ => fun
  | [d1, d2] => { results := [.lit (.bool false)], args := [d1, d2] }
  | _ => none }
def FnExactSameDeskWrongFalsely : Prop := fnExactSameDeskRow.holds Try.pinned (OpenSpec.ofChange fnExactSameDeskWrong)

/-- 'laws.FnExactSameState': WHATEVER THE INPUT: true; the input reads as it did. -/
def fnExactSameStateSpec : ChangeSpec := { name := "fnExactSameState", fn := fun _ => fun
  | [d1, d2] => { results := [.lit (.bool true)], args := [d1, d2] }
  | _ => none }
def fnExactSameStateRow : OpenClaim := { program := "ytdjlakjjgkhlmaa", sum := "d1a376cff022dafef246b6423860a68ea4042fd1a5356208bc2ff4c50e42dc79", func := "loop.example/g01375/laws.FnExactSameState", spec := "fnExactSameState", inPlace := ["math.Float32bits"], unfollowed := true, recurses := true, apart := false }
def FnExactSameStateSaid : Prop := fnExactSameStateRow.holds Try.pinned (OpenSpec.ofChange fnExactSameStateSpec)

/-- ITS FALSE NEIGHBOUR: 'it returns false'. Refute it at one input. -/
def fnExactSameStateWrong : ChangeSpec := { name := "fnExactSameState", fn := fun _ => fun
  | [d1, d2] => { results := [.lit (.bool false)], args := [d1, d2] }
  | _ => none }
def FnExactSameStateWrongFalsely : Prop := fnExactSameStateRow.holds Try.pinned (OpenSpec.ofChange fnExactSameStateWrong)

/-- 'laws.FnExactValidRegimes': WHATEVER THE INPUT: true; the input reads as it did. -/
def fnExactValidRegimesSpec : ChangeSpec := { name := "fnExactValidRegimes", fn := fun _ => fun
  | [d] => { results := [.lit (.bool true)], args := [d] }
  | _ => none }
def fnExactValidRegimesRow : OpenClaim := { program := "ytdjlakjjgkhlmaa", sum := "d1a376cff022dafef246b6423860a68ea4042fd1a5356208bc2ff4c50e42dc79", func := "loop.example/g01375/laws.FnExactValidRegimes", spec := "fnExactValidRegimes", inPlace := ["math.Float64bits", "math.Float64frombits"], unfollowed := true, recurses := true, apart := false }
def FnExactValidRegimesSaid : Prop := fnExactValidRegimesRow.holds Try.pinned (OpenSpec.ofChange fnExactValidRegimesSpec)

/-- ITS FALSE NEIGHBOUR: 'it returns false'. Refute it at one input. -/
def fnExactValidRegimesWrong : ChangeSpec := { name := "fnExactValidRegimes", fn := fun _ => fun
  | [d] => { results := [.lit (.bool false)], args := [d] }
  | _ => none }
def FnExactValidRegimesWrongFalsely : Prop := fnExactValidRegimesRow.holds Try.pinned (OpenSpec.ofChange fnExactValidRegimesWrong)

/-- 'laws.FnExactSameRegimes': WHATEVER THE INPUT: true; the input reads as it did. -/
def fnExactSameRegimesSpec : ChangeSpec := { name := "fnExactSameRegimes", fn := fun _ => fun
  | [d1, d2] => { results := [.lit (.bool true)], args := [d1, d2] }
  | _ => none }
def fnExactSameRegimesRow : OpenClaim := { program := "ytdjlakjjgkhlmaa", sum := "d1a376cff022dafef246b6423860a68ea4042fd1a5356208bc2ff4c50e42dc79", func := "loop.example/g01375/laws.FnExactSameRegimes", spec := "fnExactSameRegimes", inPlace := ["math.Float32bits"], unfollowed := true, recurses := true, apart := false }
def FnExactSameRegimesSaid : Prop := fnExactSameRegimesRow.holds Try.pinned (OpenSpec.ofChange fnExactSameRegimesSpec)

/-- ITS FALSE NEIGHBOUR: 'it returns false'. Refute it at one input. -/
def fnExactSameRegimesWrong : ChangeSpec := { name := "fnExactSameRegimes", fn := fun _ => fun
  | [d1, d2] => { results := [.lit (.bool false)], args := [d1, d2] }
  | _ => none }
def FnExactSameRegimesWrongFalsely : Prop := fnExactSameRegimesRow.holds Try.pinned (OpenSpec.ofChange fnExactSameRegimesWrong)

/-- 'laws.FnExactSameSaved': WHATEVER THE INPUT: true; the input reads as it did. -/
def fnExactSameSavedSpec : ChangeSpec := { name := "fnExactSameSaved", fn := fun _ => fun
  | [d1, d2] => { results := [.lit (.bool true)], args := [d1, d2] }
  | _ => none }
def fnExactSameSavedRow : OpenClaim := { program := "ytdjlakjjgkhlmaa", sum := "d1a376cff022dafef246b6423860a68ea4042fd1a5356208bc2ff4c50e42dc79", func := "loop.example/g01375/laws.FnExactSameSaved", spec := "fnExactSameSaved", inPlace := ["math.Float32bits"], unfollowed := true, recurses := true, apart := false }
def FnExactSameSavedSaid : Prop := fnExactSameSavedRow.holds Try.pinned (OpenSpec.ofChange fnExactSameSavedSpec)

/-- ITS FALSE NEIGHBOUR: 'it returns false'. Refute it at one input. -/
def fnExactSameSavedWrong : ChangeSpec := { name := "fnExactSameSaved", fn := fun _ => fun
  | [d1, d2] => { results := [.lit (.bool false)], args := [d1, d2] }
  | _ => none }
def FnExactSameSavedWrongFalsely : Prop := fnExactSameSavedRow.holds Try.pinned (OpenSpec.ofChange fnExactSameSavedWrong)

/-- 'laws.FnExactStoreSaved': WHATEVER THE INPUT: true; the input reads as it did. -/
def fnExactStoreSavedSpec : ChangeSpec := { name := "fnExactStoreSaved", fn := fun _ => fun
  | [d] => { results := [.lit (.bool true)], args := [d] }
  | _ => none }
def fnExactStoreSavedRow : OpenClaim := { program := "ytdjlakjjgkhlmaa", sum := "d1a376cff022dafef246b6423860a68ea4042fd1a5356208bc2ff4c50e42dc79", func := "loop.example/g01375/laws.FnExactStoreSaved", spec := "fnExactStoreSaved", inPlace := ["math.Float32bits", "math.Float64bits", "math.Float64frombits"], apart := false }
def FnExactStoreSavedSaid : Prop := fnExactStoreSavedRow.holds Try.pinned (OpenSpec.ofChange fnExactStoreSavedSpec)

/-- ITS FALSE NEIGHBOUR: 'it returns false'. Refute it at one input. -/
def fnExactStoreSavedWrong : ChangeSpec := { name := "fnExactStoreSaved", fn := fun _ => fun
  | [d] => { results := [.lit (.bool false)], args := [d] }
  | _ => none }
def FnExactStoreSavedWrongFalsely : Prop := fnExactStoreSavedRow.holds Try.pinned (OpenSpec.ofChange fnExactStoreSavedWrong)

/-- 'laws.FnExactProfileOf': WHATEVER THE INPUT: true; the input reads as it did. -/
def fnExactProfileOfSpec : ChangeSpec := { name := "fnExactProfileOf", fn := fun _ => fun
  | [d1, d2] => { results := [.lit (.bool true)], args := [d1, d2] }
  | _ => none }
def fnExactProfileOfRow : OpenClaim := { program := "ytdjlakjjgkhlmaa", sum := "d1a376cff022dafef246b6423860a68ea4042fd1a5356208bc2ff4c50e42dc79", func := "loop.example/g01375/laws.FnExactProfileOf", spec := "fnExactProfileOf", inPlace := ["math.sqrt", "math.Float64bits", "math.Float64frombits"], unfollowed := true, recurses := true, apart := false }
def FnExactProfileOfSaid : Prop := fnExactProfileOfRow.holds Try.pinned (OpenSpec.ofChange fnExactProfileOfSpec)

/-- ITS FALSE NEIGHBOUR: 'it returns false'. Refute it at one input. -/
def fnExactProfileOfWrong : ChangeSpec := { name := "fnExactProfileOf", fn := fun _ => fun
  | [d1, d2] => { results := [.lit (.bool false)], args := [d1, d2] }
  | _ => none }
def FnExactProfileOfWrongFalsely : Prop := fnExactProfileOfRow.holds Try.pinned (OpenSpec.ofChange fnExactProfileOfWrong)

/-- 'laws.FnExactMotifOf': WHATEVER THE INPUT: true; the input reads as it did. -/
def fnExactMotifOfSpec : ChangeSpec := { name := "fnExactMotifOf", fn := fun _ => fun
  | [d1, d2] => { results := [.lit (.bool true)], args := [d1, d2] }
  | _ => none }
def fnExactMotifOfRow : OpenClaim := { program := "ytdjlakjjgkhlmaa", sum := "d1a376cff022dafef246b6423860a68ea4042fd1a5356208bc2ff4c50e42dc79", func := "loop.example/g01375/laws.FnExactMotifOf", spec := "fnExactMotifOf", inPlace := ["math.sqrt", "math.Float64bits", "math.Float64frombits"], unfollowed := true, recurses := true, apart := false }
def FnExactMotifOfSaid : Prop := fnExactMotifOfRow.holds Try.pinned (OpenSpec.ofChange fnExactMotifOfSpec)

/-- ITS FALSE NEIGHBOUR: 'it returns false'. Refute it at one input. -/
def fnExactMotifOfWrong : ChangeSpec := { name := "fnExactMotifOf", fn := fun _ => fun
  | [d1, d2] => { results := [.lit (.bool false)], args := [d1, d2] }
  | _ => none }
def FnExactMotifOfWrongFalsely : Prop := fnExactMotifOfRow.holds Try.pinned (OpenSpec.ofChange fnExactMotifOfWrong)

/-- 'laws.FnExactDiscordOf': WHATEVER THE INPUT: true; the input reads as it did. -/
def fnExactDiscordOfSpec : ChangeSpec := { name := "fnExactDiscordOf", fn := fun _ => fun
  | [d1, d2] => { results := [.lit (.bool true)], args := [d1, d2] }
  | _ => none }
def fnExactDiscordOfRow : OpenClaim := { program := "ytdjlakjjgkhlmaa", sum := "d1a376cff022dafef246b6423860a68ea4042fd1a5356208bc2ff4c50e42dc79", func := "loop.example/g01375/laws.FnExactDiscordOf", spec := "fnExactDiscordOf", inPlace := ["math.sqrt", "math.Float64bits", "math.Float64frombits"], unfollowed := true, recurses := true, apart := false }
def FnExactDiscordOfSaid : Prop := fnExactDiscordOfRow.holds Try.pinned (OpenSpec.ofChange fnExactDiscordOfSpec)

/-- ITS FALSE NEIGHBOUR: 'it returns false'. Refute it at one input. -/
def fnExactDiscordOfWrong : ChangeSpec := { name := "fnExactDiscordOf", fn := fun _ => fun
  | [d1, d2] => { results := [.lit (.bool false)], args := [d1, d2] }
  | _ => none }
def FnExactDiscordOfWrongFalsely : Prop := fnExactDiscordOfRow.holds Try.pinned (OpenSpec.ofChange fnExactDiscordOfWrong)

/-- 'laws.FnExactCentersOf': WHATEVER THE INPUT: true; the input reads as it did. -/
def fnExactCentersOfSpec : ChangeSpec := { name := "fnExactCentersOf", fn := fun _ => fun
  | [d1, d2, d3] => { results := [.lit (.bool true)], args := [d1, d2, d3] }
  | _ => none }
def fnExactCentersOfRow : OpenClaim := { program := "ytdjlakjjgkhlmaa", sum := "d1a376cff022dafef246b6423860a68ea4042fd1a5356208bc2ff4c50e42dc79", func := "loop.example/g01375/laws.FnExactCentersOf", spec := "fnExactCentersOf", inPlace := ["math.sqrt", "math.Float64bits", "math.Float64frombits"], unfollowed := true, recurses := true, apart := false }
def FnExactCentersOfSaid : Prop := fnExactCentersOfRow.holds Try.pinned (OpenSpec.ofChange fnExactCentersOfSpec)

/-- ITS FALSE NEIGHBOUR: 'it returns false'. Refute it at one input. -/
def fnExactCentersOfWrong : ChangeSpec := { name := "fnExactCentersOf", fn := fun _ => fun
  | [d1, d2, d3] => { results := [.lit (.bool false)], args := [d1, d2, d3] }
  | _ => none }
def FnExactCentersOfWrongFalsely : Prop := fnExactCentersOfRow.holds Try.pinned (OpenSpec.ofChange fnExactCentersOfWrong)

/-- 'laws.FnExactNewDesk': WHATEVER THE INPUT: true; the input reads as it did. -/
def fnExactNewDeskSpec : ChangeSpec := { name := "fnExactNewDesk", fn := fun _ => fun
  | [] => { results := [.lit (.bool true)], args := [] }
  | _ => none }
def fnExactNewDeskRow : OpenClaim := { program := "ytdjlakjjgkhlmaa", sum := "d1a376cff022dafef246b6423860a68ea4042fd1a5356208bc2ff4c50e42dc79", func := "loop.example/g01375/laws.FnExactNewDesk", spec := "fnExactNewDesk", inPlace := ["math.Float64bits", "math.Float64frombits"], apart := false }
def FnExactNewDeskSaid : Prop := fnExactNewDeskRow.holds Try.pinned (OpenSpec.ofChange fnExactNewDeskSpec)

/-- ITS FALSE NEIGHBOUR: 'it returns false'. Refute it at one input. -/
def fnExactNewDeskWrong : ChangeSpec := { name := "fnExactNewDesk", fn := fun _ => fun
  | [] => { results := [.lit (.bool false)], args := [] }
  | _ => none }
def FnExactNewDeskWrongFalsely : Prop := fnExactNewDeskRow.holds Try.pinned (OpenSpec.ofChange fnExactNewDeskWrong)

/- THE SECOND FORM. 'bulk': how many values and letters a reading holds, each counted each time it is reached (what is shared counts as often as it is met; a slice's spare places count too). A statement '..UptoSaid' is the law's where the arguments, and the package variables that the reading takes, are together of bulk at most 1048576: NARROWER than '..Said'. Prove '..Said' where nothing that the law and all that it calls make is longer than what came in: it says more and counts as full. Else prove '..UptoSaid'. A law counts once. -/
mutual
def uptoBulk {H : Type} : DataW H → Nat
  | .lit (.string bytes) => bytes.length + 1
  | .lit _ => 1
  | .nil => 1
  | .ptr d => uptoBulk d + 1
  | .slice elems spare => uptoBulkAll elems + uptoBulkAll spare + 1
  | .agg parts => uptoBulkAll parts + 1
  | .iface _ d => uptoBulk d + 1
  | .map entries => uptoBulkEntries entries + 1
  | .held _ => 1
def uptoBulkAll {H : Type} : List (DataW H) → Nat
  | [] => 0
  | d :: r => uptoBulk d + uptoBulkAll r
def uptoBulkEntries {H : Type} : List (Lit × DataW H) → Nat
  | [] => 0
  | x :: r => uptoBulkEntry x + uptoBulkEntries r
def uptoBulkEntry {H : Type} : Lit × DataW H → Nat
  | (.string bytes, d) => bytes.length + uptoBulk d + 1
  | (_, d) => uptoBulk d + 1
 end
def uptoSmall : (H : Type) → List (DataW H) → Bool := fun _ ds => decide (uptoBulkAll ds ≤ 1048576)
def OpenSpec.upto (s : _root_.Go.ChangeSpec) : _root_.Go.OpenSpec := { _root_.Go.OpenSpec.ofChange s with cond := some uptoSmall }

/-- 'laws.FnExactValidDesk', WHERE WHAT IT READS IS OF BULK AT MOST 1048576: true; the input reads as it did. -/
def fnExactValidDeskUptoRow : OpenClaim := { program := "ytdjlakjjgkhlmaa", sum := "d1a376cff022dafef246b6423860a68ea4042fd1a5356208bc2ff4c50e42dc79", func := "loop.example/g01375/laws.FnExactValidDesk", spec := "fnExactValidDesk", inPlace := ["math.Float64bits", "math.Float64frombits"], apart := false, narrowed := true }
def FnExactValidDeskUptoSaid : Prop := fnExactValidDeskUptoRow.holds Try.pinned (OpenSpec.upto fnExactValidDeskSpec)

/-- 'laws.FnExactSameDesk', WHERE WHAT IT READS IS OF BULK AT MOST 1048576: true; the input reads as it did. -/
def fnExactSameDeskUptoRow : OpenClaim := { program := "ytdjlakjjgkhlmaa", sum := "d1a376cff022dafef246b6423860a68ea4042fd1a5356208bc2ff4c50e42dc79", func := "loop.example/g01375/laws.FnExactSameDesk", spec := "fnExactSameDesk", inPlace := ["math.Float32bits"], unfollowed := true, recurses := true, apart := false, narrowed := true }
def FnExactSameDeskUptoSaid : Prop := fnExactSameDeskUptoRow.holds Try.pinned (OpenSpec.upto fnExactSameDeskSpec)

/-- 'laws.FnExactSameState', WHERE WHAT IT READS IS OF BULK AT MOST 1048576: true; the input reads as it did. -/
def fnExactSameStateUptoRow : OpenClaim := { program := "ytdjlakjjgkhlmaa", sum := "d1a376cff022dafef246b6423860a68ea4042fd1a5356208bc2ff4c50e42dc79", func := "loop.example/g01375/laws.FnExactSameState", spec := "fnExactSameState", inPlace := ["math.Float32bits"], unfollowed := true, recurses := true, apart := false, narrowed := true }
def FnExactSameStateUptoSaid : Prop := fnExactSameStateUptoRow.holds Try.pinned (OpenSpec.upto fnExactSameStateSpec)

/-- 'laws.FnExactValidRegimes', WHERE WHAT IT READS IS OF BULK AT MOST 1048576: true; the input reads as it did. -/
def fnExactValidRegimesUptoRow : OpenClaim := { program := "ytdjlakjjgkhlmaa", sum := "d1a376cff022dafef246b6423860a68ea4042fd1a5356208bc2ff4c50e42dc79", func := "loop.example/g01375/laws.FnExactValidRegimes", spec := "fnExactValidRegimes", inPlace := ["math.Float64bits", "math.Float64frombits"], unfollowed := true, recurses := true, apart := false, narrowed := true }
def FnExactValidRegimesUptoSaid : Prop := fnExactValidRegimesUptoRow.holds Try.pinned (OpenSpec.upto fnExactValidRegimesSpec)

/-- 'laws.FnExactSameRegimes', WHERE WHAT IT READS IS OF BULK AT MOST 1048576: true; the input reads as it did. -/
def fnExactSameRegimesUptoRow : OpenClaim := { program := "ytdjlakjjgkhlmaa", sum := "d1a376cff022dafef246b6423860a68ea4042fd1a5356208bc2ff4c50e42dc79", func := "loop.example/g01375/laws.FnExactSameRegimes", spec := "fnExactSameRegimes", inPlace := ["math.Float32bits"], unfollowed := true, recurses := true, apart := false, narrowed := true }
def FnExactSameRegimesUptoSaid : Prop := fnExactSameRegimesUptoRow.holds Try.pinned (OpenSpec.upto fnExactSameRegimesSpec)

/-- 'laws.FnExactSameSaved', WHERE WHAT IT READS IS OF BULK AT MOST 1048576: true; the input reads as it did. -/
def fnExactSameSavedUptoRow : OpenClaim := { program := "ytdjlakjjgkhlmaa", sum := "d1a376cff022dafef246b6423860a68ea4042fd1a5356208bc2ff4c50e42dc79", func := "loop.example/g01375/laws.FnExactSameSaved", spec := "fnExactSameSaved", inPlace := ["math.Float32bits"], unfollowed := true, recurses := true, apart := false, narrowed := true }
def FnExactSameSavedUptoSaid : Prop := fnExactSameSavedUptoRow.holds Try.pinned (OpenSpec.upto fnExactSameSavedSpec)

/-- 'laws.FnExactStoreSaved', WHERE WHAT IT READS IS OF BULK AT MOST 1048576: true; the input reads as it did. -/
def fnExactStoreSavedUptoRow : OpenClaim := { program := "ytdjlakjjgkhlmaa", sum := "d1a376cff022dafef246b6423860a68ea4042fd1a5356208bc2ff4c50e42dc79", func := "loop.example/g01375/laws.FnExactStoreSaved", spec := "fnExactStoreSaved", inPlace := ["math.Float32bits", "math.Float64bits", "math.Float64frombits"], apart := false, narrowed := true }
def FnExactStoreSavedUptoSaid : Prop := fnExactStoreSavedUptoRow.holds Try.pinned (OpenSpec.upto fnExactStoreSavedSpec)

/-- 'laws.FnExactProfileOf', WHERE WHAT IT READS IS OF BULK AT MOST 1048576: true; the input reads as it did. -/
def fnExactProfileOfUptoRow : OpenClaim := { program := "ytdjlakjjgkhlmaa", sum := "d1a376cff022dafef246b6423860a68ea4042fd1a5356208bc2ff4c50e42dc79", func := "loop.example/g01375/laws.FnExactProfileOf", spec := "fnExactProfileOf", inPlace := ["math.sqrt", "math.Float64bits", "math.Float64frombits"], unfollowed := true, recurses := true, apart := false, narrowed := true }
def FnExactProfileOfUptoSaid : Prop := fnExactProfileOfUptoRow.holds Try.pinned (OpenSpec.upto fnExactProfileOfSpec)

/-- 'laws.FnExactMotifOf', WHERE WHAT IT READS IS OF BULK AT MOST 1048576: true; the input reads as it did. -/
def fnExactMotifOfUptoRow : OpenClaim := { program := "ytdjlakjjgkhlmaa", sum := "d1a376cff022dafef246b6423860a68ea4042fd1a5356208bc2ff4c50e42dc79", func := "loop.example/g01375/laws.FnExactMotifOf", spec := "fnExactMotifOf", inPlace := ["math.sqrt", "math.Float64bits", "math.Float64frombits"], unfollowed := true, recurses := true, apart := false, narrowed := true }
def FnExactMotifOfUptoSaid : Prop := fnExactMotifOfUptoRow.holds Try.pinned (OpenSpec.upto fnExactMotifOfSpec)

/-- 'laws.FnExactDiscordOf', WHERE WHAT IT READS IS OF BULK AT MOST 1048576: true; the input reads as it did. -/
def fnExactDiscordOfUptoRow : OpenClaim := { program := "ytdjlakjjgkhlmaa", sum := "d1a376cff022dafef246b6423860a68ea4042fd1a5356208bc2ff4c50e42dc79", func := "loop.example/g01375/laws.FnExactDiscordOf", spec := "fnExactDiscordOf", inPlace := ["math.sqrt", "math.Float64bits", "math.Float64frombits"], unfollowed := true, recurses := true, apart := false, narrowed := true }
def FnExactDiscordOfUptoSaid : Prop := fnExactDiscordOfUptoRow.holds Try.pinned (OpenSpec.upto fnExactDiscordOfSpec)

/-- 'laws.FnExactCentersOf', WHERE WHAT IT READS IS OF BULK AT MOST 1048576: true; the input reads as it did. -/
def fnExactCentersOfUptoRow : OpenClaim := { program := "ytdjlakjjgkhlmaa", sum := "d1a376cff022dafef246b6423860a68ea4042fd1a5356208bc2ff4c50e42dc79", func := "loop.example/g01375/laws.FnExactCentersOf", spec := "fnExactCentersOf", inPlace := ["math.sqrt", "math.Float64bits", "math.Float64frombits"], unfollowed := true, recurses := true, apart := false, narrowed := true }
def FnExactCentersOfUptoSaid : Prop := fnExactCentersOfUptoRow.holds Try.pinned (OpenSpec.upto fnExactCentersOfSpec)

/-- 'laws.FnExactNewDesk', WHERE WHAT IT READS IS OF BULK AT MOST 1048576: true; the input reads as it did. -/
def fnExactNewDeskUptoRow : OpenClaim := { program := "ytdjlakjjgkhlmaa", sum := "d1a376cff022dafef246b6423860a68ea4042fd1a5356208bc2ff4c50e42dc79", func := "loop.example/g01375/laws.FnExactNewDesk", spec := "fnExactNewDesk", inPlace := ["math.Float64bits", "math.Float64frombits"], apart := false, narrowed := true }
def FnExactNewDeskUptoSaid : Prop := fnExactNewDeskUptoRow.holds Try.pinned (OpenSpec.upto fnExactNewDeskSpec)

end Rows
end Go.Proofs.Ytdjlakjjgkhlmaa
