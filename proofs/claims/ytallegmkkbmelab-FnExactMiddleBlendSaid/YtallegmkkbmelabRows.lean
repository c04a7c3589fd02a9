/-
  No cell of these rows narrows 'for every input' (looked for: loops, veiled, ifaces, maps, wideKeys, modest, calm, conditions, laid).
  DERIVED. THE GIVEN ROWS OF THIS SEAT. 7 by the template 'for every input the law returns true; each argument reads behind the call as it read before'; 0 by the template 'total and deterministic' (their statements: YtallegmkkbmelabTotals.lean).
  GIVEN WITH THE SEED: the statements are not yours to turn. If you find one false, say at which input.
  Laid BY PROGRAM, IN A SANDBOX (cutbox-rows.mjs): the forced cells as the released guide's own fill.sh prints them over the translation 381c1c3ab17ca283… (all of the seat's roots in one cut). By AI agents, Wed Nov 11 2026. No macro, syntax, notation, axiom, sorry.
-/
import Derived.Test.YtallegmkkbmelabChecked
import GoSem.Claim
import GoSem.ClaimJoined
import GoSem.ClaimMapViews
import Derived.JoinedTies
import Derived.KernelRfl
namespace Go.Proofs.Ytallegmkkbmelab
/- THE CELL 'sum', in the pinned program and in every row, IS THE sha256 OF THE DUMP (.gsa) THAT YtallegmkkbmelabProg.lean LOADS. Nothing in Lean hashes anything: it is a label: what it is worth is what the hold of that sum in a sandbox is worth. -/
noncomputable def Try.pinned : Pinned := { name := "ytallegmkkbmelab", sum := "381c1c3ab17ca283e837f9bac8301d4e27696234518099f8391eac1c932e8dbd", checked := Try.checked }
namespace Rows
def none {H : Type} : Left H := { results := [], args := [] }

/-- 'laws.FnExactBackOfWaves': WHATEVER THE INPUT: true; the input reads as it did. -/
def fnExactBackOfWavesSpec : ChangeSpec := { name := "fnExactBackOfWaves", fn := fun _ => fun
  | [d1, d2] => { results := [.lit (.bool true)], args := [d1, d2] }
  | _ => none }
def fnExactBackOfWavesRow : OpenClaim := { program := "ytallegmkkbmelab", sum := "381c1c3ab17ca283e837f9bac8301d4e27696234518099f8391eac1c932e8dbd", func := "loop.example/g01375/laws.FnExactBackOfWaves", spec := "fnExactBackOfWaves", inPlace := ["math.Float64bits", "math.Float64frombits"], unfollowed := true, recurses := true, apart := false }
def FnExactBackOfWavesSaid : Prop := fnExactBackOfWavesRow.holds Try.pinned (OpenSpec.ofChange fnExactBackOfWavesSpec)

/-- ITS FALSE NEIGHBOUR: 'it returns false'. Refute it at one input. -/
def fnExactBackOfWavesWrong : ChangeSpec := { name := "fnExactBackOfWaves", fn := fun _ => fun
  | [d1, d2] => { results := [.lit (.bool false)], args := [d1, d2] }
  | _ => none }
def FnExactBackOfWavesWrongFalsely : Prop := fnExactBackOfWavesRow.holds Try.pinned (OpenSpec.ofChange fnExactBackOfWavesWrong)

/-- 'laws.FnExactGuessOf': WHATEVER THE INPUT: true; the input reads as it did. -/
def fnExactGuessOfSpec : ChangeSpec := { name := "fnExactGuessOf", fn := fun _ => fun
  | [d1, d2] => { results := [.lit (.bool true)], args := [d1, d2] }
  | _ => none }
def fnExactGuessOfRow : OpenClaim := { program := "ytallegmkkbmelab", sum := "381c1c3ab17ca283e837f9bac8301d4e27696234518099f8391eac1c932e8dbd", func := "loop.example/g01375/laws.FnExactGuessOf", spec := "fnExactGuessOf", inPlace := ["math.Float64bits", "math.Float64frombits"], apart := false }
def FnExactGuessOfSaid : Prop := fnExactGuessOfRow.holds Try.pinned (OpenSpec.ofChange fnExactGuessOfSpec)

/-- ITS FALSE NEIGHBOUR: 'it returns false'. Refute it at one input. -/
def fnExactGuessOfWrong : ChangeSpec := { name := "fnExactGuessOf", fn := fun _ => fun
  | [d1, d2] => { results := [.lit (.bool false)], args := [d1, d2] }
  | _ => none }
def FnExactGuessOfWrongFalsely : Prop := fnExactGuessOfRow.holds Try.pinned (OpenSpec.ofChange fnExactGuessOfWrong)

/-- 'laws.FnExactDoubleLine': WHATEVER THE INPUT: true; the input reads as it did. -/
def fnExactDoubleLineSpec : ChangeSpec := { name := "fnExactDoubleLine", fn := fun _ => fun
  | [d1, d2] => { results := [.lit (.bool true)], args := [d1, d2] }
  | _ => none }
def fnExactDoubleLineRow : OpenClaim := { program := "ytallegmkkbmelab", sum := "381c1c3ab17ca283e837f9bac8301d4e27696234518099f8391eac1c932e8dbd", func := "loop.example/g01375/laws.FnExactDoubleLine", spec := "fnExactDoubleLine", inPlace := ["math.Float64bits", "math.Float64frombits"], unfollowed := true, recurses := true, apart := false }
def FnExactDoubleLineSaid : Prop := fnExactDoubleLineRow.holds Try.pinned (OpenSpec.ofChange fnExactDoubleLineSpec)

/-- ITS FALSE NEIGHBOUR: 'it returns false'. Refute it at one input. -/
def fnExactDoubleLineWrong : ChangeSpec := { name := "fnExactDoubleLine", fn := fun _ => fun
  | [d1, d2] => { results := [.lit (.bool false)], args := [d1, d2] }
  | _ => none }
def FnExactDoubleLineWrongFalsely : Prop := fnExactDoubleLineRow.holds Try.pinned (OpenSpec.ofChange fnExactDoubleLineWrong)

/-- 'laws.FnExactSeldomNeeds': WHATEVER THE INPUT: true; the input reads as it did. -/
def fnExactSeldomNeedsSpec : ChangeSpec := { name := "fnExactSeldomNeeds", fn := fun _ => fun
  | [d1, d2] => { results := [.lit (.bool true)], args := [d1, d2] }
  | _ => none }
def fnExactSeldomNeedsRow : OpenClaim := { program := "ytallegmkkbmelab", sum := "381c1c3ab17ca283e837f9bac8301d4e27696234518099f8391eac1c932e8dbd", func := "loop.example/g01375/laws.FnExactSeldomNeeds", spec := "fnExactSeldomNeeds", inPlace := ["math.Float64bits", "math.Float64frombits"], unfollowed := true, recurses := true, apart := false }
def FnExactSeldomNeedsSaid : Prop := fnExactSeldomNeedsRow.holds Try.pinned (OpenSpec.ofChange fnExactSeldomNeedsSpec)

/-- ITS FALSE NEIGHBOUR: 'it returns false'. Refute it at one input. -/
def fnExactSeldomNeedsWrong : ChangeSpec := { name := "fnExactSeldomNeeds", fn := fun _ => fun
  | [d1, d2] => { results := [.lit (.bool false)], args := [d1, d2] }
  | _ => none }
def FnExactSeldomNeedsWrongFalsely : Prop := fnExactSeldomNeedsRow.holds Try.pinned (OpenSpec.ofChange fnExactSeldomNeedsWrong)

/-- 'laws.FnExactChanceNeeds': WHATEVER THE INPUT: true; the input reads as it did. -/
def fnExactChanceNeedsSpec : ChangeSpec := { name := "fnExactChanceNeeds", fn := fun _ => fun
  | [d1, d2, d3] => { results := [.lit (.bool true)], args := [d1, d2, d3] }
  | _ => none }
def fnExactChanceNeedsRow : OpenClaim := { program := "ytallegmkkbmelab", sum := "381c1c3ab17ca283e837f9bac8301d4e27696234518099f8391eac1c932e8dbd", func := "loop.example/g01375/laws.FnExactChanceNeeds", spec := "fnExactChanceNeeds", inPlace := ["math.Float64bits", "math.Float64frombits"], unfollowed := true, recurses := true, apart := false }
def FnExactChanceNeedsSaid : Prop := fnExactChanceNeedsRow.holds Try.pinned (OpenSpec.ofChange fnExactChanceNeedsSpec)

/-- ITS FALSE NEIGHBOUR: 'it returns false'. Refute it at one input. -/
def fnExactChanceNeedsWrong : ChangeSpec := { name := "fnExactChanceNeeds", fn := fun _ => fun
  | [d1, d2, d3] => { results := [.lit (.bool false)], args := [d1, d2, d3] }
  | _ => none }
def FnExactChanceNeedsWrongFalsely : Prop := fnExactChanceNeedsRow.holds Try.pinned (OpenSpec.ofChange fnExactChanceNeedsWrong)

/-- 'laws.FnExactAheadOf': WHATEVER THE INPUT: true; the input reads as it did. -/
def fnExactAheadOfSpec : ChangeSpec := { name := "fnExactAheadOf", fn := fun _ => fun
  | [d1, d2, d3] => { results := [.lit (.bool true)], args := [d1, d2, d3] }
  | _ => none }
def fnExactAheadOfRow : OpenClaim := { program := "ytallegmkkbmelab", sum := "381c1c3ab17ca283e837f9bac8301d4e27696234518099f8391eac1c932e8dbd", func := "loop.example/g01375/laws.FnExactAheadOf", spec := "fnExactAheadOf", inPlace := ["math.Float64bits", "math.Float64frombits"], unfollowed := true, recurses := true, apart := false }
def FnExactAheadOfSaid : Prop := fnExactAheadOfRow.holds Try.pinned (OpenSpec.ofChange fnExactAheadOfSpec)

/-- ITS FALSE NEIGHBOUR: 'it returns false'. Refute it at one input. -/
def fnExactAheadOfWrong : ChangeSpec := { name := "fnExactAheadOf", fn := fun _ => fun
  | [d1, d2, d3] => { results := [.lit (.bool false)], args := [d1, d2, d3] }
  | _ => none }
def FnExactAheadOfWrongFalsely : Prop := fnExactAheadOfRow.holds Try.pinned (OpenSpec.ofChange fnExactAheadOfWrong)

/-- 'laws.FnExactMiddleBlend': WHATEVER THE INPUT: true; the input reads as it did. -/
def fnExactMiddleBlendSpec : ChangeSpec := { name := "fnExactMiddleBlend", fn := fun _ => fun
  | [d] => { results := [.lit (.bool true)], args := [d] }
  | _ => none }
def fnExactMiddleBlendRow : OpenClaim := { program := "ytallegmkkbmelab", sum := "381c1c3ab17ca283e837f9bac8301d4e27696234518099f8391eac1c932e8dbd", func := "loop.example/g01375/laws.FnExactMiddleBlend", spec := "fnExactMiddleBlend", inPlace := ["math.Float64bits", "math.Float64frombits"], unfollowed := true, recurses := true, apart := false }
def FnExactMiddleBlendSaid : Prop := fnExactMiddleBlendRow.holds Try.pinned (OpenSpec.ofChange fnExactMiddleBlendSpec)

/-- ITS FALSE NEIGHBOUR: 'it returns false'. Refute it at one input. -/
def fnExactMiddleBlendWrong : ChangeSpec := { name := "fnExactMiddleBlend", fn := fun _ => fun
  | [d] => { results := [.lit (.bool false)], args := [d] }
  | _ => none }
def FnExactMiddleBlendWrongFalsely : Prop := fnExactMiddleBlendRow.holds Try.pinned (OpenSpec.ofChange fnExactMiddleBlendWrong)

/- THE SECOND FORM. 'bulk': how many values and letters a reading holds, each counted each time it is reached (what is shared counts as often as it is met; a slice's spare places count too). A statement '..UptoSaid' is the law's where the arguments, and the package variables that the reading takes, are together of bulk at most 1048576: NARROWER than '..Said'. Prove '..Said' where nothing that the law and all that it calls make is longer than what came in: it says more and counts as full. Else prove '..UptoSaid'. A law counts once. -/
mutual
def uptoBulk {H : Type} : DataW H → Nat
  | .lit (.string bytes) => bytes.length + 1
  | .lit _ => 1
  | .nil => 1
  | .ptr d => uptoBulk d + 1
  | .slice elems spare => uptoBulkAll elems + uptoBulkAll spare + 1
  | .agg parts => uptoBulkAll parts + 1
  | .iface _ d => uptoBulk d + 1
  | .map entries => uptoBulkEntries entries + 1
  | .held _ => 1
def uptoBulkAll {H : Type} : List (DataW H) → Nat
  | [] => 0
  | d :: r => uptoBulk d + uptoBulkAll r
def uptoBulkEntries {H : Type} : List (Lit × DataW H) → Nat
  | [] => 0
  | x :: r => uptoBulkEntry x + uptoBulkEntries r
def uptoBulkEntry {H : Type} : Lit × DataW H → Nat
  | (.string bytes, d) => bytes.length + uptoBulk d + 1
  | (_, d) => uptoBulk d + 1
 end
def uptoSmall : (H : Type) → List (DataW H) → Bool := fun _ ds => decide (uptoBulkAll ds ≤ 1048576)
def OpenSpec.upto (s : _root_.Go.ChangeSpec) : _root_.Go.OpenSpec := { _root_.Go.OpenSpec.ofChange s with cond := some uptoSmall }

/-- 'laws.FnExactBackOfWaves', WHERE WHAT IT READS IS OF BULK AT MOST 1048576: true; the input reads as it did. -/
def fnExactBackOfWavesUptoRow : OpenClaim := { program := "ytallegmkkbmelab", sum := "381c1c3ab17ca283e837f9bac8301d4e27696234518099f8391eac1c932e8dbd", func := "loop.example/g01375/laws.FnExactBackOfWaves", spec := "fnExactBackOfWaves", inPlace := ["math.Float64bits", "math.Float64frombits"], unfollowed := true, recurses := true, apart := false, narrowed := true }
def FnExactBackOfWavesUptoSaid : Prop := fnExactBackOfWavesUptoRow.holds Try.pinned (OpenSpec.upto fnExactBackOfWavesSpec)

/-- 'laws.FnExactGuessOf', WHERE WHAT IT READS IS OF BULK AT MOST 1048576: true; the input reads as it did. -/
def fnExactGuessOfUptoRow : OpenClaim := { program := "ytallegmkkbmelab", sum := "381c1c3ab17ca283e837f9bac8301d4e27696234518099f8391eac1c932e8dbd", func := "loop.example/g01375/laws.FnExactGuessOf", spec := "fnExactGuessOf", inPlace := ["math.Float64bits", "math.Float64frombits"], apart := false, narrowed := true }
def FnExactGuessOfUptoSaid : Prop := fnExactGuessOfUptoRow.holds Try.pinned (OpenSpec.upto fnExactGuessOfSpec)

/-- 'laws.FnExactDoubleLine', WHERE WHAT IT READS IS OF BULK AT MOST 1048576: true; the input reads as it did. -/
def fnExactDoubleLineUptoRow : OpenClaim := { program := "ytallegmkkbmelab", sum := "381c1c3ab17ca283e837f9bac8301d4e27696234518099f8391eac1c932e8dbd", func := "loop.example/g01375/laws.FnExactDoubleLine", spec := "fnExactDoubleLine", inPlace := ["math.Float64bits", "math.Float64frombits"], unfollowed := true, recurses := true, apart := false, narrowed := true }
def FnExactDoubleLineUptoSaid : Prop := fnExactDoubleLineUptoRow.holds Try.pinned (OpenSpec.upto fnExactDoubleLineSpec)

/-- 'laws.FnExactSeldomNeeds', WHERE WHAT IT READS IS OF BULK AT MOST 1048576: true; the input reads as it did. -/
def fnExactSeldomNeedsUptoRow : OpenClaim := { program := "ytallegmkkbmelab", sum := "381c1c3ab17ca283e837f9bac8301d4e27696234518099f8391eac1c932e8dbd", func := "loop.example/g01375/laws.FnExactSeldomNeeds", spec := "fnExactSeldomNeeds", inPlace := ["math.Float64bits", "math.Float64frombits"], unfollowed := true, recurses := true, apart := false, narrowed := true }
def FnExactSeldomNeedsUptoSaid : Prop := fnExactSeldomNeedsUptoRow.holds Try.pinned (OpenSpec.upto fnExactSeldomNeedsSpec)

/-- 'laws.FnExactChanceNeeds', WHERE WHAT IT READS IS OF BULK AT MOST 1048576: true; the input reads as it did. -/
def fnExactChanceNeedsUptoRow : OpenClaim := { program := "ytallegmkkbmelab", sum := "381c1c3ab17ca283e837f9bac8301d4e27696234518099f8391eac1c932e8dbd", func := "loop.example/g01375/laws.FnExactChanceNeeds", spec := "fnExactChanceNeeds", inPlace := ["math.Float64bits", "math.Float64frombits"], unfollowed := true, recurses := true, apart := false, narrowed := true }
def FnExactChanceNeedsUptoSaid : Prop := fnExactChanceNeedsUptoRow.holds Try.pinned (OpenSpec.upto fnExactChanceNeedsSpec)

/-- 'laws.FnExactAheadOf', WHERE WHAT IT READS IS OF BULK AT MOST 1048576: true; the input reads as it did. -/
def fnExactAheadOfUptoRow : OpenClaim := { program := "ytallegmkkbmelab", sum := "381c1c3ab17ca283e837f9bac8301d4e27696234518099f8391eac1c932e8dbd", func := "loop.example/g01375/laws.FnExactAheadOf", spec := "fnExactAheadOf", inPlace := ["math.Float64bits", "math.Float64frombits"], unfollowed := true, recurses := true, apart := false, narrowed := true }
def FnExactAheadOfUptoSaid : Prop := fnExactAheadOfUptoRow.holds Try.pinned (OpenSpec.upto fnExactAheadOfSpec)

/-- 'laws.FnExactMiddleBlend', WHERE WHAT IT READS IS OF BULK AT MOST 1048576: true; the input reads as it did. -/
def fnExactMiddleBlendUptoRow : OpenClaim := { program := "ytallegmkkbmelab", sum := "381c1c3ab17ca283e837f9bac8301d4e27696234518099f8391eac1c932e8dbd", func := "loop.example/g01375/laws.FnExactMiddleBlend", spec := "fnExactMiddleBlend", inPlace := ["math.Float64bits", "math.Float64frombits"], unfollowed := true, recurses := true, apart := false, narrowed := true }
def FnExactMiddleBlendUptoSaid : Prop := fnExactMiddleBlendUptoRow.holds Try.pinned (OpenSpec.upto fnExactMiddleBlendSpec)

end Rows
end Go.Proofs.Ytallegmkkbmelab
