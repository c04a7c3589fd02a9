/-
  No cell of these rows narrows 'for every input' (looked for: loops, veiled, ifaces, maps, wideKeys, modest, calm, conditions, laid).
  DERIVED. THE GIVEN ROWS OF THIS SEAT. 12 by the template 'for every input the law returns true; each argument reads behind the call as it read before'; 0 by the template 'total and deterministic' (their statements: YtlcdbfijjjobjaaTotals.lean).
  GIVEN WITH THE SEED: the statements are not yours to turn. If you find one false, say at which input.
  Laid BY PROGRAM, IN A SANDBOX (cutbox-rows.mjs): the forced cells as the released guide's own fill.sh prints them over the translation 3ec51a192856f187… (all of the seat's roots in one cut). By AI agents, Wed Nov 11 2026. No macro, syntax, notation, axiom, sorry.
-/
import Derived.Test.YtlcdbfijjjobjaaChecked
import GoSem.Claim
import GoSem.ClaimJoined
import GoSem.ClaimMapViews
import Derived.JoinedTies
import Derived.KernelRfl
namespace Go.Proofs.Ytlcdbfijjjobjaa
/- THE CELL 'sum', in the pinned program and in every row, IS THE sha256 OF THE DUMP (.gsa) THAT YtlcdbfijjjobjaaProg.lean LOADS. Nothing in Lean hashes anything: it is a label: what it is worth is what the hold of that sum in a sandbox is worth. -/
noncomputable def Try.pinned : Pinned := { name := "ytlcdbfijjjobjaa", sum := "3ec51a192856f18746716278134300e9d5218b8f64a10fe3c54a351c3c406486", checked := Try.checked }
namespace Rows
def none {H : Type} : Left H := { results := [], args := [] }

/-- 'laws.FnExactIsLeap': WHATEVER THE INPUT: true; the input reads as it did. -/
def fnExactIsLeapSpec : ChangeSpec := { name := "fnExactIsLeap", fn := fun _ => fun
  | [d] => { results := [.lit (.bool true)], args := [d] }
  | _ => none }
def fnExactIsLeapRow : OpenClaim := { program := "ytlcdbfijjjobjaa", sum := "3ec51a192856f18746716278134300e9d5218b8f64a10fe3c54a351c3c406486", func := "loop.example/g01375/laws.FnExactIsLeap", spec := "fnExactIsLeap", apart := false }
def FnExactIsLeapSaid : Prop := fnExactIsLeapRow.holds Try.pinned (OpenSpec.ofChange fnExactIsLeapSpec)

/-- ITS FALSE NEIGHBOUR: 'it returns false'. Refute it at one input. -/
def fnExactIsLeapWrong : ChangeSpec := { name := "fnExactIsLeap", fn := fun _ => fun
  | [d] => { results := [.lit (.bool false)], args := [d] }
  | _ => none }
def FnExactIsLeapWrongFalsely : Prop := fnExactIsLeapRow.holds Try.pinned (OpenSpec.ofChange fnExactIsLeapWrong)

/-- 'laws.FnExactLongOfMonth': WHATEVER THE INPUT: true; the input reads as it did. -/
def fnExactLongOfMonthSpec : ChangeSpec := { name := "fnExactLongOfMonth", fn := fun _ => fun
  | [d1, d2] => { results := [.lit (.bool true)], args := [d1, d2] }
  | _ => none }
def fnExactLongOfMonthRow : OpenClaim := { program := "ytlcdbfijjjobjaa", sum := "3ec51a192856f18746716278134300e9d5218b8f64a10fe3c54a351c3c406486", func := "loop.example/g01375/laws.FnExactLongOfMonth", spec := "fnExactLongOfMonth", apart := false }
def FnExactLongOfMonthSaid : Prop := fnExactLongOfMonthRow.holds Try.pinned (OpenSpec.ofChange fnExactLongOfMonthSpec)

/-- ITS FALSE NEIGHBOUR: 'it returns false'. Refute it at one input. -/
def fnExactLongOfMonthWrong : ChangeSpec := { name := "fnExactLongOfMonth", fn := fun _ => fun
  | [d1, d2] => { results := [.lit (.bool false)], args := [d1, d2] }
  | _ => none }
def FnExactLongOfMonthWrongFalsely : Prop := fnExactLongOfMonthRow.holds Try.pinned (OpenSpec.ofChange fnExactLongOfMonthWrong)

/-- 'laws.FnExactDayOf': WHATEVER THE INPUT: true; the input reads as it did. -/
def fnExactDayOfSpec : ChangeSpec := { name := "fnExactDayOf", fn := fun _ => fun
  | [d1, d2, d3] => { results := [.lit (.bool true)], args := [d1, d2, d3] }
  | _ => none }
def fnExactDayOfRow : OpenClaim := { program := "ytlcdbfijjjobjaa", sum := "3ec51a192856f18746716278134300e9d5218b8f64a10fe3c54a351c3c406486", func := "loop.example/g01375/laws.FnExactDayOf", spec := "fnExactDayOf", apart := false }
def FnExactDayOfSaid : Prop := fnExactDayOfRow.holds Try.pinned (OpenSpec.ofChange fnExactDayOfSpec)

/-- ITS FALSE NEIGHBOUR: 'it returns false'. Refute it at one input. -/
def fnExactDayOfWrong : ChangeSpec := { name := "fnExactDayOf", fn := fun _ => fun
  | [d1, d2, d3] => { results := [.lit (.bool false)], args := [d1, d2, d3] }
  | _ => none }
def FnExactDayOfWrongFalsely : Prop := fnExactDayOfRow.holds Try.pinned (OpenSpec.ofChange fnExactDayOfWrong)

/-- 'laws.FnExactDateOf': WHATEVER THE INPUT: true; the input reads as it did. -/
def fnExactDateOfSpec : ChangeSpec := { name := "fnExactDateOf", fn := fun _ => fun
  | [d] => { results := [.lit (.bool true)], args := [d] }
  | _ => none }
def fnExactDateOfRow : OpenClaim := { program := "ytlcdbfijjjobjaa", sum := "3ec51a192856f18746716278134300e9d5218b8f64a10fe3c54a351c3c406486", func := "loop.example/g01375/laws.FnExactDateOf", spec := "fnExactDateOf", apart := false }
def FnExactDateOfSaid : Prop := fnExactDateOfRow.holds Try.pinned (OpenSpec.ofChange fnExactDateOfSpec)

/-- ITS FALSE NEIGHBOUR: 'it returns false'. Refute it at one input. -/
def fnExactDateOfWrong : ChangeSpec := { name := "fnExactDateOf", fn := fun _ => fun
  | [d] => { results := [.lit (.bool false)], args := [d] }
  | _ => none }
def FnExactDateOfWrongFalsely : Prop := fnExactDateOfRow.holds Try.pinned (OpenSpec.ofChange fnExactDateOfWrong)

/-- 'laws.FnExactWeekdayOf': WHATEVER THE INPUT: true; the input reads as it did. -/
def fnExactWeekdayOfSpec : ChangeSpec := { name := "fnExactWeekdayOf", fn := fun _ => fun
  | [d] => { results := [.lit (.bool true)], args := [d] }
  | _ => none }
def fnExactWeekdayOfRow : OpenClaim := { program := "ytlcdbfijjjobjaa", sum := "3ec51a192856f18746716278134300e9d5218b8f64a10fe3c54a351c3c406486", func := "loop.example/g01375/laws.FnExactWeekdayOf", spec := "fnExactWeekdayOf", apart := false }
def FnExactWeekdayOfSaid : Prop := fnExactWeekdayOfRow.holds Try.pinned (OpenSpec.ofChange fnExactWeekdayOfSpec)

/-- ITS FALSE NEIGHBOUR: 'it returns false'. Refute it at one input. -/
def fnExactWeekdayOfWrong : ChangeSpec := { name := "fnExactWeekdayOf", fn := fun _ => fun
  | [d] => { results := [.lit (.bool false)], args := [d] }
  | _ => none }
def FnExactWeekdayOfWrongFalsely : Prop := fnExactWeekdayOfRow.holds Try.pinned (OpenSpec.ofChange fnExactWeekdayOfWrong)

/-- 'laws.FnExactWeekOf': WHATEVER THE INPUT: true; the input reads as it did. -/
def fnExactWeekOfSpec : ChangeSpec := { name := "fnExactWeekOf", fn := fun _ => fun
  | [d] => { results := [.lit (.bool true)], args := [d] }
  | _ => none }
def fnExactWeekOfRow : OpenClaim := { program := "ytlcdbfijjjobjaa", sum := "3ec51a192856f18746716278134300e9d5218b8f64a10fe3c54a351c3c406486", func := "loop.example/g01375/laws.FnExactWeekOf", spec := "fnExactWeekOf", apart := false }
def FnExactWeekOfSaid : Prop := fnExactWeekOfRow.holds Try.pinned (OpenSpec.ofChange fnExactWeekOfSpec)

/-- ITS FALSE NEIGHBOUR: 'it returns false'. Refute it at one input. -/
def fnExactWeekOfWrong : ChangeSpec := { name := "fnExactWeekOf", fn := fun _ => fun
  | [d] => { results := [.lit (.bool false)], args := [d] }
  | _ => none }
def FnExactWeekOfWrongFalsely : Prop := fnExactWeekOfRow.holds Try.pinned (OpenSpec.ofChange fnExactWeekOfWrong)

/-- 'laws.FnExactEasterOf': WHATEVER THE INPUT: true; the input reads as it did. -/
def fnExactEasterOfSpec : ChangeSpec := { name := "fnExactEasterOf", fn := fun _ => fun
  | [d] => { results := [.lit (.bool true)], args := [d] }
  | _ => none }
def fnExactEasterOfRow : OpenClaim := { program := "ytlcdbfijjjobjaa", sum := "3ec51a192856f18746716278134300e9d5218b8f64a10fe3c54a351c3c406486", func := "loop.example/g01375/laws.FnExactEasterOf", spec := "fnExactEasterOf", apart := false }
def FnExactEasterOfSaid : Prop := fnExactEasterOfRow.holds Try.pinned (OpenSpec.ofChange fnExactEasterOfSpec)

/-- ITS FALSE NEIGHBOUR: 'it returns false'. Refute it at one input. -/
def fnExactEasterOfWrong : ChangeSpec := { name := "fnExactEasterOf", fn := fun _ => fun
  | [d] => { results := [.lit (.bool false)], args := [d] }
  | _ => none }
def FnExactEasterOfWrongFalsely : Prop := fnExactEasterOfRow.holds Try.pinned (OpenSpec.ofChange fnExactEasterOfWrong)

/-- 'laws.FnExactWeekdayIn': WHATEVER THE INPUT: true; the input reads as it did. -/
def fnExactWeekdayInSpec : ChangeSpec := { name := "fnExactWeekdayIn", fn := fun _ => fun
  | [d1, d2, d3, d4] => { results := [.lit (.bool true)], args := [d1, d2, d3, d4] }
  | _ => none }
def fnExactWeekdayInRow : OpenClaim := { program := "ytlcdbfijjjobjaa", sum := "3ec51a192856f18746716278134300e9d5218b8f64a10fe3c54a351c3c406486", func := "loop.example/g01375/laws.FnExactWeekdayIn", spec := "fnExactWeekdayIn", apart := false }
def FnExactWeekdayInSaid : Prop := fnExactWeekdayInRow.holds Try.pinned (OpenSpec.ofChange fnExactWeekdayInSpec)

/-- ITS FALSE NEIGHBOUR: 'it returns false'. Refute it at one input. -/
def fnExactWeekdayInWrong : ChangeSpec := { name := "fnExactWeekdayIn", fn := fun _ => fun
  | [d1, d2, d3, d4] => { results := [.lit (.bool false)], args := [d1, d2, d3, d4] }
  | _ => none }
def FnExactWeekdayInWrongFalsely : Prop := fnExactWeekdayInRow.holds Try.pinned (OpenSpec.ofChange fnExactWeekdayInWrong)

/-- 'laws.FnExactWorkDays': WHATEVER THE INPUT: true; the input reads as it did. -/
def fnExactWorkDaysSpec : ChangeSpec := { name := "fnExactWorkDays", fn := fun _ => fun
  | [d1, d2, d3] => { results := [.lit (.bool true)], args := [d1, d2, d3] }
  | _ => none }
def fnExactWorkDaysRow : OpenClaim := { program := "ytlcdbfijjjobjaa", sum := "3ec51a192856f18746716278134300e9d5218b8f64a10fe3c54a351c3c406486", func := "loop.example/g01375/laws.FnExactWorkDays", spec := "fnExactWorkDays", apart := false }
def FnExactWorkDaysSaid : Prop := fnExactWorkDaysRow.holds Try.pinned (OpenSpec.ofChange fnExactWorkDaysSpec)

/-- ITS FALSE NEIGHBOUR: 'it returns false'. Refute it at one input. -/
def fnExactWorkDaysWrong : ChangeSpec := { name := "fnExactWorkDays", fn := fun _ => fun
  | [d1, d2, d3] => { results := [.lit (.bool false)], args := [d1, d2, d3] }
  | _ => none }
def FnExactWorkDaysWrongFalsely : Prop := fnExactWorkDaysRow.holds Try.pinned (OpenSpec.ofChange fnExactWorkDaysWrong)

/-- 'laws.FnExactWorkDayBehind': WHATEVER THE INPUT: true; the input reads as it did. -/
def fnExactWorkDayBehindSpec : ChangeSpec := { name := "fnExactWorkDayBehind", fn := fun _ => fun
  | [d1, d2, d3] => { results := [.lit (.bool true)], args := [d1, d2, d3] }
  | _ => none }
def fnExactWorkDayBehindRow : OpenClaim := { program := "ytlcdbfijjjobjaa", sum := "3ec51a192856f18746716278134300e9d5218b8f64a10fe3c54a351c3c406486", func := "loop.example/g01375/laws.FnExactWorkDayBehind", spec := "fnExactWorkDayBehind", apart := false }
def FnExactWorkDayBehindSaid : Prop := fnExactWorkDayBehindRow.holds Try.pinned (OpenSpec.ofChange fnExactWorkDayBehindSpec)

/-- ITS FALSE NEIGHBOUR: 'it returns false'. Refute it at one input. -/
def fnExactWorkDayBehindWrong : ChangeSpec := { name := "fnExactWorkDayBehind", fn := fun _ => fun
  | [d1, d2, d3] => { results := [.lit (.bool false)], args := [d1, d2, d3] }
  | _ => none }
def FnExactWorkDayBehindWrongFalsely : Prop := fnExactWorkDayBehindRow.holds Try.pinned (OpenSpec.ofChange fnExactWorkDayBehindWrong)

/-- 'laws.FnExactIsSeries': WHATEVER THE INPUT: true; the input reads as it did. -/
def fnExactIsSeriesSpec : ChangeSpec := { name := "fnExactIsSeries", fn := fun _ => fun
  | [d] => { results := [.lit (.bool true)], args := [d] }
  | _ => none }
def fnExactIsSeriesRow : OpenClaim := { program := "ytlcdbfijjjobjaa", sum := "3ec51a192856f18746716278134300e9d5218b8f64a10fe3c54a351c3c406486", func := "loop.example/g01375/laws.FnExactIsSeries", spec := "fnExactIsSeries", inPlace := ["math.Float64bits", "math.Float64frombits"], apart := false }
def FnExactIsSeriesSaid : Prop := fnExactIsSeriesRow.holds Try.pinned (OpenSpec.ofChange fnExactIsSeriesSpec)

/-- ITS FALSE NEIGHBOUR: 'it returns false'. Refute it at one input. -/
def fnExactIsSeriesWrong : ChangeSpec := { name := "fnExactIsSeries", fn := fun _ => fun
  | [d] => { results := [.lit (.bool false)], args := [d] }
  | _ => none }
def FnExactIsSeriesWrongFalsely : Prop := fnExactIsSeriesRow.holds Try.pinned (OpenSpec.ofChange fnExactIsSeriesWrong)

/-- 'laws.FnExactMeanOf': WHATEVER THE INPUT: true; the input reads as it did. -/
def fnExactMeanOfSpec : ChangeSpec := { name := "fnExactMeanOf", fn := fun _ => fun
  | [d] => { results := [.lit (.bool true)], args := [d] }
  | _ => none }
def fnExactMeanOfRow : OpenClaim := { program := "ytlcdbfijjjobjaa", sum := "3ec51a192856f18746716278134300e9d5218b8f64a10fe3c54a351c3c406486", func := "loop.example/g01375/laws.FnExactMeanOf", spec := "fnExactMeanOf", inPlace := ["math.Float64bits", "math.Float64frombits"], apart := false }
def FnExactMeanOfSaid : Prop := fnExactMeanOfRow.holds Try.pinned (OpenSpec.ofChange fnExactMeanOfSpec)

/-- ITS FALSE NEIGHBOUR: 'it returns false'. Refute it at one input. -/
def fnExactMeanOfWrong : ChangeSpec := { name := "fnExactMeanOf", fn := fun _ => fun
  | [d] => { results := [.lit (.bool false)], args := [d] }
  | _ => none }
def FnExactMeanOfWrongFalsely : Prop := fnExactMeanOfRow.holds Try.pinned (OpenSpec.ofChange fnExactMeanOfWrong)

/- THE SECOND FORM. 'bulk': how many values and letters a reading holds, each counted each time it is reached (what is shared counts as often as it is met; a slice's spare places count too). A statement '..UptoSaid' is the law's where the arguments, and the package variables that the reading takes, are together of bulk at most 1048576: NARROWER than '..Said'. Prove '..Said' where nothing that the law and all that it calls make is longer than what came in: it says more and counts as full. Else prove '..UptoSaid'. A law counts once. -/
mutual
def uptoBulk {H : Type} : DataW H → Nat
  | .lit (.string bytes) => bytes.length + 1
  | .lit _ => 1
  | .nil => 1
  | .ptr d => uptoBulk d + 1
  | .slice elems spare => uptoBulkAll elems + uptoBulkAll spare + 1
  | .agg parts => uptoBulkAll parts + 1
  | .iface _ d => uptoBulk d + 1
  | .map entries => uptoBulkEntries entries + 1
  | .held _ => 1
def uptoBulkAll {H : Type} : List (DataW H) → Nat
  | [] => 0
  | d :: r => uptoBulk d + uptoBulkAll r
def uptoBulkEntries {H : Type} : List (Lit × DataW H) → Nat
  | [] => 0
  | x :: r => uptoBulkEntry x + uptoBulkEntries r
def uptoBulkEntry {H : Type} : Lit × DataW H → Nat
  | (.string bytes, d) => bytes.length + uptoBulk d + 1
  | (_, d) => uptoBulk d + 1
 end
def uptoSmall : (H : Type) → List (DataW H) → Bool := fun _ ds => decide (uptoBulkAll ds ≤ 1048576)
def OpenSpec.upto (s : _root_.Go.ChangeSpec) : _root_.Go.OpenSpec := { _root_.Go.OpenSpec.ofChange s with cond := some uptoSmall }

/-- 'laws.FnExactIsLeap', WHERE WHAT IT READS IS OF BULK AT MOST 1048576: true; the input reads as it did. -/
def fnExactIsLeapUptoRow : OpenClaim := { program := "ytlcdbfijjjobjaa", sum := "3ec51a192856f18746716278134300e9d5218b8f64a10fe3c54a351c3c406486", func := "loop.example/g01375/laws.FnExactIsLeap", spec := "fnExactIsLeap", apart := false, narrowed := true }
def FnExactIsLeapUptoSaid : Prop := fnExactIsLeapUptoRow.holds Try.pinned (OpenSpec.upto fnExactIsLeapSpec)

/-- 'laws.FnExactLongOfMonth', WHERE WHAT IT READS IS OF BULK AT MOST 1048576: true; the input reads as it did. -/
def fnExactLongOfMonthUptoRow : OpenClaim := { program := "ytlcdbfijjjobjaa", sum := "3ec51a192856f18746716278134300e9d5218b8f64a10fe3c54a351c3c406486", func := "loop.example/g01375/laws.FnExactLongOfMonth", spec := "fnExactLongOfMonth", apart := false, narrowed := true }
def FnExactLongOfMonthUptoSaid : Prop := fnExactLongOfMonthUptoRow.holds Try.pinned (OpenSpec.upto fnExactLongOfMonthSpec)

/-- 'laws.FnExactDayOf', WHERE WHAT IT READS IS OF BULK AT MOST 1048576: true; the input reads as it did. -/
def fnExactDayOfUptoRow : OpenClaim := { program := "ytlcdbfijjjobjaa", sum := "3ec51a192856f18746716278134300e9d5218b8f64a10fe3c54a351c3c406486", func := "loop.example/g01375/laws.FnExactDayOf", spec := "fnExactDayOf", apart := false, narrowed := true }
def FnExactDayOfUptoSaid : Prop := fnExactDayOfUptoRow.holds Try.pinned (OpenSpec.upto fnExactDayOfSpec)

/-- 'laws.FnExactDateOf', WHERE WHAT IT READS IS OF BULK AT MOST 1048576: true; the input reads as it did. -/
def fnExactDateOfUptoRow : OpenClaim := { program := "ytlcdbfijjjobjaa", sum := "3ec51a192856f18746716278134300e9d5218b8f64a10fe3c54a351c3c406486", func := "loop.example/g01375/laws.FnExactDateOf", spec := "fnExactDateOf", apart := false, narrowed := true }
def FnExactDateOfUptoSaid : Prop := fnExactDateOfUptoRow.holds Try.pinned (OpenSpec.upto fnExactDateOfSpec)

/-- 'laws.FnExactWeekdayOf', WHERE WHAT IT READS IS OF BULK AT MOST 1048576: true; the input reads as it did. -/
def fnExactWeekdayOfUptoRow : OpenClaim := { program := "ytlcdbfijjjobjaa", sum := "3ec51a192856f18746716278134300e9d5218b8f64a10fe3c54a351c3c406486", func := "loop.example/g01375/laws.FnExactWeekdayOf", spec := "fnExactWeekdayOf", apart := false, narrowed := true }
def FnExactWeekdayOfUptoSaid : Prop := fnExactWeekdayOfUptoRow.holds Try.pinned (OpenSpec.upto fnExactWeekdayOfSpec)

/-- 'laws.FnExactWeekOf', WHERE WHAT IT READS IS OF BULK AT MOST 1048576: true; the input reads as it did. -/
def fnExactWeekOfUptoRow : OpenClaim := { program := "ytlcdbfijjjobjaa", sum := "3ec51a192856f18746716278134300e9d5218b8f64a10fe3c54a351c3c406486", func := "loop.example/g01375/laws.FnExactWeekOf", spec := "fnExactWeekOf", apart := false, narrowed := true }
def FnExactWeekOfUptoSaid : Prop := fnExactWeekOfUptoRow.holds Try.pinned (OpenSpec.upto fnExactWeekOfSpec)

/-- 'laws.FnExactEasterOf', WHERE WHAT IT READS IS OF BULK AT MOST 1048576: true; the input reads as it did. -/
def fnExactEasterOfUptoRow : OpenClaim := { program := "ytlcdbfijjjobjaa", sum := "3ec51a192856f18746716278134300e9d5218b8f64a10fe3c54a351c3c406486", func := "loop.example/g01375/laws.FnExactEasterOf", spec := "fnExactEasterOf", apart := false, narrowed := true }
def FnExactEasterOfUptoSaid : Prop := fnExactEasterOfUptoRow.holds Try.pinned (OpenSpec.upto fnExactEasterOfSpec)

/-- 'laws.FnExactWeekdayIn', WHERE WHAT IT READS IS OF BULK AT MOST 1048576: true; the input reads as it did. -/
def fnExactWeekdayInUptoRow : OpenClaim := { program := "ytlcdbfijjjobjaa", sum := "3ec51a192856f18746716278134300e9d5218b8f64a10fe3c54a351c3c406486", func := "loop.example/g01375/laws.FnExactWeekdayIn", spec := "fnExactWeekdayIn", apart := false, narrowed := true }
def FnExactWeekdayInUptoSaid : Prop := fnExactWeekdayInUptoRow.holds Try.pinned (OpenSpec.upto fnExactWeekdayInSpec)

/-- 'laws.FnExactWorkDays', WHERE WHAT IT READS IS OF BULK AT MOST 1048576: true; the input reads as it did. -/
def fnExactWorkDaysUptoRow : OpenClaim := { program := "ytlcdbfijjjobjaa", sum := "3ec51a192856f18746716278134300e9d5218b8f64a10fe3c54a351c3c406486", func := "loop.example/g01375/laws.FnExactWorkDays", spec := "fnExactWorkDays", apart := false, narrowed := true }
def FnExactWorkDaysUptoSaid : Prop := fnExactWorkDaysUptoRow.holds Try.pinned (OpenSpec.upto fnExactWorkDaysSpec)

/-- 'laws.FnExactWorkDayBehind', WHERE WHAT IT READS IS OF BULK AT MOST 1048576: true; the input reads as it did. -/
def fnExactWorkDayBehindUptoRow : OpenClaim := { program := "ytlcdbfijjjobjaa", sum := "3ec51a192856f18746716278134300e9d5218b8f64a10fe3c54a351c3c406486", func := "loop.example/g01375/laws.FnExactWorkDayBehind", spec := "fnExactWorkDayBehind", apart := false, narrowed := true }
def FnExactWorkDayBehindUptoSaid : Prop := fnExactWorkDayBehindUptoRow.holds Try.pinned (OpenSpec.upto fnExactWorkDayBehindSpec)

/-- 'laws.FnExactIsSeries', WHERE WHAT IT READS IS OF BULK AT MOST 1048576: true; the input reads as it did. -/
def fnExactIsSeriesUptoRow : OpenClaim := { program := "ytlcdbfijjjobjaa", sum := "3ec51a192856f18746716278134300e9d5218b8f64a10fe3c54a351c3c406486", func := "loop.example/g01375/laws.FnExactIsSeries", spec := "fnExactIsSeries", inPlace := ["math.Float64bits", "math.Float64frombits"], apart := false, narrowed := true }
def FnExactIsSeriesUptoSaid : Prop := fnExactIsSeriesUptoRow.holds Try.pinned (OpenSpec.upto fnExactIsSeriesSpec)

/-- 'laws.FnExactMeanOf', WHERE WHAT IT READS IS OF BULK AT MOST 1048576: true; the input reads as it did. -/
def fnExactMeanOfUptoRow : OpenClaim := { program := "ytlcdbfijjjobjaa", sum := "3ec51a192856f18746716278134300e9d5218b8f64a10fe3c54a351c3c406486", func := "loop.example/g01375/laws.FnExactMeanOf", spec := "fnExactMeanOf", inPlace := ["math.Float64bits", "math.Float64frombits"], apart := false, narrowed := true }
def FnExactMeanOfUptoSaid : Prop := fnExactMeanOfUptoRow.holds Try.pinned (OpenSpec.upto fnExactMeanOfSpec)

end Rows
end Go.Proofs.Ytlcdbfijjjobjaa
