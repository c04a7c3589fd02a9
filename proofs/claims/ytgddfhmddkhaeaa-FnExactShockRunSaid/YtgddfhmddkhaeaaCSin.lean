/-
  The sine of turns: the program's and the model's walk.
-/
import Derived.Test.YtgddfhmddkhaeaaExt
import Derived.Test.YtgddfhmddkhaeaaFls
namespace Go.Proofs.Ytgddfhmddkhaeaa
open Ieee Go.RowKit
set_option linter.unusedVariables false

/-- What float holds, as a number that goes down. -/
def fltOf : Value → Nat
  | .float _ b => b
  | _ => 0
theorem ret_f64 {a b : Nat} (h : a = b) : Ending.returned (.float .f64 a) = .returned (.float .f64 b) := by rw [h]

end Go.Proofs.Ytgddfhmddkhaeaa
