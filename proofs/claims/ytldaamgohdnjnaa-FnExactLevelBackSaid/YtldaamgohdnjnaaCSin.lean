/-
  The sine of turns: the program's and the model's walk.
-/
import Derived.Test.YtldaamgohdnjnaaExt
import Derived.Test.YtldaamgohdnjnaaFls
namespace Go.Proofs.Ytldaamgohdnjnaa
open Ieee Go.RowKit
set_option linter.unusedVariables false

/-- What float holds, as a number that goes down. -/
def fltOf : Value → Nat
  | .float _ b => b
  | _ => 0
theorem ret_f64 {a b : Nat} (h : a = b) : Ending.returned (.float .f64 a) = .returned (.float .f64 b) := by rw [h]

end Go.Proofs.Ytldaamgohdnjnaa
