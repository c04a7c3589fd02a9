/-
  SumNumbers of the program: a sum from left to right.
-/
import Derived.Test.YtallegmkkbmelabChecked
import Derived.Test.YtallegmkkbmelabFsl
namespace Go.Proofs.Ytallegmkkbmelab
open Ieee Go.RowKit
set_option linter.unusedVariables false

end Go.Proofs.Ytallegmkkbmelab
