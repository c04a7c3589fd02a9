/-
  meansByPeriod of the program.
-/
import Derived.Test.YtgddfhmddkhaeaaCSea
namespace Go.Proofs.Ytgddfhmddkhaeaa
open Ieee Go.RowKit
set_option linter.unusedVariables false

end Go.Proofs.Ytgddfhmddkhaeaa
