/-
  meansByPeriod of the program.
-/
import Derived.Test.YtcfejkkkleiejaaCSea
namespace Go.Proofs.Ytcfejkkkleiejaa
open Ieee Go.RowKit
set_option linter.unusedVariables false

end Go.Proofs.Ytcfejkkkleiejaa
