/-
  'l00In' of the model.
-/
import Derived.Test.YtcfejkkkleiejaaChecked
import Derived.WalkKit
import Derived.Lib.Hide
import Derived.Below
namespace Go.Proofs.Ytcfejkkkleiejaa
open Go.RowKit
set_option linter.unusedVariables false
end Go.Proofs.Ytcfejkkkleiejaa
