/-
  Lists that are finite or none, in chapter 3's model (CSlf has the same words: import one or the other).
-/
import Derived.Test.YtldaamgohdnjnaaCPlc
namespace Go.Proofs.Ytldaamgohdnjnaa
open Ieee Go.RowKit
set_option linter.unusedVariables false

end Go.Proofs.Ytldaamgohdnjnaa
