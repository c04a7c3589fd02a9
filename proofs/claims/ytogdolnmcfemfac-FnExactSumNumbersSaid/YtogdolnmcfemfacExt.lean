/-
  The library's functions without a body that these walks call: what each call gives.
-/
import Derived.Test.YtogdolnmcfemfacChecked
import Derived.Test.YtogdolnmcfemfacFlo
import Derived.Laws.Externs
namespace Go.Proofs.Ytogdolnmcfemfac
open Ieee Go.RowKit

end Go.Proofs.Ytogdolnmcfemfac
