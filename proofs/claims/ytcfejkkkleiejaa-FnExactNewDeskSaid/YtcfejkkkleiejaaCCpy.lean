/-
  The laws' own helpers: a copy of a slice of 32-bit floats, and whether two are the same.
-/
import Derived.Test.YtcfejkkkleiejaaChecked
import Derived.Test.YtcfejkkkleiejaaVcp
import Derived.Test.YtcfejkkkleiejaaSam
import Derived.Deep.RegionHeld3
namespace Go.Proofs.Ytcfejkkkleiejaa
open Ieee Go.RowKit
set_option linter.unusedVariables false

theorem Try.infoF : (Try.prog.info? 23).map (fun i => (i.zero, i.size, i.bytes)) = some (some (.float .f32 0), 1, 4) := by kernel_rfl
end Go.Proofs.Ytcfejkkkleiejaa
