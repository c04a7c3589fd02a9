/-
  Lists that are finite or none, in the model; running sums in the model.
-/
import Derived.Test.YtldaamgohdnjnaaCSer
import Derived.Test.YtldaamgohdnjnaaCLes
namespace Go.Proofs.Ytldaamgohdnjnaa
open Ieee Go.RowKit
set_option linter.unusedVariables false

theorem fins_cnl (rs : List Nat) : fins (cnl rs) = fins rs := by
  unfold fins cnl
  rw [List.all_map]
  congr 1
  funext x
  exact fin_congr (cn_cn .f32 x)
theorem fins_congr {rs rs' : List Nat} (h : cnl rs = cnl rs') : fins rs = fins rs' := by rw [← fins_cnl, h, fins_cnl]
/-- A list if all its numbers are finite, else none. -/
def lstR (xs : List Nat) : List Nat := if fins xs then xs else []
end Go.Proofs.Ytldaamgohdnjnaa
