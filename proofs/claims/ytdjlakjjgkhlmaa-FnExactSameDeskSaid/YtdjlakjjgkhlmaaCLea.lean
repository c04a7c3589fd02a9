/-
  Leap years and how long months are, in both packages.
-/
import Derived.Test.YtdjlakjjgkhlmaaChecked
import Derived.Test.YtdjlakjjgkhlmaaDay
import Derived.WalkKit
import Derived.Lib.Hide
import Derived.Below
namespace Go.Proofs.Ytdjlakjjgkhlmaa
open Go.RowKit
set_option linter.unusedVariables false

theorem specLeap_any (y : Int) (w : World) (h : 0 ≤ y) : Calls Try.prog 164 #[.int .i64 y] w fun e w' => e = .returned (.bool (leapZ y)) ∧ w = w' := by
  have H := Lib.hid (show leapZ y = decide (y % 4 = 0 ∧ ¬ y % 100 = 0 ∨ y % 400 = 0) from rfl)
  by_cases h4 : y % 4 = 0 <;> by_cases h1 : y % 100 = 0 <;> by_cases h5 : y % 400 = 0
  all_goals
    go_enter Try.func164, Try.ntmps164
    go_wp2
    go_ret
    exact ⟨congrArg (fun b => Ending.returned (Value.bool b)) (by rw [H.out]; first | exact (decide_eq_true (by omega)).symm | exact (decide_eq_false (by omega)).symm | exact (decide_eq_decide (p := y % 400 = 0)).2 (by omega)), rfl⟩

def leapB (y : Int) : Bool := yearB y && leapZ y
end Go.Proofs.Ytdjlakjjgkhlmaa
