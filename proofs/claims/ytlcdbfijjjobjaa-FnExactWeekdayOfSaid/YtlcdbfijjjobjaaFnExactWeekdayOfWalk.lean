import Derived.Test.YtlcdbfijjjobjaaCDat
namespace Go.Proofs.Ytlcdbfijjjobjaa.fnExactWeekdayOf
open Go.RowKit
set_option linter.unusedVariables false
theorem walk (a0 : Int) (w : World) (w0 : (Lit.int .i64 a0).wf = true) :
    Calls Try.prog 7 #[.int .i64 a0] w fun e w' => e = .returned (.bool true) ∧ Below w.heap.size w w' := by
  clear w0
  go_enter Try.func7, Try.ntmps7
  go_wp2_with (first | (go_at_call 23; refine (specWeekday_any _ _).mono ?_; (try unfold RetI); rintro e w' ⟨rfl, rfl⟩) | (go_at_call 24; refine (implWeekday_any _ _).mono ?_; (try unfold RetI); rintro e w' ⟨rfl, rfl⟩))
  all_goals (go_ret; exact ⟨rfl, Below.refl _ _⟩)
end Go.Proofs.Ytlcdbfijjjobjaa.fnExactWeekdayOf
