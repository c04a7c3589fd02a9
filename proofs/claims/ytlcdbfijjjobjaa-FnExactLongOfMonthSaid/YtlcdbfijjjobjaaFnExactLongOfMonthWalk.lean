import Derived.Test.YtlcdbfijjjobjaaCDay
namespace Go.Proofs.Ytlcdbfijjjobjaa.fnExactLongOfMonth
open Go.RowKit
set_option linter.unusedVariables false
theorem walk (a0 : Int) (a1 : Int) (w : World) (w0 : (Lit.int .i64 a0).wf = true) (w1 : (Lit.int .i64 a1).wf = true) :
    Calls Try.prog 4 #[.int .i64 a0, .int .i64 a1] w fun e w' => e = .returned (.bool true) ∧ Below w.heap.size w w' := by
  clear w0 w1
  go_enter Try.func4, Try.ntmps4
  go_wp2_with (first | (go_at_call 17; refine (specLongOf_any _ _ _).mono ?_; (try unfold RetI); rintro e w' ⟨rfl, hb1⟩) | (go_at_call 18; refine (implLongOf_any _ _ _).mono ?_; (try unfold RetI); rintro e w' ⟨rfl, rfl⟩))
  all_goals (go_ret; exact ⟨rfl, hb1⟩)
end Go.Proofs.Ytlcdbfijjjobjaa.fnExactLongOfMonth
