import Derived.Test.YtlcdbfijjjobjaaCWdi
namespace Go.Proofs.Ytlcdbfijjjobjaa.fnExactWeekdayIn
open Go.RowKit
set_option linter.unusedVariables false
theorem walk (a0 : Int) (a1 : Int) (a2 : Int) (a3 : Int) (w : World) (w0 : (Lit.int .i64 a0).wf = true) (w1 : (Lit.int .i64 a1).wf = true) (w2 : (Lit.int .i64 a2).wf = true) (w3 : (Lit.int .i64 a3).wf = true) :
    Calls Try.prog 10 #[.int .i64 a0, .int .i64 a1, .int .i64 a2, .int .i64 a3] w fun e w' => e = .returned (.bool true) ∧ Below w.heap.size w w' := by
  clear w0 w1 w2 w3
  go_enter Try.func10, Try.ntmps10
  go_wp2_with (first | (go_at_call 29; refine (specWdi_any _ _ _ _ _).mono ?_; (try unfold RetI); rintro e w' ⟨rfl, hb1⟩) | (go_at_call 30; refine (implWdi_any _ _ _ _ _).mono ?_; (try unfold RetI); rintro e w' ⟨rfl, rfl⟩))
  all_goals (go_ret; exact ⟨rfl, hb1⟩)
end Go.Proofs.Ytlcdbfijjjobjaa.fnExactWeekdayIn
