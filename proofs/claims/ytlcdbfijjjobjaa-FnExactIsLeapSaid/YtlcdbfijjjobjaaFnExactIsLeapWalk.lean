import Derived.Test.YtlcdbfijjjobjaaCLea
namespace Go.Proofs.Ytlcdbfijjjobjaa.fnExactIsLeap
open Go.RowKit
set_option linter.unusedVariables false
theorem walk (a0 : Int) (w : World) (w0 : (Lit.int .i64 a0).wf = true) :
    Calls Try.prog 3 #[.int .i64 a0] w fun e w' => e = .returned (.bool true) ∧ Below w.heap.size w w' := by
  clear w0
  go_enter Try.func3, Try.ntmps3
  go_wp2_with (first | (go_at_call 15; refine (specIsLeap_any _ _).mono ?_; (try unfold RetI); rintro e w' ⟨rfl, rfl⟩) | (go_at_call 16; refine (implIsLeap_any _ _).mono ?_; (try unfold RetI); rintro e w' ⟨rfl, rfl⟩))
  all_goals (go_ret; exact ⟨rfl, Below.refl _ _⟩)
end Go.Proofs.Ytlcdbfijjjobjaa.fnExactIsLeap
