import Derived.Test.YtlcdbfijjjobjaaCDat
namespace Go.Proofs.Ytlcdbfijjjobjaa.fnExactDayOf
open Go.RowKit
set_option linter.unusedVariables false
theorem walk (a0 : Int) (a1 : Int) (a2 : Int) (w : World) (w0 : (Lit.int .i64 a0).wf = true) (w1 : (Lit.int .i64 a1).wf = true) (w2 : (Lit.int .i64 a2).wf = true) :
    Calls Try.prog 5 #[.int .i64 a0, .int .i64 a1, .int .i64 a2] w fun e w' => e = .returned (.bool true) ∧ Below w.heap.size w w' := by
  clear w0 w1 w2
  go_enter Try.func5, Try.ntmps5
  go_wp2_with (first | (go_at_call 19; refine (specDayOf_any _ _ _ _).mono ?_; (try unfold RetI); rintro e w' ⟨rfl, hb1⟩) | (go_at_call 20; refine (implDayOf_any _ _ _ _).mono ?_; (try unfold RetI); rintro e w' ⟨rfl, rfl⟩))
  all_goals (go_ret; exact ⟨rfl, hb1⟩)
end Go.Proofs.Ytlcdbfijjjobjaa.fnExactDayOf
