import Derived.Test.YtlcdbfijjjobjaaCEas
namespace Go.Proofs.Ytlcdbfijjjobjaa.fnExactEasterOf
open Go.RowKit
set_option linter.unusedVariables false
theorem walk (a0 : Int) (w : World) (w0 : (Lit.int .i64 a0).wf = true) :
    Calls Try.prog 9 #[.int .i64 a0] w fun e w' => e = .returned (.bool true) ∧ Below w.heap.size w w' := by
  clear w0
  go_enter Try.func9, Try.ntmps9
  go_wp2_with (first | (go_at_call 27; refine (specEaster_any _ _).mono ?_; (try unfold RetI); rintro e w' ⟨rfl, hb1⟩) | (go_at_call 28; refine (implEaster_any _ _).mono ?_; (try unfold RetI); rintro e w' ⟨rfl, rfl⟩))
  all_goals (go_ret; exact ⟨rfl, hb1⟩)
end Go.Proofs.Ytlcdbfijjjobjaa.fnExactEasterOf
