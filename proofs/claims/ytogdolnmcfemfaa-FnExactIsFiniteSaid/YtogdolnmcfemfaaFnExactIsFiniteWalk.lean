import Derived.Test.YtogdolnmcfemfaaCIsf
namespace Go.Proofs.Ytogdolnmcfemfaa.fnExactIsFinite
open Go.RowKit Ieee
set_option linter.unusedVariables false
theorem walk (a0 : Nat) (w : World) (w0 : (Lit.float .f32 a0).wf = true) :
    Calls Try.prog 4 #[.float .f32 a0] w fun e w' => e = .returned (.bool true) ∧ Below w.heap.size w w' := by
  clear w0
  go_enter Try.func4, Try.ntmps4
  go_wp2_with (first | (go_at_call 13; refine (isFinite_any _ _).mono ?_; rintro e w' ⟨n, rfl, rfl⟩) | (go_at_call 26; refine (l01Finite_any _ _).mono ?_; rintro e w' ⟨m, rfl, rfl⟩) | (go_at_call 12; go_in))
  all_goals (go_ret; exact ⟨rfl, below_drewN (Below.refl _ _) _⟩)
end Go.Proofs.Ytogdolnmcfemfaa.fnExactIsFinite
