import Derived.Test.YtogdolnmcfemfabCSit
import Derived.Test.YtogdolnmcfemfabSam
namespace Go.Proofs.Ytogdolnmcfemfab.fnExactSineTurns
open Go.RowKit Ieee
set_option linter.unusedVariables false
theorem walk (a0 : Nat) (w : World) (w0 : (Lit.float .f32 a0).wf = true) :
    Calls Try.prog 4 #[.float .f32 a0] w fun e w' => e = .returned (.bool true) ∧ Below w.heap.size w w' := by
  clear w0
  go_enter Try.func4, Try.ntmps4
  go_wp2_with (first | (go_at_call 14; refine (implSineTurns_any _ _).mono ?_; rintro e w' ⟨r, n, hr, rfl, rfl⟩; have Hr := Lib.hid hr; clear hr) | (go_at_call 28; refine (specSineTurns_any _ _).mono ?_; rintro e w' ⟨q, m, hq, rfl, rfl⟩; have Hq := Lib.hid hq; clear hq) | (go_at_call 13; go_in) | (go_at_call 12; refine (sameFloat_true _ _ _ (by rw [cn_wideR, cn_wideR, Hr.out, Hq.out])).mono ?_; rintro e w' ⟨n, rfl, rfl⟩))
  all_goals (go_ret; exact ⟨rfl, below_drewN (Below.refl _ _) _⟩)
end Go.Proofs.Ytogdolnmcfemfab.fnExactSineTurns
