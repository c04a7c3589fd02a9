import Derived.Test.YtogdolnmcfemfabCAgt
import Derived.Test.YtogdolnmcfemfabSam
namespace Go.Proofs.Ytogdolnmcfemfab.fnExactAngleTurns
open Go.RowKit Ieee
set_option linter.unusedVariables false
theorem walk (a0 a1 : Nat) (w : World) (w0 : (Lit.float .f32 a0).wf = true) (w1 : (Lit.float .f32 a1).wf = true) :
    Calls Try.prog 6 #[.float .f32 a0, .float .f32 a1] w fun e w' => e = .returned (.bool true) ∧ Below w.heap.size w w' := by
  have hb0 : a0 < 4294967296 := by simpa [Lit.wf] using w0
  have hb1 : a1 < 4294967296 := by simpa [Lit.wf] using w1
  clear w0 w1
  go_enter Try.func6, Try.ntmps6
  go_wp2_with (first | (go_at_call 19; refine (implAngleTurns_any _ _ _ hb0 hb1).mono ?_; rintro e w' ⟨r, n, hr, rfl, rfl⟩; have Hr := Lib.hid hr; clear hr) | (go_at_call 36; refine (specAngleTurns_any _ _ _ hb0 hb1).mono ?_; rintro e w' ⟨q, m, hq, rfl, rfl⟩; have Hq := Lib.hid hq; clear hq) | (go_at_call 18; go_in) | (go_at_call 12; refine (sameFloat_true _ _ _ (by rw [cn_wideR, cn_wideR, Hr.out, Hq.out])).mono ?_; rintro e w' ⟨n, rfl, rfl⟩))
  all_goals (go_ret; exact ⟨rfl, below_drewN (Below.refl _ _) _⟩)
end Go.Proofs.Ytogdolnmcfemfab.fnExactAngleTurns
