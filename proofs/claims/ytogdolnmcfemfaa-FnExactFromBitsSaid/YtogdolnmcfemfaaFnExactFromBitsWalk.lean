import Derived.Test.YtogdolnmcfemfaaSam
namespace Go.Proofs.Ytogdolnmcfemfaa.fnExactFromBits
open Go.RowKit Ieee
set_option linter.unusedVariables false
theorem walk (a0 : Int) (w : World) (w0 : (Lit.int .i64 a0).wf = true) :
    Calls Try.prog 6 #[.int .i64 a0] w fun e w' => e = .returned (.bool true) ∧ Below w.heap.size w w' := by
  clear w0
  by_cases h0 : 0 ≤ a0
  · by_cases h1 : a0 ≤ 4294967295
    · go_enter Try.func6, Try.ntmps6
      go_wp2_with (first | (go_at_call 18; refine (sameFloat_true _ _ _ (by rw [cn_wideR, cn_wideR])).mono ?_; rintro e w' ⟨n, rfl, rfl⟩) | go_in)
      all_goals (go_ret; exact ⟨rfl, below_drewN (Below.refl _ _) _⟩)
    · go_enter Try.func6, Try.ntmps6
      go_wp2_with (first | (go_at_call 18; refine (sameFloat_true _ _ _ (by rw [cn_wideR, cn_wideR])).mono ?_; rintro e w' ⟨n, rfl, rfl⟩) | go_in)
      all_goals (go_ret; exact ⟨rfl, below_drewN (Below.refl _ _) _⟩)
  · go_enter Try.func6, Try.ntmps6
    go_wp2_with (first | (go_at_call 18; refine (sameFloat_true _ _ _ (by rw [cn_wideR, cn_wideR])).mono ?_; rintro e w' ⟨n, rfl, rfl⟩) | go_in)
    all_goals (go_ret; exact ⟨rfl, below_drewN (Below.refl _ _) _⟩)
end Go.Proofs.Ytogdolnmcfemfaa.fnExactFromBits
