import Derived.Test.YtogdolnmcfemfaaExt
import Derived.Below
namespace Go.Proofs.Ytogdolnmcfemfaa.fnExactBitsOf
open Go.RowKit Ieee
theorem walk (a0 : Nat) (w : World) (w0 : (Lit.float .f32 a0).wf = true) :
    Calls Try.prog 5 #[.float .f32 a0] w fun e w' => e = .returned (.bool true) ∧ Below w.heap.size w w' := by
  have ho := order_self .f32 a0
  have hb0 : a0 < 4294967296 := by simpa [Lit.wf] using w0
  clear w0
  cases h0 : isN .f32 a0 <;> simp only [h0, if_true, if_false, Bool.false_eq_true] at ho <;> clear h0
  all_goals
    go_enter Try.func5, Try.ntmps5
    go_wp2
    all_goals (go_ret; exact ⟨rfl, Below.refl _ _⟩)
end Go.Proofs.Ytogdolnmcfemfaa.fnExactBitsOf
