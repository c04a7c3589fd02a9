import Derived.Test.YtogdolnmcfemfaaExt
import Derived.Below
namespace Go.Proofs.Ytogdolnmcfemfaa.fnExactSameNumber
open Go.RowKit Ieee
theorem walk (a0 a1 : Nat) (w : World) (w0 : (Lit.float .f32 a0).wf = true) (w1 : (Lit.float .f32 a1).wf = true) :
    Calls Try.prog 3 #[.float .f32 a0, .float .f32 a1] w fun e w' => e = .returned (.bool true) ∧ Below w.heap.size w w' := by
  have ho := order_self .f32 a0
  have ho1 := order_self .f32 a1
  have hb0 : a0 < 4294967296 := by simpa [Lit.wf] using w0
  have hb1 : a1 < 4294967296 := by simpa [Lit.wf] using w1
  clear w0 w1
  cases h0 : isN .f32 a0 <;> cases h1 : isN .f32 a1 <;> simp only [h0, h1, if_true, if_false, Bool.false_eq_true] at ho ho1 <;> clear h0 h1
  all_goals
    go_enter Try.func3, Try.ntmps3
    go_wp2
    all_goals (go_ret; exact ⟨rfl, Below.refl _ _⟩)
end Go.Proofs.Ytogdolnmcfemfaa.fnExactSameNumber
