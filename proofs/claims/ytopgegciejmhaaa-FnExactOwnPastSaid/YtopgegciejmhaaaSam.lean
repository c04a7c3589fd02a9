/-
  'sameFloat' of the laws: of two words that are the same up to a not-a-number it is true.
-/
import Derived.Test.YtopgegciejmhaaaExt
import Derived.Test.YtopgegciejmhaaaFlr
import Derived.Below
namespace Go.Proofs.Ytopgegciejmhaaa
open Ieee Go.RowKit

theorem order_zero_quo (w1 w2 : World) (a b : Nat) (h : cn .f64 a = cn .f64 b) (z : Nat) : (FloatKind.format .f64).order (fopR .quo .f64 4607182418800017408 a w1) z = (FloatKind.format .f64).order (fopR .quo .f64 4607182418800017408 b w2) z :=
  order_left .f64 (by rw [cn_fopR, cn_fopR, h]) z

theorem sameFloat_true (a b : Nat) (w : World) (h : cn .f64 a = cn .f64 b) :
    Calls Try.prog 26 #[.float .f64 a, .float .f64 b] w (RetV (.bool true) w) := by
  have hN := isN_congr h
  have ho := order_self .f64 a
  have ho1 := order_self .f64 b
  cases h1 : isN .f64 a
  · rw [h1] at hN
    have hab : a = b := by rw [cn_num h1, cn_num hN.symm] at h; exact h
    subst hab
    simp only [h1, if_false, Bool.false_eq_true] at ho
    clear ho1 h hN h1
    go_enter Try.func26, Try.ntmps26
    go_wp2
    · go_ret
      exact ⟨_, congrArg (fun b => Ending.returned (Value.bool b)) (by rw [order_zero_quo w (w.drewN (fopN BinOp.quo FloatKind.f64 4607182418800017408 a)) a a rfl]; exact beq_self_eq_true _), rfl⟩
    · go_ret; exact ⟨0, rfl, rfl⟩
  · rw [h1] at hN
    simp only [h1, ← hN, if_true] at ho ho1
    clear h hN h1
    go_enter Try.func26, Try.ntmps26
    go_wp2
    all_goals (go_ret; exact ⟨0, rfl, rfl⟩)
end Go.Proofs.Ytopgegciejmhaaa
