/-
  RootNumber: both narrow the root of the 64-bit number.
-/
import Derived.Test.YtldaamgohdnjnaaExt
import Derived.Test.YtldaamgohdnjnaaFle
namespace Go.Proofs.Ytldaamgohdnjnaa
open Ieee Go.RowKit
set_option linter.unusedVariables false

@[go_sem] theorem run_sqrtX (a : Nat) (w : World) : (callFunc 182 #[.float .f64 a]).run Try.prog w = .ok (.value (.float .f64 (sqR a w))) (w.drewN (sqN a)) := by
  rw [run_callFunc_extern (e := Extern.MathSqrt.sqrt) Try.func182 (by kernel_rfl) (by kernel_rfl) (by kernel_rfl) (by kernel_rfl), run_sqR]; rfl

theorem implRoot_any (x : Nat) (w : World) : Calls Try.prog 146 #[.float .f32 x] w (RetF .f32 (root32 x) w) := by
  go_enter Try.func146, Try.ntmps146
  go_wp2
  go_ret
  exact ⟨_, _, cn_root x _ _ _, rfl, rfl⟩
theorem specRoot_any (x : Nat) (w : World) : Calls Try.prog 141 #[.float .f32 x] w (RetF .f32 (root32 x) w) := by
  go_enter Try.func141, Try.ntmps141
  go_wp2
  go_ret
  exact ⟨_, _, cn_root x _ _ _, rfl, rfl⟩
end Go.Proofs.Ytldaamgohdnjnaa
