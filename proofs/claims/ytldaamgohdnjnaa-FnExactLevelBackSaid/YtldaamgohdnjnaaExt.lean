/-
  The library's functions without a body that these walks call: what each call gives.
-/
import Derived.Test.YtldaamgohdnjnaaChecked
import Derived.Test.YtldaamgohdnjnaaFlo
import Derived.Laws.Externs
namespace Go.Proofs.Ytldaamgohdnjnaa
open Ieee Go.RowKit

@[go_sem] theorem run_f32bits (a : Nat) (w : World) : (callFunc 161 #[.float .f32 a]).run Try.prog w = .ok (.value (.int .u32 a)) w := by
  rw [run_callFunc_extern (e := Extern.MathFloatBits.float32bits) Try.func161 (by kernel_rfl) (by kernel_rfl) (by kernel_rfl) (by kernel_rfl)]; rfl
@[go_sem] theorem run_f64bits (a : Nat) (w : World) : (callFunc 190 #[.float .f64 a]).run Try.prog w = .ok (.value (.int .u64 a)) w := by
  rw [run_callFunc_extern (e := Extern.MathFloatBits.float64bits) Try.func190 (by kernel_rfl) (by kernel_rfl) (by kernel_rfl) (by kernel_rfl)]; rfl
@[go_sem] theorem run_f64from (a : Int) (w : World) : (callFunc 189 #[.int .u64 a]).run Try.prog w = .ok (.value (.float .f64 a.toNat)) w := by
  rw [run_callFunc_extern (e := Extern.MathFloatBits.float64frombits) Try.func189 (by kernel_rfl) (by kernel_rfl) (by kernel_rfl) (by kernel_rfl)]; rfl
end Go.Proofs.Ytldaamgohdnjnaa
