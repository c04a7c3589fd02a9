/-
  States: the law's copies with a name for their place.
-/
import Derived.Test.YtcfejkkkleiejaaStl
import Derived.Test.YtcfejkkkleiejaaCis
namespace Go.Proofs.Ytcfejkkkleiejaa
open Ieee Go.RowKit
set_option linter.unusedVariables false
theorem eqStE_any (l s : Nat) (a a' : Option Addr) (len cap cap' : Nat) (zs : List Nat) (t : Int) (w : World) (h : FSl w a len zs) (h' : FSl w a' len zs) (hm : len ≤ 1048576) :
    Calls Try.prog 11 #[.agg #[.float .f32 l, .float .f32 s, .slice a len cap, .int .i64 t], .agg #[.float .f32 l, .float .f32 s, .slice a' len cap', .int .i64 t]] w fun e w' => e = .returned (.bool true) ∧ Below w.heap.size w w' :=
  eqSt_any l s l s a a' len cap cap' zs zs t w rfl rfl h h' hm (fun _ _ => rfl)
end Go.Proofs.Ytcfejkkkleiejaa
