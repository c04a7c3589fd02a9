/-
  States: the law's copies with a name for their place.
-/
import Derived.Test.YtdjlakjjgkhlmaaStl
import Derived.Test.YtdjlakjjgkhlmaaCis
namespace Go.Proofs.Ytdjlakjjgkhlmaa
open Ieee Go.RowKit
set_option linter.unusedVariables false
theorem toStE_any (l s : Nat) (a : Option Addr) (len cap : Nat) (zs : List Nat) (t : Int) (w : World) (h : FSl w a len zs) (hm : len ≤ 1048576) :
    Calls Try.prog 24 #[.agg #[.float .f32 l, .float .f32 s, .slice a len cap, .int .i64 t]] w fun e w' => ∃ A b, e = .returned (.agg #[.float .f32 l, .float .f32 s, .slice A len len, .int .i64 t]) ∧ Held w' A b len zs ∧ Below w.heap.size w w' :=
  (toSt_any l s a len cap zs t w h hm).mono fun _ _ ⟨h1, h2, h3, _⟩ => ⟨_, _, h1, h2, h3⟩
theorem szSt_no0 (l s : Nat) (a : Option Addr) (len cap : Nat) (t : Int) (n : Nat) (w : World) (hn : n ≤ 1048576) (hm : n < len) (hx : len ≤ maxLen) :
    Calls Try.prog 22 #[.agg #[.float .f32 l, .float .f32 s, .slice a len cap, .int .i64 t], .int .i64 n] w fun e w' => e = .returned (.int .i64 (-1)) ∧ Below w.heap.size w w' := szSt_no l s a len cap t n w hn hm hx
theorem eqStE_any (l s : Nat) (a a' : Option Addr) (len cap cap' : Nat) (zs : List Nat) (t : Int) (w : World) (h : FSl w a len zs) (h' : FSl w a' len zs) (hm : len ≤ 1048576) :
    Calls Try.prog 26 #[.agg #[.float .f32 l, .float .f32 s, .slice a len cap, .int .i64 t], .agg #[.float .f32 l, .float .f32 s, .slice a' len cap', .int .i64 t]] w fun e w' => e = .returned (.bool true) ∧ Below w.heap.size w w' :=
  eqSt_any l s l s a a' len cap cap' zs zs t w rfl rfl h h' hm (fun _ _ => rfl)
end Go.Proofs.Ytdjlakjjgkhlmaa
