/-
  All numbers less another one, in the model.
-/
import Derived.Test.YtopgegciejmhaaaChecked
import Derived.Test.YtopgegciejmhaaaVcp
import Derived.Test.YtopgegciejmhaaaFow
namespace Go.Proofs.Ytopgegciejmhaaa
open Ieee Go.RowKit
set_option linter.unusedVariables false

theorem Try.infoR : (Try.prog.info? 33).map (fun i => (i.zero, i.size, i.bytes)) = some (some (.float .f32 0), 1, 4) := by kernel_rfl
theorem one_new {w : World} {B : Nat} {u : Value} {t : TypeId} (hB : B = w.heap.size) : ∀ (j : Nat) (x : Value), [u][j]? = some x → (w.alloc (.cells #[u] t)).cell? ((⟨B, 0, none⟩ : Addr).add j) = some x := by
  intro j x hj
  match j, hj with
  | 0, hj =>
    simp at hj
    subst hj hB
    rw [Go.WideShapes.add_plain, World.cell?_alloc_at _ _ _ _ rfl]
    rfl
def less32 (zs : List Nat) (m : Nat) : List Nat := zs.map fun z => aop .sub .f32 (cn .f32 z) m
theorem less_snoc {zs : List Nat} {k m : Nat} (h : k < zs.length) : less32 (zs.take (k + 1)) m = less32 (zs.take k) m ++ [aop .sub .f32 (cn .f32 (zs.getD k 0)) m] := by
  rw [list_snoc h]; unfold less32; rw [List.map_append]; rfl
theorem less_len (zs : List Nat) (m : Nat) : (less32 zs m).length = zs.length := List.length_map ..

end Go.Proofs.Ytopgegciejmhaaa
