/-
  PastAhead, in both packages: the functions themselves.
-/
import Derived.Test.YtldaamgohdnjnaaPah
namespace Go.Proofs.Ytldaamgohdnjnaa
open Ieee Go.RowKit
set_option linter.unusedVariables false
def PApt (v v' : Value) : Prop := ∀ b, v.ownBlock = some b → v'.ownBlock ≠ some b
theorem PApt.symm {u v : Value} (h : PApt u v) : PApt v u := fun b e0 e1 => h b e1 e0
theorem pa_grown {T : TypeId} {B : Nat} {wy w1 : World} {v : Value} {rs : List Nat} {row : Option Nat} (h : FOwn T B wy v rs) (hg : wy.grownBy w1 row) (hne : ∀ b, v.ownBlock = some b → some b ≠ row) : FOwn T B w1 v rs := by
  refine ⟨h.1, ?_⟩
  have hl := h.lt
  rcases h.2 with h2 | ⟨g, cap, cur, rfl, h3, h4, h5⟩
  · exact .inl h2
  · exact .inr ⟨g, cap, cur, rfl, h3, by rw [hg.block g (hl g rfl).2 (hne g rfl)]; exact h4, h5⟩
theorem papt_grown {T : TypeId} {B : Nat} {w : World} {v v' u : Value} {rs : List Nat} (h : PApt u v) (hu : FOwn T B w u rs) (hat : v'.ownBlock = v.ownBlock ∨ v'.ownBlock = some (w.heap.size + 1)) : PApt u v' := fun b e0 e1 => by
  rcases hat with h2 | h2
  · exact h b e0 (h2 ▸ e1)
  · have h3 := (hu.lt b e0).2
    rw [h2] at e1
    have h4 := Option.some.inj e1
    omega
end Go.Proofs.Ytldaamgohdnjnaa
