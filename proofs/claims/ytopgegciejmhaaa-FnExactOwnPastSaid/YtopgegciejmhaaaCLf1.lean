/-
  A list, a number and a bool as results.
-/
import Derived.Test.YtopgegciejmhaaaCSwv
namespace Go.Proofs.Ytopgegciejmhaaa
open Ieee Go.RowKit
set_option linter.unusedVariables false

/-- A list, a number and a bool. -/
def RetL1F1 (T : TypeId) (xs : List Nat) (v : Nat) (ok : Bool) (w : World) (e : Ending) (w' : World) : Prop :=
  ∃ v0 r0 s, e = .returned (.tuple #[v0, .float .f32 s, .bool ok]) ∧ FOwn T w.heap.size w' v0 r0 ∧ cnl r0 = xs ∧ cn .f32 s = v ∧ Below w.heap.size w w'
theorem fail_l1f1 (T : TypeId) {xs : List Nat} {v : Nat} {ok : Bool} (hok : ok = false) (h0 : xs = []) (hv : v = 0) {w w' : World} (hb : Below w.heap.size w w') : RetL1F1 T xs v ok w (.returned (.tuple #[.slice none 0 0, .float .f32 0, .bool false])) w' :=
  ⟨_, [], 0, by rw [hok], FOwn.nil .., h0.symm, by rw [hv]; exact cn_zero, hb⟩
theorem RetL1F1.res {T : TypeId} {X0 x0 : List Nat} {y0 v : Nat} {ok : Bool} {w : World} {e : Ending} {w' : World} (h : RetL1F1 T X0 v ok w e w') (hx0 : X0 = x0) (hy0 : x0.length = y0) :
    ∃ A0 c0 d0 r0 s0, e = .returned (.tuple #[.slice A0 y0 c0, .float .f32 s0, .bool ok]) ∧ (Held w' A0 d0 y0 r0 ∧ cnl r0 = x0 ∧ w.heap.size ≤ d0) ∧ cn .f32 s0 = v ∧ Below w.heap.size w w' := by
  subst hx0
  obtain ⟨v0, r0, s0, rfl, o0, e0, hs, hb⟩ := h
  obtain ⟨A0, c0, d0, rfl, t0, q0, b0, f0⟩ := o0.resn (far := w'.heap.size) e0 hy0 hb.size
  exact ⟨A0, c0, d0, r0, s0, rfl, ⟨t0, e0, q0⟩, hs, hb⟩
end Go.Proofs.Ytopgegciejmhaaa
