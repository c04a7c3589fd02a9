/-
  SameState of the model.
-/
import Derived.Test.YtdjlakjjgkhlmaaSmf1
import Derived.Test.YtdjlakjjgkhlmaaSmt1
import Derived.Test.YtdjlakjjgkhlmaaSmn1
namespace Go.Proofs.Ytdjlakjjgkhlmaa
open Ieee Go.RowKit
set_option linter.unusedVariables false
theorem l04Same1_any (p p' l s : Nat) (a : Option Addr) (len cap : Nat) (zs : List Nat) (t : Int) (l' s' : Nat) (a' : Option Addr) (len' cap' : Nat) (zs' : List Nat) (t' : Int) (w : World) (hp : St1 w p l s a len cap t) (hp' : St1 w p' l' s' a' len' cap' t') (h : FSl w a len zs) (h' : FSl w a' len' zs') (hm : len ≤ 1048576) (hm' : len' ≤ 1048576) :
    Calls Try.prog 78 #[.pointer (some ⟨p, 1, none⟩), .pointer (some ⟨p', 1, none⟩)] w fun e w' => e = .returned (.bool (smtB l s zs t l' s' zs' t')) ∧ Below w.heap.size w w' := by
  by_cases ht : t = t'
  · subst ht
    cases hl : smB l l' && smB s s'
    · have HB : smtB l s zs t l' s' zs' t = false := by unfold smtB; rw [← Bool.and_assoc (smB l l'), hl]; simp
      rw [HB]
      exact l04SameF1_any _ _ _ _ _ _ _ zs _ _ _ _ _ _ zs' t _ hp hp' h h' hm hm' hl
    · have HB : smtB l s zs t l' s' zs' t = allB zs zs' := by unfold smtB; rw [← Bool.and_assoc (smB l l'), hl, decide_eq_true rfl]; rfl
      rw [HB]
      exact l04SameT1_any _ _ _ _ _ _ _ zs _ _ _ _ _ _ zs' t _ hp hp' h h' hm hm' hl
  · rw [smt_0 ht]
    exact l04SameN1_any _ _ _ _ _ _ _ zs _ _ _ _ _ _ zs' t' _ hp hp' h h' hm hm' ht
end Go.Proofs.Ytdjlakjjgkhlmaa
