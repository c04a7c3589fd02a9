/-
  SameState of the model.
-/
import Derived.Test.YtdjlakjjgkhlmaaSmf
import Derived.Test.YtdjlakjjgkhlmaaSmt
import Derived.Test.YtdjlakjjgkhlmaaSmn
namespace Go.Proofs.Ytdjlakjjgkhlmaa
open Ieee Go.RowKit
set_option linter.unusedVariables false
theorem l04Same_any (p p' l s : Nat) (a : Option Addr) (len cap : Nat) (zs : List Nat) (t : Int) (l' s' : Nat) (a' : Option Addr) (len' cap' : Nat) (zs' : List Nat) (t' : Int) (w : World) (hp : StIn w p l s a len cap t) (hp' : StIn w p' l' s' a' len' cap' t') (h : FSl w a len zs) (h' : FSl w a' len' zs') (hm : len ≤ 1048576) (hm' : len' ≤ 1048576) :
    Calls Try.prog 78 #[.pointer (some ⟨p, 0, none⟩), .pointer (some ⟨p', 0, none⟩)] w fun e w' => e = .returned (.bool (smtB l s zs t l' s' zs' t')) ∧ Below w.heap.size w w' := by
  by_cases ht : t = t'
  · subst ht
    cases hl : smB l l' && smB s s'
    · have HB : smtB l s zs t l' s' zs' t = false := by unfold smtB; rw [← Bool.and_assoc (smB l l'), hl]; simp
      rw [HB]
      exact l04SameF_any _ _ _ _ _ _ _ zs _ _ _ _ _ _ zs' t _ hp hp' h h' hm hm' hl
    · have HB : smtB l s zs t l' s' zs' t = allB zs zs' := by unfold smtB; rw [← Bool.and_assoc (smB l l'), hl, decide_eq_true rfl]; rfl
      rw [HB]
      exact l04SameT_any _ _ _ _ _ _ _ zs _ _ _ _ _ _ zs' t _ hp hp' h h' hm hm' hl
  · rw [smt_0 ht]
    exact l04SameN_any _ _ _ _ _ _ _ zs _ _ _ _ _ _ zs' t' _ hp hp' h h' hm hm' ht
theorem spSmt_any (l s : Nat) (a : Option Addr) (len cap : Nat) (zs : List Nat) (t : Int) (l' s' : Nat) (a' : Option Addr) (len' cap' : Nat) (zs' : List Nat) (t' : Int) (w : World) (h : FSl w a len zs) (h' : FSl w a' len' zs') (hm : len ≤ 1048576) (hm' : len' ≤ 1048576) :
    Calls Try.prog 23 #[.agg #[.float .f32 l, .float .f32 s, .slice a len cap, .int .i64 t], .agg #[.float .f32 l', .float .f32 s', .slice a' len' cap', .int .i64 t']] w fun e w' => e = .returned (.bool (smtB l s zs t l' s' zs' t')) ∧ Below w.heap.size w w' := by
  have G := Lib.hid (((Below.refl w.heap.size w).alloc (Nat.le_refl _) (.cells #[.float .f32 l, .float .f32 s, .slice a len cap, .int .i64 t] 32)).alloc (by simp) (.cells #[.float .f32 l', .float .f32 s', .slice a' len' cap', .int .i64 t'] 32))
  have H := Lib.hid (FSl.below h G.out)
  have H' := Lib.hid (FSl.below h' G.out)
  have S1 := Lib.hid ((StIn.new w l s a len cap t 32).alloc (.cells #[.float .f32 l', .float .f32 s', .slice a' len' cap', .int .i64 t'] 32))
  have S2 := Lib.hid (show StIn _ (w.heap.size + 1) l' s' a' len' cap' t' from by simpa using StIn.new (w.alloc (.cells #[.float .f32 l, .float .f32 s, .slice a len cap, .int .i64 t] 32)) l' s' a' len' cap' t' 32)
  clear h h'
  go_enter Try.func23, Try.ntmps23
  go_wp2_with fail
  refine (l04Same_any _ _ _ _ _ _ _ _ _ _ _ _ _ _ _ _ _ S1.out S2.out H.out H'.out hm hm').mono ?_
  rintro e w1 ⟨rfl, b⟩
  have G2 := Lib.hid (G.out.trans (b.mono G.out.size))
  clear b
  go_wp2
  go_ret
  exact ⟨rfl, G2.out⟩
end Go.Proofs.Ytdjlakjjgkhlmaa
