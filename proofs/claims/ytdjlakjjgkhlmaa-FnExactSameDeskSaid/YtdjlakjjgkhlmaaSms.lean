/-
  The same state, in both packages.
-/
import Derived.Test.YtdjlakjjgkhlmaaEqu
import Derived.Test.YtdjlakjjgkhlmaaStl
import Derived.Test.YtdjlakjjgkhlmaaCis
import Derived.Test.YtdjlakjjgkhlmaaNum
import Derived.Deep.RegionHeld3
namespace Go.Proofs.Ytdjlakjjgkhlmaa
open Ieee Go.RowKit
set_option linter.unusedVariables false
/-- Two states are the same. -/
def smtB (l s : Nat) (zs : List Nat) (t : Int) (l' s' : Nat) (zs' : List Nat) (t' : Int) : Bool := decide (t = t') && (smB l l' && (smB s s' && allB zs zs'))
theorem smt_0 {l s l' s' : Nat} {zs zs' : List Nat} {t t' : Int} (h : t ≠ t') : smtB l s zs t l' s' zs' t' = false := by unfold smtB; rw [decide_eq_false h]; rfl
theorem smt_1 {l s l' s' : Nat} {zs zs' : List Nat} {t t' : Int} (h : smB l l' = false) : smtB l s zs t l' s' zs' t' = false := by unfold smtB; rw [h, Bool.false_and, Bool.and_false]
theorem smt_2 {l s l' s' : Nat} {zs zs' : List Nat} {t t' : Int} (h : smB s s' = false) : smtB l s zs t l' s' zs' t' = false := by unfold smtB; rw [h, Bool.false_and, Bool.and_false, Bool.and_false]
theorem smt_3 {l s l' s' : Nat} {zs zs' : List Nat} {t : Int} (h1 : smB l l' = true) (h2 : smB s s' = true) : smtB l s zs t l' s' zs' t = allB zs zs' := by unfold smtB; rw [h1, h2, decide_eq_true rfl]; rfl
set_option maxHeartbeats 1000000 in
theorem imSmt_any (l s : Nat) (a : Option Addr) (len cap : Nat) (zs : List Nat) (t : Int) (l' s' : Nat) (a' : Option Addr) (len' cap' : Nat) (zs' : List Nat) (t' : Int) (w : World) (h : FSl w a len zs) (h' : FSl w a' len' zs') (hm : len ≤ 1048576) (hm' : len' ≤ 1048576) :
    Calls Try.prog 25 #[.agg #[.float .f32 l, .float .f32 s, .slice a len cap, .int .i64 t], .agg #[.float .f32 l', .float .f32 s', .slice a' len' cap', .int .i64 t']] w fun e w' => e = .returned (.bool (smtB l s zs t l' s' zs' t')) ∧ Below w.heap.size w w' := by
  have G := Lib.hid (((Below.refl w.heap.size w).alloc (Nat.le_refl _) (.cells #[.float .f32 l, .float .f32 s, .slice a len cap, .int .i64 t] 32)).alloc (by simp) (.cells #[.float .f32 l', .float .f32 s', .slice a' len' cap', .int .i64 t'] 32))
  have H := Lib.hid (FSl.below h G.out)
  have H' := Lib.hid (FSl.below h' G.out)
  clear h h'
  by_cases ht : t = t'
  · subst ht
    cases hl : smB l l'
    · have HL := Lib.hid hl
      have HB := Lib.hid (smt_1 (s := s) (s' := s') (zs := zs) (zs' := zs') (t := t) (t' := t) hl)
      clear hl
      go_enter Try.func25, Try.ntmps25
      go_wp2_with fail
      refine (imSame_any _ _ _).mono ?_
      rw [HL.out]
      rintro e w' ⟨rfl, rfl⟩
      go_wp2_with fail
      go_ret
      exact ⟨by rw [HB.out]; rfl, G.out⟩
    · have HL := Lib.hid hl
      clear hl
      cases hs : smB s s'
      · have HS := Lib.hid hs
        have HB := Lib.hid (smt_2 (l := l) (l' := l') (zs := zs) (zs' := zs') (t := t) (t' := t) hs)
        clear hs
        go_enter Try.func25, Try.ntmps25
        go_wp2_with fail
        refine (imSame_any _ _ _).mono ?_
        rw [HL.out]
        rintro e w' ⟨rfl, rfl⟩
        go_wp2_with fail
        refine (imSame_any _ _ _).mono ?_
        rw [HS.out]
        rintro e w' ⟨rfl, rfl⟩
        go_wp2_with fail
        go_ret
        exact ⟨by rw [HB.out]; rfl, G.out⟩
      · have HS := Lib.hid hs
        have HB := Lib.hid (smt_3 (zs := zs) (zs' := zs') (t := t) HL.out hs)
        clear hs
        go_enter Try.func25, Try.ntmps25
        go_wp2_with fail
        refine (imSame_any _ _ _).mono ?_
        rw [HL.out]
        rintro e w' ⟨rfl, rfl⟩
        go_wp2_with fail
        refine (imSame_any _ _ _).mono ?_
        rw [HS.out]
        rintro e w' ⟨rfl, rfl⟩
        go_wp2_with fail
        refine (imEql_any _ _ _ _ _ _ _ _ _ H.out H'.out hm hm').mono ?_
        rintro e w' ⟨rfl, rfl⟩
        go_wp2
        go_ret
        exact ⟨by rw [HB.out]; rfl, G.out⟩
  · have HB := Lib.hid (smt_0 (l := l) (s := s) (l' := l') (s' := s') (zs := zs) (zs' := zs') ht)
    have hd : (t == t') = false := by rw [beq_eq_false_iff_ne]; exact ht
    clear ht
    go_enter Try.func25, Try.ntmps25
    go_wp2
    go_ret
    exact ⟨by rw [HB.out]; rfl, G.out⟩
end Go.Proofs.Ytdjlakjjgkhlmaa
