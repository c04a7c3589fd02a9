/-
  Sums of the products of numbers and those a lag later, in the program.
-/
import Derived.Test.YtopgegciejmhaaaCDel
import Derived.Test.YtopgegciejmhaaaCBox
import Derived.Deep.QuietTactic
import Derived.BigQuiet
import Derived.Deep.RegionWith
namespace Go.Proofs.Ytopgegciejmhaaa
open Ieee Go.RowKit
set_option linter.unusedVariables false

set_option maxRecDepth 100000 in
theorem implDel_any (b off b' off' : Nat) (n cap cap' : Nat) (xs ys : List Nat) (p q : Nat) (lag : Int) (w : World) (h : FSl w (some ⟨b, off, none⟩) n xs) (h' : FSl w (some ⟨b', off', none⟩) n ys) (hn : n ≤ 96) (hcap : n ≤ cap) (hcap' : n ≤ cap') (hpq : p = 0 ∨ q = 0) (hp : p < n) (hq : q < n) (hl : lag = (q : Int) - p) :
    Calls Try.prog 129 #[.slice (some ⟨b, off, none⟩) n cap, .slice (some ⟨b', off', none⟩) n cap', .int .i64 lag] w (RetF .f32 (dly xs ys p q (n - p - q)) w) := by
  have H1 := Lib.hid (h.cut (i := p) (n := n - p - q) (by omega) (by omega))
  have H2 := Lib.hid (h'.cut (i := q) (n := n - p - q) (by omega) (by omega))
  have hv : wrap64 (-lag) = -lag := by unfold wrap64; omega
  have hm1 : (if 0 < lag then 0 else -lag) = (p : Int) := by split <;> omega
  have hm2 : (if lag < 0 then 0 else lag) = (q : Int) := by split <;> omega
  have HPQ := Lib.hid hpq
  clear h h' hpq hl
  have hd1 : decide (cap = p) = false := decide_eq_false (by omega)
  have hd2 : decide (cap' = q) = false := decide_eq_false (by omega)
  go_enter Try.func129, Try.ntmps129
  go_wp2_with fail
  go_region
  all_goals go_wp2_with fail
  · have hp0 : p = 0 := by have := HPQ.out; omega
    subst hp0
    have hx1 : n - q ≤ cap := by omega
    have hx2 : n - q ≤ cap' - q := by omega
    have hx3 : n - q ≤ n := by omega
    simp only [Nat.add_zero, Nat.sub_zero] at *
    clear h hm1 hm2 hv hd1 hd2 HPQ
    go_region_with (go_at_call 70; refine (implDotNumbers_any _ _ _ _ _ _ _ _ w.drew.drew H1.out H2.out (by omega) (by omega)).mono ?_; rw [dotOk_yes (by omega) rfl]; unfold dotV; rw [dotOk_yes (by omega) rfl, if_pos rfl, dly_part]; rintro e w' ⟨r, m, hr, rfl, rfl⟩)
    all_goals
      rename (cn .f32 _ = dly _ _ _ _ _) => hr
      have HR := Lib.hid hr
      clear hr
      go_wp2
      go_ret
      exact ⟨_, _, HR.out, rfl, rfl⟩
  · have hq0 : q = 0 := by have := HPQ.out; omega
    subst hq0
    have hx1 : n - p ≤ cap' := by omega
    have hx2 : n - p ≤ cap - p := by omega
    have hx3 : n - p ≤ n := by omega
    simp only [Nat.add_zero, Nat.sub_zero] at *
    clear h hm1 hm2 hv hd1 hd2 HPQ
    go_region_with (go_at_call 70; refine (implDotNumbers_any _ _ _ _ _ _ _ _ w.drew.drew H1.out H2.out (by omega) (by omega)).mono ?_; rw [dotOk_yes (by omega) rfl]; unfold dotV; rw [dotOk_yes (by omega) rfl, if_pos rfl, dly_part]; rintro e w' ⟨r, m, hr, rfl, rfl⟩)
    all_goals
      rename (cn .f32 _ = dly _ _ _ _ _) => hr
      have HR := Lib.hid hr
      clear hr
      go_wp2
      go_ret
      exact ⟨_, _, HR.out, rfl, rfl⟩
end Go.Proofs.Ytopgegciejmhaaa
