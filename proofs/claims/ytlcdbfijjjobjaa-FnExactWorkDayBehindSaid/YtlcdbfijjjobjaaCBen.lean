/-
  WorkDayBehind, in both packages: where there is none to be asked for.
-/
import Derived.Test.YtlcdbfijjjobjaaCBew
namespace Go.Proofs.Ytlcdbfijjjobjaa
open Go.RowKit
set_option linter.unusedVariables false

def RetIV (x : Int) (ok : Bool) (w : World) (e : Ending) (w' : World) : Prop := ∃ n, e = RetI x ok ∧ w.drewN n = w'
theorem specBeh_no (n0 c : Int) (a : Option Addr) (len cap : Nat) (zs : List Int) (w : World) (h : ISl w a len zs) (hm : len ≤ 1048576) (hb : behB zs n0 c = false) :
    Calls Try.prog 35 #[.int .i64 n0, .int .i64 c, .slice a len cap] w (RetIV 0 false w) := by
  have H := Lib.hid h
  clear h
  cases hd : dayB n0
  · have HD := Lib.hid hd
    clear hd hb
    go_enter Try.func35, Try.ntmps35
    go_wp2_with (go_at_call 51; refine (specIsDay_any _ _).mono ?_; rw [HD.out]; rintro e w' ⟨rfl, rfl⟩)
    go_ret2
    exact ⟨0, rfl, rfl⟩
  · have HD := Lib.hid hd
    by_cases hc : 1 ≤ c ∧ c ≤ 1000
    · have HZ := Lib.hid (show feaB zs = false by unfold behB at hb; rw [hd, decide_eq_true hc] at hb; exact hb)
      obtain ⟨c1, c2⟩ := hc
      have g1 : decide (c < 1) = false := decide_eq_false (by omega)
      have g2 : decide (1000 < c) = false := decide_eq_false (by omega)
      clear hd hb
      go_enter Try.func35, Try.ntmps35
      go_wp2_with fail
      refine (specIsDay_any _ _).mono ?_
      rw [HD.out]
      rintro e w' ⟨rfl, rfl⟩
      go_wp2_with fail
      refine (in_yes _ _ _ _ c1 c2).mono ?_
      rintro e w' ⟨rfl, rfl⟩
      go_wp2_with fail
      refine (specFea_any _ _ _ _ _ H.out hm).mono ?_
      rw [HZ.out]
      rintro e w' ⟨m, rfl, rfl⟩
      go_wp2
      go_ret2
      exact ⟨m, rfl, rfl⟩
    · have hc' : c < 1 ∨ 1000 < c := by omega
      clear hd hb hc
      go_enter Try.func35, Try.ntmps35
      go_wp2_with fail
      refine (specIsDay_any _ _).mono ?_
      rw [HD.out]
      rintro e w' ⟨rfl, rfl⟩
      go_wp2_with fail
      refine (in_no _ _ _ _ hc').mono ?_
      rintro e w' ⟨rfl, rfl⟩
      go_wp2
      go_ret2
      exact ⟨0, rfl, rfl⟩
theorem implBeh_no (n0 c : Int) (a : Option Addr) (len cap : Nat) (zs : List Int) (w : World) (h : ISl w a len zs) (hm : len ≤ 1048576) (hb : behB zs n0 c = false) :
    Calls Try.prog 36 #[.int .i64 n0, .int .i64 c, .slice a len cap] w (RetIV 0 false w) := by
  have H := Lib.hid h
  clear h
  cases hd : dayB n0
  · have HD := Lib.hid hd
    clear hd hb
    go_enter Try.func36, Try.ntmps36
    go_wp2_with (go_at_call 53; refine (implIsDay_any _ _).mono ?_; rw [HD.out]; rintro e w' ⟨rfl, rfl⟩)
    go_ret2
    exact ⟨0, rfl, rfl⟩
  · have HD := Lib.hid hd
    by_cases hc : 1 ≤ c ∧ c ≤ 1000
    · have HZ := Lib.hid (show feaB zs = false by unfold behB at hb; rw [hd, decide_eq_true hc] at hb; exact hb)
      obtain ⟨c1, c2⟩ := hc
      have g1 : decide (c < 1) = false := decide_eq_false (by omega)
      have g2 : decide (1000 < c) = false := decide_eq_false (by omega)
      clear hd hb
      go_enter Try.func36, Try.ntmps36
      go_wp2_with fail
      refine (implIsDay_any _ _).mono ?_
      rw [HD.out]
      rintro e w' ⟨rfl, rfl⟩
      go_wp2_with fail
      refine (implFea_any _ _ _ _ _ H.out hm).mono ?_
      rw [HZ.out]
      rintro e w' ⟨m, rfl, rfl⟩
      go_wp2
      go_ret2
      exact ⟨m, rfl, rfl⟩
    · rcases (show c < 1 ∨ (1 ≤ c ∧ 1000 < c) by omega) with g | ⟨g, g'⟩
      · have g1 : decide (c < 1) = true := decide_eq_true g
        clear hd hb hc
        go_enter Try.func36, Try.ntmps36
        go_wp2_with (go_at_call 53; refine (implIsDay_any _ _).mono ?_; rw [HD.out]; rintro e w' ⟨rfl, rfl⟩)
        go_ret2
        exact ⟨0, rfl, rfl⟩
      · have g1 : decide (c < 1) = false := decide_eq_false (by omega)
        have g2 : decide (1000 < c) = true := decide_eq_true g'
        clear hd hb hc
        go_enter Try.func36, Try.ntmps36
        go_wp2_with (go_at_call 53; refine (implIsDay_any _ _).mono ?_; rw [HD.out]; rintro e w' ⟨rfl, rfl⟩)
        go_ret2
        exact ⟨0, rfl, rfl⟩
end Go.Proofs.Ytlcdbfijjjobjaa
