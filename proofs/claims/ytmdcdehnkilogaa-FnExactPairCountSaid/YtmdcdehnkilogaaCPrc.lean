/-
  PairCount, in both packages: plainly; two floats are compared (cmp.Compare).
-/
import Derived.Test.YtmdcdehnkilogaaCAre
import Derived.Test.YtmdcdehnkilogaaCPos
import Derived.Test.YtmdcdehnkilogaaCIn
import Derived.Deep.QuietTactic
import Derived.BigQuiet
namespace Go.Proofs.Ytmdcdehnkilogaa
open Ieee Go.RowKit
set_option linter.unusedVariables false

/-- How two numbers stand. -/
def sgF (x y : Nat) : Int := match (FloatKind.format .f32).order x y with
  | some .lt => -1
  | some .gt => 1
  | _ => 0
theorem sgF_bd (x y : Nat) : -1 ≤ sgF x y ∧ sgF x y ≤ 1 := by
  unfold sgF; split <;> omega
theorem sgF_lt {x y : Nat} (h : (FloatKind.format .f32).order x y = some .lt) : sgF x y = -1 := by unfold sgF; rw [h]
theorem sgF_eq {x y : Nat} (h : (FloatKind.format .f32).order x y = some .eq) : sgF x y = 0 := by unfold sgF; rw [h]
theorem sgF_gt {x y : Nat} (h : (FloatKind.format .f32).order x y = some .gt) : sgF x y = 1 := by unfold sgF; rw [h]
theorem prod_bd {p q : Int} (h1 : -1 ≤ p ∧ p ≤ 1) (h2 : -1 ≤ q ∧ q ≤ 1) : -1 ≤ p * q ∧ p * q ≤ 1 := by
  have : p = -1 ∨ p = 0 ∨ p = 1 := by omega
  rcases this with rfl | rfl | rfl <;> omega
/-- One pair. -/
def prC (xs ys : List Nat) (i k : Nat) : Int := sgF (xs.getD i 0) (xs.getD k 0) * sgF (ys.getD i 0) (ys.getD k 0)
theorem prC_bd (xs ys : List Nat) (i k : Nat) : -1 ≤ prC xs ys i k ∧ prC xs ys i k ≤ 1 := prod_bd (sgF_bd ..) (sgF_bd ..)
def prR (c : Nat → Nat → Int) (i : Nat) : Nat → Int
  | 0 => 0
  | m + 1 => prR c i m + c i m
def prL (c : Nat → Nat → Int) : Nat → Int
  | 0 => 0
  | n + 1 => prL c n + prR c n n
def prK (c : Nat → Nat → Int) (i : Nat) : Nat → Int
  | 0 => 0
  | m + 1 => prK c i m + c (i + 1 + m) i
def prU (c : Nat → Nat → Int) (N : Nat) : Nat → Int
  | 0 => 0
  | n + 1 => prU c N n + prK c n (N - 1 - n)
theorem prU_more (c : Nat → Nat → Int) (N : Nat) : ∀ n, n ≤ N → prU c (N + 1) n = prU c N n + prR c N n := by
  intro n
  induction n with
  | zero => intro _; rfl
  | succ n ih =>
    intro h
    show prU c (N + 1) n + prK c n (N + 1 - 1 - n) = prU c N n + prK c n (N - 1 - n) + (prR c N n + c N n)
    rw [ih (by omega), show N + 1 - 1 - n = (N - 1 - n) + 1 by omega]
    show prU c N n + prR c N n + (prK c n (N - 1 - n) + c (n + 1 + (N - 1 - n)) n) = _
    rw [show n + 1 + (N - 1 - n) = N by omega]
    omega
theorem prU_prL (c : Nat → Nat → Int) : ∀ N, prU c N N = prL c N := by
  intro N
  induction N with
  | zero => rfl
  | succ N ih =>
    show prU c (N + 1) N + prK c N (N + 1 - 1 - N) = prL c N + prR c N N
    rw [prU_more c N N (Nat.le_refl _), ih, show N + 1 - 1 - N = 0 by omega]
    show prL c N + prR c N N + 0 = _
    omega
section
variable {c : Nat → Nat → Int} (hc : ∀ i k, -1 ≤ c i k ∧ c i k ≤ 1)
include hc
theorem prR_bd (i m : Nat) : -(m : Int) ≤ prR c i m ∧ prR c i m ≤ m := by
  induction m with
  | zero => exact ⟨by show -(0 : Int) ≤ 0; omega, by show (0 : Int) ≤ 0; omega⟩
  | succ m ih => have := hc i m; show -((m + 1 : Nat) : Int) ≤ prR c i m + c i m ∧ prR c i m + c i m ≤ ((m + 1 : Nat) : Int); omega
theorem prK_bd (i m : Nat) : -(m : Int) ≤ prK c i m ∧ prK c i m ≤ m := by
  induction m with
  | zero => exact ⟨by show -(0 : Int) ≤ 0; omega, by show (0 : Int) ≤ 0; omega⟩
  | succ m ih => have := hc (i + 1 + m) i; show -((m + 1 : Nat) : Int) ≤ prK c i m + c (i + 1 + m) i ∧ prK c i m + c (i + 1 + m) i ≤ ((m + 1 : Nat) : Int); omega
theorem prL_bd {n : Nat} (h : n ≤ 96) : -(96 * (n : Int)) ≤ prL c n ∧ prL c n ≤ 96 * (n : Int) := by
  induction n with
  | zero => exact ⟨by show -(96 * (0 : Int)) ≤ 0; omega, by show (0 : Int) ≤ 96 * 0; omega⟩
  | succ n ih => have := ih (by omega); have := prR_bd hc n n; show -(96 * ((n + 1 : Nat) : Int)) ≤ prL c n + prR c n n ∧ prL c n + prR c n n ≤ 96 * ((n + 1 : Nat) : Int); omega
theorem prU_bd {N n : Nat} (hN : N ≤ 96) (h : n ≤ N) : -(96 * (n : Int)) ≤ prU c N n ∧ prU c N n ≤ 96 * (n : Int) := by
  induction n with
  | zero => exact ⟨by show -(96 * (0 : Int)) ≤ 0; omega, by show (0 : Int) ≤ 96 * 0; omega⟩
  | succ n ih => have := ih (by omega); have := prK_bd hc n (N - 1 - n); show -(96 * ((n + 1 : Nat) : Int)) ≤ prU c N n + prK c n (N - 1 - n) ∧ prU c N n + prK c n (N - 1 - n) ≤ 96 * ((n + 1 : Nat) : Int); omega
end
def prV (xs ys : List Nat) : Int := if pairB xs ys then prL (prC xs ys) xs.length else 0
theorem fin_noN {x : Nat} (h : fin .f32 x = true) : isN .f32 x = false := by
  unfold fin at h
  cases hn : isN .f32 x
  · rfl
  · rw [hn] at h; cases h
theorem isNaNc_any (x : Nat) (w : World) (hx : isN .f32 x = false) : Calls Try.prog 97 #[.float .f32 x] w fun e w' => e = .returned (.bool false) ∧ w = w' := by
  have ho := order_self .f32 x
  simp only [hx, if_false, Bool.false_eq_true] at ho
  go_enter Try.func97, Try.ntmps97
  go_wp2
  all_goals (go_ret; exact ⟨rfl, rfl⟩)
theorem cmpS_any (x y : Nat) (w : World) (hfx : fin .f32 x = true) (hfy : fin .f32 y = true) : Calls Try.prog 70 #[.float .f32 x, .float .f32 y] w (RetV (.int .i64 (sgF x y)) w) := by
  have hx := fin_noN hfx
  have hy := fin_noN hfy
  cases ho : (FloatKind.format .f32).order x y with
  | none => exact absurd ho (order_fin hfx hfy)
  | some o =>
    cases o
    · have hz := Lib.hid (sgF_lt ho)
      clear hfx hfy
      go_enter Try.func70, Try.ntmps70
      go_wp2_with fail
      refine (isNaNc_any x _ hx).mono ?_
      rintro e w' ⟨rfl, rfl⟩
      go_wp2_with fail
      refine (isNaNc_any y _ hy).mono ?_
      rintro e w' ⟨rfl, rfl⟩
      go_wp2
      go_ret
      exact ⟨0, by rw [hz.out]; rfl, rfl⟩
    · have hz := Lib.hid (sgF_eq ho)
      clear hfx hfy
      go_enter Try.func70, Try.ntmps70
      go_wp2_with fail
      refine (isNaNc_any x _ hx).mono ?_
      rintro e w' ⟨rfl, rfl⟩
      go_wp2_with fail
      refine (isNaNc_any y _ hy).mono ?_
      rintro e w' ⟨rfl, rfl⟩
      go_wp2
      go_ret
      exact ⟨0, by rw [hz.out]; rfl, rfl⟩
    · have hz := Lib.hid (sgF_gt ho)
      clear hfx hfy
      go_enter Try.func70, Try.ntmps70
      go_wp2_with fail
      refine (isNaNc_any x _ hx).mono ?_
      rintro e w' ⟨rfl, rfl⟩
      go_wp2_with fail
      refine (isNaNc_any y _ hy).mono ?_
      rintro e w' ⟨rfl, rfl⟩
      go_wp2
      go_ret
      exact ⟨0, by rw [hz.out]; rfl, rfl⟩
end Go.Proofs.Ytmdcdehnkilogaa
