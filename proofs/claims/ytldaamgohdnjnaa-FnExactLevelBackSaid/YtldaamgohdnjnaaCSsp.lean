/-
  The model's sine, and SineTurns on both sides.
-/
import Derived.Test.YtldaamgohdnjnaaCSin
import Derived.Test.YtldaamgohdnjnaaCIsf
namespace Go.Proofs.Ytldaamgohdnjnaa
open Ieee Go.RowKit
set_option linter.unusedVariables false

def bigW : Nat := 4841369599423283200
theorem nan_rung64 (x : Nat) : isN .f64 x = decide (9218868437227405312 < x % 9223372036854775808) := by
  rw [isN_iff, show (FloatKind.format .f64).signWeight = 9223372036854775808 from d_sign, show (FloatKind.format .f64).infRung = 9218868437227405312 from d_inf]
theorem fin_f64 (x : Nat) : fin .f64 x = decide (x % 9223372036854775808 < 9218868437227405312) := by
  unfold fin
  rw [nan_rung64, isI_iff, show (FloatKind.format .f64).signWeight = 9223372036854775808 from d_sign, show (FloatKind.format .f64).infRung = 9218868437227405312 from d_inf]
  by_cases h : x % 9223372036854775808 < 9218868437227405312
  · rw [decide_eq_true h, decide_eq_false (by omega), decide_eq_false (by omega)]; rfl
  · rw [decide_eq_false h]
    by_cases h2 : x % 9223372036854775808 = 9218868437227405312
    · rw [decide_eq_true h2]; simp
    · rw [decide_eq_true (by omega)]; rfl
theorem order64 (x y : Nat) (hx : isN .f64 x = false) (hy : isN .f64 y = false) :
    (FloatKind.format .f64).order x y = some (compare (if x / 9223372036854775808 % 2 = 1 then -((x % 9223372036854775808 : Nat) : Int) else ((x % 9223372036854775808 : Nat) : Int)) (if y / 9223372036854775808 % 2 = 1 then -((y % 9223372036854775808 : Nat) : Int) else ((y % 9223372036854775808 : Nat) : Int))) := by
  rw [order_all .f64 x y hx hy]
  unfold sr
  rw [show (FloatKind.format .f64).signWeight = 9223372036854775808 from d_sign]
  simp only [beq_iff_eq]
theorem cmp_gt (a b : Int) : ((some (compare a b) == some Ordering.gt) || (some (compare a b) == some Ordering.eq)) = decide (b ≤ a) := by
  simp only [compare, compareOfLessAndEq]
  by_cases h : a < b
  · rw [if_pos h, decide_eq_false (by omega)]; rfl
  · rw [if_neg h, decide_eq_true (by omega)]; split <;> rfl
theorem cmp_lt (a b : Int) : ((some (compare a b) == some Ordering.lt) || (some (compare a b) == some Ordering.eq)) = decide (a ≤ b) := by
  simp only [compare, compareOfLessAndEq]
  by_cases h : a < b
  · rw [if_pos h, decide_eq_true (by omega)]; rfl
  · rw [if_neg h]
    by_cases h2 : a = b
    · rw [if_pos h2, decide_eq_true (by omega)]; rfl
    · rw [if_neg h2, decide_eq_false (by omega)]; rfl
theorem big_pos (y : Nat) (h : isN .f64 y = false) : (((FloatKind.format .f64).order y 4841369599423283200 == some Ordering.gt) || ((FloatKind.format .f64).order y 4841369599423283200 == some Ordering.eq)) = decide (y / 9223372036854775808 % 2 = 0 ∧ bigW ≤ y % 9223372036854775808) := by
  rw [order64 y _ h (by decide +kernel), cmp_gt]
  unfold bigW
  rw [decide_eq_decide]
  have : y / 9223372036854775808 % 2 = 0 ∨ y / 9223372036854775808 % 2 = 1 := by omega
  generalize y / 9223372036854775808 % 2 = q at *
  generalize y % 9223372036854775808 = r at *
  rcases this with rfl | rfl <;> simp <;> omega
theorem big_neg (y : Nat) (h : isN .f64 y = false) : (((FloatKind.format .f64).order y 14064741636278059008 == some Ordering.lt) || ((FloatKind.format .f64).order y 14064741636278059008 == some Ordering.eq)) = decide (y / 9223372036854775808 % 2 = 1 ∧ bigW ≤ y % 9223372036854775808) := by
  rw [order64 y _ h (by decide +kernel), cmp_lt]
  unfold bigW
  rw [decide_eq_decide]
  have : y / 9223372036854775808 % 2 = 0 ∨ y / 9223372036854775808 % 2 = 1 := by omega
  generalize y / 9223372036854775808 % 2 = q at *
  generalize y % 9223372036854775808 = r at *
  rcases this with rfl | rfl <;> simp <;> omega
theorem big_abs (y : Nat) (h : isN .f64 y = false) : (((FloatKind.format .f64).order (y % 9223372036854775808) 4841369599423283200 == some Ordering.gt) || ((FloatKind.format .f64).order (y % 9223372036854775808) 4841369599423283200 == some Ordering.eq)) = decide (bigW ≤ y % 9223372036854775808) := by
  rw [order_abs y _ (by omega) h (by decide +kernel), cmp_gt]
  unfold bigW
  rw [decide_eq_decide]
  omega
theorem small_bd {y : Nat} (h : ¬ bigW ≤ y % 9223372036854775808) : bd y 52 := by
  unfold bigW at h
  refine ⟨by omega, by omega, ?_⟩
  show _ ≤ 1075 * 4503599627370496
  omega

/-- Where the number is small. -/
def le2 (x : Nat) : Prop := (((FloatKind.format .f64).order x 4841369599423283200 == some Ordering.gt) || ((FloatKind.format .f64).order x 4841369599423283200 == some Ordering.eq)) = false ∧ (((FloatKind.format .f64).order x 14064741636278059008 == some Ordering.lt) || ((FloatKind.format .f64).order x 14064741636278059008 == some Ordering.eq)) = false
/-- The sine of a 64-bit number of turns. -/
def sineV (y : Nat) : Nat := if fin .f64 y then (if bigW ≤ y % 9223372036854775808 then 0 else sineF (tpart y)) else nanOf .f64
end Go.Proofs.Ytldaamgohdnjnaa
