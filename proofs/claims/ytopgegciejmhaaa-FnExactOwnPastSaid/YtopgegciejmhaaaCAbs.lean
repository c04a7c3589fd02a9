/-
  math.Abs, math.IsNaN, math.IsInf(x, 0): what they give.
-/
import Derived.Test.YtopgegciejmhaaaExt
import Derived.Test.YtopgegciejmhaaaFlr
import Derived.Test.YtopgegciejmhaaaFlv
import Derived.Below
import Derived.Laws.BitsAllLaws
namespace Go.Proofs.Ytopgegciejmhaaa
open Ieee Go.RowKit
set_option linter.unusedVariables false

theorem andNot_sign (y : Nat) (hy : y < 18446744073709551616) : bits .andNot .u64 (y : Int) 9223372036854775808 = ((y % 9223372036854775808 : Nat) : Int) := by
  rw [show (9223372036854775808 : Int) = ((9223372036854775808 : Nat) : Int) from rfl, u64_andNot_nat y _ hy (by omega)]
  rw [show 18446744073709551615 - 9223372036854775808 = 2 ^ 63 - 1 by omega, Nat.and_two_pow_sub_one_eq_mod]

theorem abs_any (y : Nat) (w : World) (hy : y < 18446744073709551616) :
    Calls Try.prog 186 #[.float .f64 y] w (RetV (.float .f64 (y % 9223372036854775808)) w) := by
  have H := andNot_sign y hy
  go_enter Try.func186, Try.ntmps186
  go_wp2
  go_ret
  exact ⟨0, rfl, rfl⟩

/-- The order of the magnitude of a 64-bit word against a number without a sign. -/
theorem order_abs (y c : Nat) (hc : c < 9223372036854775808) (hy : isN .f64 y = false) (hn : isN .f64 c = false) :
    (FloatKind.format .f64).order (y % 9223372036854775808) c = some (compare (((y % 9223372036854775808 : Nat) : Int)) ((c : Nat) : Int)) := by
  have e1 : isN .f64 (y % 9223372036854775808) = false := by
    rw [isN_iff] at hy ⊢
    have h := of_decide_eq_false hy
    rw [show (FloatKind.format .f64).signWeight = 9223372036854775808 from d_sign] at h ⊢
    exact decide_eq_false (by omega)
  rw [order_all .f64 _ _ e1 hn]
  unfold sr
  rw [show (FloatKind.format .f64).signWeight = 9223372036854775808 from d_sign]
  have a1 : (y % 9223372036854775808 / 9223372036854775808 % 2 == 1) = false := by rw [beq_eq_false_iff_ne]; omega
  have a2 : (c / 9223372036854775808 % 2 == 1) = false := by rw [beq_eq_false_iff_ne]; omega
  rw [a1, a2, if_neg (by simp), if_neg (by simp), Nat.mod_mod, Nat.mod_eq_of_lt hc]

theorem abs_nan (y : Nat) : isN .f64 (y % 9223372036854775808) = isN .f64 y := by
  rw [isN_iff, isN_iff, show (FloatKind.format .f64).signWeight = 9223372036854775808 from d_sign, Nat.mod_mod]
theorem isN_max : isN .f64 9218868437227405311 = false := by decide +kernel

theorem isInf_any (y : Nat) (w : World) (hy : y < 18446744073709551616) :
    Calls Try.prog 182 #[.float .f64 y, .int .i64 0] w (RetV (.bool (isI .f64 y)) w) := by
  have H : ((FloatKind.format .f64).order (y % 9223372036854775808) 9218868437227405311 == some Ordering.gt) = isI .f64 y := by
    cases h : isN .f64 y
    · rw [order_abs y _ (by omega) h isN_max, isI_iff]
      rw [isN_iff] at h
      have h := of_decide_eq_false h
      rw [show (FloatKind.format .f64).signWeight = 9223372036854775808 from d_sign, show (FloatKind.format .f64).infRung = 9218868437227405312 from d_inf] at h ⊢
      generalize y % 9223372036854775808 = r at *
      by_cases e : r = 9218868437227405312
      · subst e; decide
      · rw [decide_eq_false e]
        simp only [compare, compareOfLessAndEq]
        split
        · rfl
        · split
          · rfl
          · omega
    · have hi : isI .f64 y = false := by
        rw [isN_iff] at h; have h := of_decide_eq_true h
        rw [isI_iff]; exact decide_eq_false (by omega)
      rw [hi]
      unfold Format.order
      rw [order_nan_left (by have := abs_nan y; rw [h] at this; exact this)]
      rfl
  have HH := Lib.hid H
  clear H
  go_enter Try.func182, Try.ntmps182
  go_wp2_with (go_at_call 186; refine (abs_any _ _ hy).mono ?_; rintro e w' ⟨n, rfl, rfl⟩)
  go_ret
  exact ⟨n, congrArg (fun b => Ending.returned (Value.bool b)) HH.out, rfl⟩
theorem isNaN_any (y : Nat) (w : World) : Calls Try.prog 179 #[.float .f64 y] w (RetV (.bool (isN .f64 y)) w) := by
  have ho := order_self .f64 y
  cases h : isN .f64 y <;> simp only [h, if_true, if_false, Bool.false_eq_true] at ho <;> clear h
  all_goals
    go_enter Try.func179, Try.ntmps179
    go_wp2
    go_ret
    exact ⟨0, rfl, rfl⟩
end Go.Proofs.Ytopgegciejmhaaa
