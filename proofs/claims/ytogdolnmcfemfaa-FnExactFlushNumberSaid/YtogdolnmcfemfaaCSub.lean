/-
  Bits, and what is subnormal: the program's way and the model's.
-/
import Derived.Test.YtogdolnmcfemfaaCIsf
namespace Go.Proofs.Ytogdolnmcfemfaa
open Ieee Go.RowKit
set_option linter.unusedVariables false

/-- The bits that both tell. -/
def bitsOf (x : Nat) : Nat := cn .f32 x
theorem bitsOf_lt (x : Nat) (h : x < 4294967296) : bitsOf x < 4294967296 := by
  unfold bitsOf
  cases hn : isN .f32 x
  · rw [cn_num hn]; exact h
  · rw [cn_nan hn]; decide
def sub32 (x : Nat) : Bool := decide (0 < x % 2147483648 ∧ x % 2147483648 < 8388608)

theorem nan_rung (x : Nat) : isN .f32 x = decide (2139095040 < x % 2147483648) := by
  rw [isN_iff, show (FloatKind.format .f32).signWeight = 2147483648 from s_sign, show (FloatKind.format .f32).infRung = 2139095040 from s_inf]
theorem order_zero32 (x : Nat) : ((FloatKind.format .f32).order x 0 == some Ordering.eq) = decide (x % 2147483648 = 0) := by
  cases h : isN .f32 x
  · rw [order_all .f32 x 0 h (by decide +kernel)]
    unfold sr
    rw [show (FloatKind.format .f32).signWeight = 2147483648 from s_sign]
    generalize (x / 2147483648 % 2 == 1) = u
    generalize x % 2147483648 = r
    cases u <;> simp only [compare, compareOfLessAndEq, Bool.false_eq_true, if_false, if_true, Nat.zero_mod, Nat.zero_div] <;> by_cases h0 : r = 0 <;> simp [h0] <;> (repeat' split) <;> first | rfl | omega | simp
  · unfold Format.order
    rw [order_nan_left (show ((FloatKind.format .f32).read x).isNaN = true from h)]
    rw [nan_rung] at h
    have := of_decide_eq_true h
    rw [decide_eq_false (by omega)]; rfl
theorem order_min (x : Nat) (w : World) : ((FloatKind.format .f64).order (wideR x w % 9223372036854775808) 4039728865751334912 == some Ordering.lt) = decide (x % 2147483648 < 8388608) := by
  cases h : isN .f32 x
  · have e : wideR x w = awide x := by unfold wideR; rw [h]; rfl
    rw [e, order_abs _ _ (by omega) (by rw [isN_awide]; exact h) (by decide +kernel)]
    obtain ⟨_, _, h1, h2, h3, h4⟩ := awide_rung x h
    rw [nan_rung] at h
    have h := of_decide_eq_false h
    generalize x % 2147483648 = r at *
    generalize awide x % 9223372036854775808 = q at *
    by_cases a : r < 8388608
    · have : q < 4039728865751334912 := by
        by_cases b : r = 0
        · have := h2 b; omega
        · exact (h3 a (by omega)).2
      rw [decide_eq_true a]
      simp only [compare, compareOfLessAndEq]
      rw [if_pos (by omega)]; rfl
    · have : ¬ q < 4039728865751334912 := by
        by_cases b : r = 2139095040
        · have := h4 b; omega
        · have := h1 (by omega) (by omega); omega
      rw [decide_eq_false a]
      simp only [compare, compareOfLessAndEq]
      rw [if_neg (by omega)]; split <;> rfl
  · have hN : isN .f64 (wideR x w % 9223372036854775808) = true := by
      rw [abs_nan]
      have := isN_cn .f64 (wideR x w)
      rw [cn_wideR, awide_cn, isN_awide, h] at this
      exact this.symm
    unfold Format.order
    rw [order_nan_left hN]
    rw [nan_rung] at h
    have := of_decide_eq_true h
    rw [decide_eq_false (by omega)]; rfl

theorem implSub_any (x : Nat) (w : World) : Calls Try.prog 22 #[.float .f32 x] w (RetV (.bool (sub32 x)) w) := by
  have hz := order_zero32 x
  have hl := Lib.hid (fun w => wideR_lt x w)
  have hm := Lib.hid (fun w => order_min x w)
  have hs : sub32 x = (!decide (x % 2147483648 = 0) && decide (x % 2147483648 < 8388608)) := by
    unfold sub32
    by_cases a : x % 2147483648 = 0 <;> by_cases b : x % 2147483648 < 8388608 <;> simp [a, b] <;> omega
  by_cases a : x % 2147483648 = 0
  · rw [decide_eq_true a] at hz hs
    have hz := eq_of_beq hz
    have Hs := Lib.hid hs
    clear hs a
    go_enter Try.func22, Try.ntmps22
    go_wp2_with (go_at_call 34; refine (abs_any _ _ (hl.out _)).mono ?_; rintro e w' ⟨n, rfl, rfl⟩)
    go_ret
    exact ⟨0, congrArg (fun b => Ending.returned (Value.bool b)) Hs.out.symm, rfl⟩
  · rw [decide_eq_false a] at hz hs
    have hz : ((FloatKind.format .f32).order x 0 != some Ordering.eq) = true := by rw [bne, hz]; rfl
    have Hs := Lib.hid hs
    clear hs a
    go_enter Try.func22, Try.ntmps22
    go_wp2_with (go_at_call 34; refine (abs_any _ _ (hl.out _)).mono ?_; rintro e w' ⟨n, rfl, rfl⟩)
    go_ret
    exact ⟨_, congrArg (fun b => Ending.returned (Value.bool b)) ((hm.out _).trans Hs.out.symm), rfl⟩

theorem l01Bits_any (x : Nat) (w : World) (hx : x < 4294967296) : Calls Try.prog 28 #[.float .f32 x] w (RetV (.int .i64 (bitsOf x)) w) := by
  have ho := order_self .f32 x
  have hb : bitsOf x = cn .f32 x := rfl
  cases h : isN .f32 x
  · simp only [h, if_false, Bool.false_eq_true] at ho
    rw [cn_num h] at hb
    have Hb := Lib.hid hb
    clear hb h
    go_enter Try.func28, Try.ntmps28
    go_wp2
    go_ret
    exact ⟨0, by rw [Hb.out]; rfl, rfl⟩
  · simp only [h, if_true] at ho
    rw [cn_nan h] at hb
    have Hb := Lib.hid hb
    clear hb h
    go_enter Try.func28, Try.ntmps28
    go_wp2
    go_ret
    exact ⟨0, by rw [Hb.out]; rfl, rfl⟩
theorem ofInt_i64 (a : Nat) (ha : a < 9223372036854775808) : (BitVec.ofInt 64 (a : Int)).toNat = a := by
  rw [BitVec.ofInt_natCast, BitVec.toNat_ofNat]; exact Nat.mod_eq_of_lt (by omega)
theorem i64_and_nat (a b : Nat) (ha : a < 9223372036854775808) (hb : b < 9223372036854775808) : bits .and .i64 (a : Int) (b : Int) = ((a &&& b : Nat) : Int) := by
  have hx : a &&& b < 2 ^ 63 := Nat.and_lt_two_pow _ (by omega)
  show IntKind.i64.wrap ((BitVec.ofInt 64 (a : Int) &&& BitVec.ofInt 64 (b : Int)).toNat : Int) = _
  rw [BitVec.toNat_and, ofInt_i64 a ha, ofInt_i64 b hb, IntKind.wrap_i64]
  omega
/-- The exponent's field. -/
theorem nat_exp (x : Nat) : x &&& 2139095040 = x / 8388608 % 256 * 8388608 := by
  apply Nat.eq_of_testBit_eq
  intro i
  rw [show (2139095040 : Nat) = 255 * 2 ^ 23 by decide, show (8388608 : Nat) = 2 ^ 23 by decide, show (256 : Nat) = 2 ^ 8 by decide, show (255 : Nat) = 2 ^ 8 - 1 by decide]
  rw [Nat.testBit_and, Nat.testBit_mul_two_pow, Nat.testBit_mul_two_pow, Nat.testBit_two_pow_sub_one, Nat.testBit_mod_two_pow, Nat.testBit_div_two_pow]
  by_cases h : 23 ≤ i
  · rw [show i - 23 + 23 = i by omega]
    cases hx : x.testBit i <;> simp [h]
  · simp [h]
theorem exp_zero (x : Nat) (hx : x < 4294967296) : bits .and .i64 (bitsOf x : Int) 2139095040 = ((bitsOf x / 8388608 % 256 * 8388608 : Nat) : Int) := by
  have := bitsOf_lt x hx
  rw [show (2139095040 : Int) = ((2139095040 : Nat) : Int) from rfl, i64_and_nat _ _ (by omega) (by omega), nat_exp]
theorem exp_sub (x : Nat) (hx : x < 4294967296) : (((bitsOf x / 8388608 % 256 * 8388608 : Nat) : Int) == 0) = decide (x % 2147483648 < 8388608) := by
  unfold bitsOf
  cases h : isN .f32 x
  · rw [cn_num h]
    by_cases a : x % 2147483648 < 8388608
    · rw [decide_eq_true a, beq_iff_eq]; omega
    · rw [decide_eq_false a, beq_eq_false_iff_ne]; omega
  · rw [cn_nan h]
    rw [nan_rung] at h
    have := of_decide_eq_true h
    rw [decide_eq_false (by omega)]; decide
end Go.Proofs.Ytogdolnmcfemfaa
