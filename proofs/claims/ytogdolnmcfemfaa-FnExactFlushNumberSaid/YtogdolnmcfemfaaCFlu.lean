/-
  impl.FlushNumber and spec.l01Flush: a zero of the same sign for what is subnormal.
-/
import Derived.Test.YtogdolnmcfemfaaCSub
import Derived.Test.YtogdolnmcfemfaaFnr
namespace Go.Proofs.Ytogdolnmcfemfaa
open Ieee Go.RowKit
set_option linter.unusedVariables false

def flush32 (x : Nat) : Nat := if x % 2147483648 < 8388608 then x / 2147483648 % 2 * 2147483648 else cn .f32 x

theorem and_sign (y : Nat) (hy : y < 18446744073709551616) : bits .and .u64 (y : Int) 9223372036854775808 = ((y / 9223372036854775808 % 2 * 9223372036854775808 : Nat) : Int) := by
  rw [show (9223372036854775808 : Int) = ((9223372036854775808 : Nat) : Int) from rfl, u64_and_nat y _ hy (by omega)]
  have := nat_bit 63 y
  rw [show (2 : Nat) ^ 63 = 9223372036854775808 by decide] at this
  rw [this]
theorem copysign_zero (y : Nat) (w : World) (hy : y < 18446744073709551616) :
    Calls Try.prog 36 #[.float .f64 0, .float .f64 y] w (RetV (.float .f64 (y / 9223372036854775808 % 2 * 9223372036854775808)) w) := by
  have h1 := and_sign y hy
  have h2 : bits .andNot .u64 0 9223372036854775808 = 0 := by decide +kernel
  have h3 : bits .or .u64 0 ((y / 9223372036854775808 % 2 * 9223372036854775808 : Nat) : Int) = ((y / 9223372036854775808 % 2 * 9223372036854775808 : Nat) : Int) := by
    rw [show (0 : Int) = ((0 : Nat) : Int) from rfl, u64_or_nat 0 _ (by omega) (by omega), Nat.zero_or]
  generalize hz : y / 9223372036854775808 % 2 * 9223372036854775808 = z at *
  clear hz
  go_enter Try.func36, Try.ntmps36
  go_wp2
  go_ret
  exact ⟨0, rfl, rfl⟩

theorem implFlush_any (x : Nat) (w : World) (hx : x < 4294967296) : Calls Try.prog 24 #[.float .f32 x] w (RetF .f32 (flush32 x) w) := by
  have hl := Lib.hid (fun w => wideR_lt x w)
  cases hs : sub32 x
  · have hv : cn .f32 x = flush32 x := by
      unfold sub32 at hs
      have h := of_decide_eq_false hs
      unfold flush32
      split
      · have h0 : x % 2147483648 = 0 := by omega
        rw [cn_num (by rw [nan_rung]; exact decide_eq_false (by omega))]; omega
      · rfl
    have Hv := Lib.hid hv
    have Hs := Lib.hid hs
    clear hv hs
    go_enter Try.func24, Try.ntmps24
    go_wp2_with (go_at_call 22; refine (implSub_any _ _).mono ?_; rw [Hs.out]; rintro e w' ⟨n, rfl, rfl⟩)
    go_ret
    exact ⟨x, _, Hv.out, rfl, rfl⟩
  · have hN : isN .f32 x = false := by
      unfold sub32 at hs
      have h := of_decide_eq_true hs
      rw [nan_rung]; exact decide_eq_false (by omega)
    have hw : ∀ w, wideR x w = awide x := fun w => by unfold wideR; rw [hN]; rfl
    have hsig : awide x / 9223372036854775808 % 2 = x / 2147483648 % 2 := by
      have h1 := (awide_rung x hN).1
      have h2 := awide_lt x
      have a1 : awide x / 9223372036854775808 % 2 < 2 := Nat.mod_lt _ (by omega)
      have a2 : x / 2147483648 % 2 < 2 := Nat.mod_lt _ (by omega)
      generalize awide x / 9223372036854775808 % 2 = a at *
      generalize x / 2147483648 % 2 = b at *
      by_cases c : a = 1
      · rw [c] at h1; have := eq_of_beq h1.symm; omega
      · have e : (a == 1) = false := beq_eq_false_iff_ne.2 c
        rw [e] at h1
        have := beq_eq_false_iff_ne.1 h1.symm
        omega
    have hv : flush32 x = x / 2147483648 % 2 * 2147483648 := by
      unfold sub32 at hs
      have h := of_decide_eq_true hs
      unfold flush32
      rw [if_pos h.2]
    have a2 : x / 2147483648 % 2 < 2 := Nat.mod_lt _ (by omega)
    rw [← hsig] at hv a2
    have hc : awide x / 9223372036854775808 % 2 = 0 ∨ awide x / 9223372036854775808 % 2 = 1 := by omega
    clear hsig hN a2
    have Hs := Lib.hid hs
    have Hw := Lib.hid hw
    clear hs hw
    rcases hc with hc | hc
    · rw [hc] at hv
      have Hv := Lib.hid hv
      have Hc := Lib.hid hc
      clear hv hc
      go_enter Try.func24, Try.ntmps24
      go_wp2_with (first | (go_at_call 22; refine (implSub_any _ _).mono ?_; rw [Hs.out]; rintro e w' ⟨n, rfl, rfl⟩) | (go_at_call 36; refine (copysign_zero _ _ (hl.out _)).mono ?_; rw [Hw.out, Hc.out]; rintro e w' ⟨n, rfl, rfl⟩))
      go_ret
      exact ⟨_, _, by rw [Hv.out]; exact (congrArg (cn .f32) (nar_zero _)).trans (by decide +kernel), rfl, rfl⟩
    · rw [hc] at hv
      have Hv := Lib.hid hv
      have Hc := Lib.hid hc
      clear hv hc
      go_enter Try.func24, Try.ntmps24
      go_wp2_with (first | (go_at_call 22; refine (implSub_any _ _).mono ?_; rw [Hs.out]; rintro e w' ⟨n, rfl, rfl⟩) | (go_at_call 36; refine (copysign_zero _ _ (hl.out _)).mono ?_; rw [Hw.out, Hc.out]; rintro e w' ⟨n, rfl, rfl⟩))
      go_ret
      exact ⟨_, _, by rw [Hv.out]; exact (congrArg (cn .f32) (nar_neg_zero _)).trans (by decide +kernel), rfl, rfl⟩

theorem sign_bits (x : Nat) (hx : x < 4294967296) (h : x % 2147483648 < 8388608) : bits .and .i64 (bitsOf x : Int) 2147483648 = ((x / 2147483648 % 2 * 2147483648 : Nat) : Int) := by
  have hb : bitsOf x = x := cn_num (by rw [nan_rung]; exact decide_eq_false (by omega))
  rw [hb, show (2147483648 : Int) = ((2147483648 : Nat) : Int) from rfl, i64_and_nat _ _ (by omega) (by omega)]
  have := nat_bit 31 x
  rw [show (2 : Nat) ^ 31 = 2147483648 by decide] at this
  rw [this]
theorem specFlush_any (x : Nat) (w : World) (hx : x < 4294967296) : Calls Try.prog 35 #[.float .f32 x] w (RetF .f32 (flush32 x) w) := by
  have he := exp_zero x hx
  have hz := exp_sub x hx
  generalize hE : bitsOf x / 8388608 % 256 * 8388608 = E at *
  clear hE
  by_cases h : x % 2147483648 < 8388608
  · rw [decide_eq_true h] at hz
    have hs := sign_bits x hx h
    have hv : cn .f32 (x / 2147483648 % 2 * 2147483648) = flush32 x := by
      unfold flush32; rw [if_pos h, cn_num]
      rw [nan_rung]; exact decide_eq_false (by omega)
    have hS : x / 2147483648 % 2 * 2147483648 < 4294967296 := by omega
    generalize x / 2147483648 % 2 * 2147483648 = S at *
    have Hv := Lib.hid hv
    clear hv h
    go_enter Try.func35, Try.ntmps35
    go_wp2_with (first | (go_at_call 28; refine (l01Bits_any _ _ hx).mono ?_; rintro e w' ⟨n, rfl, rfl⟩) | (go_at_call 31; go_in))
    go_ret
    exact ⟨_, _, Hv.out, rfl, rfl⟩
  · rw [decide_eq_false h] at hz
    have hv : cn .f32 x = flush32 x := by unfold flush32; rw [if_neg h]
    have Hv := Lib.hid hv
    clear hv h
    go_enter Try.func35, Try.ntmps35
    go_wp2_with (first | (go_at_call 28; refine (l01Bits_any _ _ hx).mono ?_; rintro e w' ⟨n, rfl, rfl⟩) | (go_at_call 31; go_in))
    go_ret
    exact ⟨_, _, Hv.out, rfl, rfl⟩
end Go.Proofs.Ytogdolnmcfemfaa
