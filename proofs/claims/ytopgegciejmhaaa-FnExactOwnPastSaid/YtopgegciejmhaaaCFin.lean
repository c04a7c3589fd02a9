/-
  Finite or not: the program's way and the model's.
-/
import Derived.Test.YtopgegciejmhaaaCAbs
namespace Go.Proofs.Ytopgegciejmhaaa
open Ieee Go.RowKit
set_option linter.unusedVariables false

def fin (k : FloatKind) (x : Nat) : Bool := !isN k x && !isI k x
theorem fin_f32 (x : Nat) : fin .f32 x = decide (x % 2147483648 < 2139095040) := by
  unfold fin
  rw [isN_iff, isI_iff, show (FloatKind.format .f32).signWeight = 2147483648 from s_sign, show (FloatKind.format .f32).infRung = 2139095040 from s_inf]
  by_cases h : x % 2147483648 < 2139095040
  · rw [decide_eq_true h, decide_eq_false (by omega), decide_eq_false (by omega)]; rfl
  · rw [decide_eq_false h]
    by_cases h2 : x % 2147483648 = 2139095040
    · rw [decide_eq_true h2]; simp
    · rw [decide_eq_true (by omega)]; rfl
theorem fin_congr {k : FloatKind} {x y : Nat} (h : cn k x = cn k y) : fin k x = fin k y := by
  unfold fin
  rw [isN_congr h]
  cases h1 : isN k y
  · have h2 : isN k x = false := by rw [isN_congr h, h1]
    rw [cn_num h1, cn_num h2] at h
    rw [h]
  · rfl
theorem fopR_lt (op : BinOp) (k : FloatKind) (x y : Nat) (w : World) : fopR op k x y w < 2 ^ k.format.width := by
  unfold fopR
  cases h : floatBits op k x y with
  | some r =>
    have := floatBits_wf h
    cases k <;> exact of_decide_eq_true this
  | none =>
    cases k
    · show (w.tape w.drawn _ % 2) * 2 ^ 31 + 0x7f800000 + 1 + (w.tape w.drawn _ / 2) % (2 ^ 23 - 1) < 2 ^ 32
      omega
    · show (w.tape w.drawn _ % 2) * 2 ^ 63 + 0x7ff0000000000000 + 1 + (w.tape w.drawn _ / 2) % (2 ^ 52 - 1) < 2 ^ 64
      omega
theorem awide_lt (x : Nat) : awide x < 18446744073709551616 := by
  cases h : isN .f32 x
  · exact (awide_rung x h).2.1
  · unfold awide; rw [h, if_pos rfl]; decide
theorem wideR_lt (x : Nat) (w : World) : wideR x w < 18446744073709551616 := by
  unfold wideR
  cases h : isN .f32 x
  · rw [if_neg (by simp)]; exact awide_lt x
  · rw [if_pos rfl]
    show (w.tape w.drawn _ % 2) * 2 ^ 63 + 0x7ff0000000000000 + 1 + (w.tape w.drawn _ / 2) % (2 ^ 52 - 1) < 2 ^ 64
    omega
theorem isI_awide (x : Nat) (h : isN .f32 x = false) : isI .f64 (awide x) = isI .f32 x := by
  obtain ⟨_, _, h1, h2, h3, h4⟩ := awide_rung x h
  rw [isN_iff] at h
  have h := of_decide_eq_false h
  rw [isI_iff, isI_iff]
  rw [show (FloatKind.format .f32).signWeight = 2147483648 from s_sign, show (FloatKind.format .f32).infRung = 2139095040 from s_inf] at *
  rw [show (FloatKind.format .f64).signWeight = 9223372036854775808 from d_sign, show (FloatKind.format .f64).infRung = 9218868437227405312 from d_inf]
  generalize x % 2147483648 = r at *
  generalize awide x % 9223372036854775808 = q at *
  by_cases e : r = 2139095040
  · rw [decide_eq_true e, decide_eq_true (h4 e)]
  · rw [decide_eq_false e]
    refine decide_eq_false ?_
    by_cases a : r < 8388608
    · by_cases b : r = 0
      · have := h2 b; omega
      · have := h3 a (by omega); omega
    · have := h1 (by omega) (by omega); omega
theorem cn_awide (x : Nat) : cn .f64 (awide x) = awide x := by
  cases h : isN .f32 x
  · exact cn_num (by rw [isN_awide]; exact h)
  · unfold awide; rw [h, if_pos rfl]; exact cn_nan (isN_nanOf _)
theorem fin_wideR (x : Nat) (w : World) : fin .f64 (wideR x w) = fin .f32 x := by
  have h1 : fin .f64 (wideR x w) = fin .f64 (awide x) := fin_congr (by rw [cn_wideR, awide_cn, cn_awide])
  rw [h1]
  unfold fin
  rw [isN_awide]
  cases h : isN .f32 x
  · rw [isI_awide x h]
  · rfl

theorem isFinite64_any (y : Nat) (w : World) (hy : y < 18446744073709551616) :
    Calls Try.prog 168 #[.float .f64 y] w (RetV (.bool (fin .f64 y)) w) := by
  have H : fin .f64 y = (!isN .f64 y && !isI .f64 y) := rfl
  cases h : isN .f64 y
  · rw [h] at H
    have HH := Lib.hid H
    have Hh := Lib.hid h
    clear H h
    go_enter Try.func168, Try.ntmps168
    go_wp2_with (first | (go_at_call 179; refine (isNaN_any _ _).mono ?_; rw [Hh.out]; rintro e w' ⟨n, rfl, rfl⟩) | (go_at_call 182; refine (isInf_any _ _ hy).mono ?_; rintro e w' ⟨m, rfl, rfl⟩))
    go_ret
    exact ⟨_, congrArg (fun b => Ending.returned (Value.bool b)) HH.out.symm, rfl⟩
  · rw [h] at H
    have HH := Lib.hid H
    have Hh := Lib.hid h
    clear H h
    go_enter Try.func168, Try.ntmps168
    go_wp2_with (first | (go_at_call 179; refine (isNaN_any _ _).mono ?_; rw [Hh.out]; rintro e w' ⟨n, rfl, rfl⟩) | (go_at_call 182; refine (isInf_any _ _ hy).mono ?_; rintro e w' ⟨m, rfl, rfl⟩))
    go_ret
    exact ⟨_, congrArg (fun b => Ending.returned (Value.bool b)) HH.out.symm, rfl⟩
end Go.Proofs.Ytopgegciejmhaaa
