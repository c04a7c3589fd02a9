/-
  Halves of 32-bit floats: 0.5 times a number is the number divided by 2.
-/
import Derived.Test.YtopgegciejmhaaaFlg
import Derived.Test.YtopgegciejmhaaaFlv
namespace Go.Proofs.Ytopgegciejmhaaa
open Ieee
set_option linter.unusedVariables false
set_option linter.unusedSimpArgs false

theorem two_read : single.read 1073741824 = .number false 8388608 (-22) := by decide +kernel
theorem half_read : single.read 1056964608 = .number false 8388608 (-24) := by decide +kernel
theorem hf_bin : single.binade = 8388608 := by decide
theorem read32_bd {x m : Nat} {s : Bool} {p : Int} (h : single.read x = .number s m p) : m < 16777216 := by
  unfold Format.read at h
  simp only [s_sign, s_inf, hf_bin] at h
  split at h
  · injection h with _ h2; omega
  · split at h
    · injection h with _ h2; omega
    · split at h <;> cases h
theorem nearest_zero (f : Format) (s : Bool) (p q : Int) : f.nearest s 0 p = f.nearest s 0 q := by
  unfold Format.nearest; rw [if_pos rfl, if_pos rfl]
theorem s_write (s : Bool) (m : Nat) (p : Int) : single.write (.number s m p) = single.nearest s m p := rfl
theorem half_two {x : Nat} (hx : isN .f32 x = false) : ∃ r, floatBits .quo .f32 x 1073741824 = some r ∧ floatBits .mul .f32 1056964608 x = some r := by
  have hr : (single.read x).isNaN = false := hx
  cases hd : single.read x with
  | nan s t => rw [hd] at hr; cases hr
  | infinity s =>
    refine ⟨single.write (.infinity s), ?_, ?_⟩
    · show Option.map single.write ((single.read x).quotient 25 (single.read 1073741824)) = _
      rw [hd, two_read]; simp [Datum.quotient]
    · show Option.map single.write ((single.read 1056964608).product (single.read x)) = _
      rw [hd, half_read]; simp [Datum.product]
  | number s m p =>
    have hb := read32_bd hd
    refine ⟨single.nearest s m (p - 1), ?_, ?_⟩
    · show Option.map single.write ((single.read x).quotient 25 (single.read 1073741824)) = _
      rw [hd, two_read]
      have hl2 : (8388608 : Nat).log2 = 23 := by decide +kernel
      have hl : m.log2 ≤ 23 := by
        rcases Nat.eq_zero_or_pos m with h0 | h0
        · rw [h0]; decide
        · exact log2_le_of_lt h0 (by omega)
      simp only [Datum.quotient, hl2]
      rw [if_neg (by omega), Nat.shiftLeft_eq]
      simp only [Option.map_some, s_write]
      obtain ⟨k, hk⟩ : ∃ k, 25 + 23 - m.log2 = k + 23 := ⟨25 - m.log2, by omega⟩
      rw [hk]
      have hdv : m * 2 ^ (k + 23) / 8388608 = m * 2 ^ k := by
        rw [Nat.pow_add, ← Nat.mul_assoc]; exact Nat.mul_div_cancel _ (by omega)
      have hmd : m * 2 ^ (k + 23) % 8388608 = 0 := by
        rw [Nat.pow_add, ← Nat.mul_assoc]; exact Nat.mul_mod_left _ _
      rw [hdv, hmd]
      have h8 : 2 * (m * 2 ^ k) + ((0 : Nat) != 0).toNat = m * 2 ^ (k + 1) := by
        show 2 * (m * 2 ^ k) + 0 = _
        rw [Nat.pow_succ, Nat.add_zero, Nat.mul_comm 2, Nat.mul_assoc]
      rw [h8, Bool.xor_false]
      rcases Nat.eq_zero_or_pos m with h0 | h0
      · rw [h0, Nat.zero_mul]; exact congrArg some (nearest_zero _ _ _ _)
      · rw [nearest_scale _ _ _ _ _ h0]
        exact congrArg (fun q => some (single.nearest s m q)) (by omega)
    · show Option.map single.write ((single.read 1056964608).product (single.read x)) = _
      rw [hd, half_read]
      simp only [Datum.product, Option.map_some, s_write, Bool.false_xor]
      rcases Nat.eq_zero_or_pos m with h0 | h0
      · rw [h0, Nat.mul_zero]; exact congrArg some (nearest_zero _ _ _ _)
      · rw [Nat.mul_comm, show (8388608 : Nat) = 2 ^ 23 by decide, nearest_scale _ _ _ _ _ h0]
        exact congrArg (fun q => some (single.nearest s m q)) (by omega)
theorem half_aop {x : Nat} (hx : isN .f32 x = false) : aop .mul .f32 1056964608 x = aop .quo .f32 x 1073741824 ∧ isN .f32 (aop .quo .f32 x 1073741824) = false := by
  obtain ⟨r, h1, h2⟩ := half_two hx
  unfold aop
  rw [h1, h2]
  exact ⟨rfl, (floatBits_nan h1).2.2⟩
theorem quo2_run {P : Program} (t : TypeId) {x : Nat} (hx : isN .f32 x = false) (w : World) : (binOp .quo t (.float .f32 x) (.float .f32 1073741824)).run P w = .ok (.float .f32 (aop .quo .f32 x 1073741824)) w := by
  obtain ⟨r, h1, h2⟩ := half_two hx
  rw [run_float_arith w .quo t .f32 _ _ r h1]
  unfold aop
  rw [h1]; rfl
theorem mulh_run {P : Program} (t : TypeId) {x : Nat} (hx : isN .f32 x = false) (w : World) : (binOp .mul t (.float .f32 1056964608) (.float .f32 x)).run P w = .ok (.float .f32 (aop .quo .f32 x 1073741824)) w := by
  obtain ⟨r, h1, h2⟩ := half_two hx
  rw [run_float_arith w .mul t .f32 _ _ r h2]
  unfold aop
  rw [h1]; rfl
end Go.Proofs.Ytopgegciejmhaaa
