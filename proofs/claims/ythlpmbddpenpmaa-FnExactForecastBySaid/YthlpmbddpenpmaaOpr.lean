/-
  Operations whose result is a number cost no draw; the absolute value of a number costs none.
-/
import Derived.Test.YthlpmbddpenpmaaAbl
import Derived.Test.YthlpmbddpenpmaaCPos
namespace Go.Proofs.Ythlpmbddpenpmaa
open Ieee Go.RowKit
set_option linter.unusedVariables false

theorem bits_num {op : BinOp} {x y : Nat} (h : isN .f32 (aop op .f32 x y) = false) : floatBits op .f32 x y = some (aop op .f32 x y) := by
  cases hf : floatBits op .f32 x y with
  | none => exfalso; unfold aop at h; rw [hf] at h; rw [show (none : Option Nat).getD (nanOf .f32) = nanOf .f32 from rfl, isN_nanOf] at h; cases h
  | some r => unfold aop; rw [hf]; rfl
theorem op_run {P : Program} {op : BinOp} (t : TypeId) {x y : Nat} (h : isN .f32 (aop op .f32 x y) = false) (w : World) : (binOp op t (.float .f32 x) (.float .f32 y)).run P w = .ok (.float .f32 (aop op .f32 x y)) w := by
  rw [run_float_arith w op t .f32 x y _ (bits_num h)]
theorem fin_isN {x : Nat} (h : fin .f32 x = true) : isN .f32 x = false := by
  unfold fin at h
  cases h2 : isN .f32 x
  · rfl
  · rw [h2] at h; cases h
theorem fin_cn {x : Nat} (h : fin .f32 x = true) : cn .f32 x = x := cn_num (fin_isN h)
theorem isN_absF (x : Nat) : isN .f32 (absF x) = isN .f32 x := by
  unfold absF
  cases h : isN .f32 x
  · rw [if_neg (by simp), isN_mag, h]
  · rw [if_pos rfl, isN_nanOf]
theorem isN_sub {x y : Nat} (hx : fin .f32 x = true) (hy : fin .f32 y = true) : isN .f32 (aop .sub .f32 x y) = false := by
  obtain ⟨s, m, p, h1⟩ := fin_datum hx
  obtain ⟨s', m', p', h2⟩ := fin_datum hy
  unfold aop
  have hf : ∃ r, floatBits .sub .f32 x y = some r := by
    show ∃ r, Option.map (FloatKind.format .f32).write (((FloatKind.format .f32).read x).sum (((FloatKind.format .f32).read y).opposite)) = some r
    rw [h1, h2]; exact ⟨_, rfl⟩
  obtain ⟨r, hf⟩ := hf
  rw [hf]; exact (floatBits_nan hf).2.2
theorem isN_add {x y : Nat} (hx : fin .f32 x = true) (hy : fin .f32 y = true) : isN .f32 (aop .add .f32 x y) = false := by
  obtain ⟨s, m, p, h1⟩ := fin_datum hx
  obtain ⟨s', m', p', h2⟩ := fin_datum hy
  unfold aop
  have hf : ∃ r, floatBits .add .f32 x y = some r := by
    show ∃ r, Option.map (FloatKind.format .f32).write (((FloatKind.format .f32).read x).sum ((FloatKind.format .f32).read y)) = some r
    rw [h1, h2]; exact ⟨_, rfl⟩
  obtain ⟨r, hf⟩ := hf
  rw [hf]; exact (floatBits_nan hf).2.2
theorem fin_mag {x : Nat} : fin .f32 (x % 2147483648) = fin .f32 x := by
  unfold fin
  rw [isN_mag]
  congr 2
  rw [isI_iff, isI_iff, show (FloatKind.format .f32).signWeight = 2147483648 from s_sign, Nat.mod_mod]
theorem fin_absF {x : Nat} (h : fin .f32 x = true) : fin .f32 (absF x) = true := by
  unfold absF
  rw [fin_isN h, if_neg (by simp), fin_mag]; exact h
/-- The absolute value of a number, which costs no draw. -/
theorem sizeNum_any (x : Nat) (w : World) (hx : x < 4294967296) (hN : isN .f32 x = false) : Calls Try.prog 55 #[.float .f32 x] w (fun e w' => e = .returned (.float .f32 (absF x)) ∧ w' = w) := by
  have ho := order_all .f32 x 0 hN (by decide +kernel)
  rw [show sr (FloatKind.format .f32) 0 = 0 by decide +kernel] at ho
  have ha : absF x = x % 2147483648 := by unfold absF; rw [hN, if_neg (by simp)]
  rw [ha]
  by_cases h : sr (FloatKind.format .f32) x ≤ 0
  · have hz := zero_less h hN
    have hrun : ∀ w t, (binOp .sub t (.float .f32 0) (.float .f32 x)).run Try.prog w = .ok (.float .f32 (x % 2147483648)) w := fun w t => by
      rw [op_run t (by rw [hz, isN_mag]; exact hN) w, hz]
    rcases Int.lt_or_eq_of_le h with h1 | h1
    · have o := ho.trans (congrArg some (Int.compare_eq_lt.2 h1))
      clear ho h hN ha hz h1
      go_enter Try.func55, Try.ntmps55
      go_wp2
      go_ret
      exact ⟨rfl, rfl⟩
    · have o := ho.trans (congrArg some (Int.compare_eq_eq.2 h1))
      clear ho h hN ha hz h1
      go_enter Try.func55, Try.ntmps55
      go_wp2
      go_ret
      exact ⟨rfl, rfl⟩
  · have o := ho.trans (congrArg some (Int.compare_eq_gt.2 (by omega)))
    have HV := Lib.hid (show x = x % 2147483648 by
      unfold sr at h
      rw [show (FloatKind.format .f32).signWeight = 2147483648 from s_sign] at h
      split at h
      · omega
      · rename_i h2
        have : ¬ (x / 2147483648 % 2 = 1) := fun e => h2 (beq_iff_eq.2 e)
        omega)
    clear ho h hN ha
    go_enter Try.func55, Try.ntmps55
    go_wp2
    go_ret
    exact ⟨by rw [← HV.out]; rfl, rfl⟩
end Go.Proofs.Ythlpmbddpenpmaa
