/-
  LineFit, in both packages.
-/
import Derived.Test.YtallegmkkbmelaaCLsm
import Derived.Test.YtallegmkkbmelaaCDoi
import Derived.Test.YtallegmkkbmelaaCBox
namespace Go.Proofs.Ytallegmkkbmelaa
open Ieee Go.RowKit
set_option linter.unusedVariables false

/-- Places as numbers. -/
def plcZ (n : Nat) : List Nat := tells (fun j => i2f (j : Int)) n
theorem plc_len (n : Nat) : (plcZ n).length = n := tells_len ..
theorem i2f_cn : ∀ n : Nat, n < 97 → cn .f32 (i2f n) = i2f n := by decide +kernel
theorem i2f_fin : ∀ n : Nat, n < 97 → fin .f32 (i2f n) = true := by decide +kernel
theorem plc_mean : ∀ n : Nat, n < 97 → 1 ≤ n → fin .f32 (mean32 (plcZ n)) = true := by decide +kernel
theorem plc_fins {n : Nat} (h : n ≤ 96) : fins (plcZ n) = true := by
  unfold fins plcZ tells
  rw [List.all_eq_true]
  intro x hx
  simp only [List.mem_map, List.mem_range] at hx
  obtain ⟨j, hj, rfl⟩ := hx
  exact i2f_fin j (by omega)
theorem plc_cnl {n : Nat} (h : n ≤ 96) : cnl (plcZ n) = plcZ n := by
  unfold cnl plcZ tells
  rw [List.map_map]
  refine List.map_congr_left fun k hk => ?_
  exact i2f_cn k (by have := List.mem_range.1 hk; omega)
theorem plc_ser {n : Nat} (h1 : 1 ≤ n) (h : n ≤ 96) : serB (plcZ n) = true := by
  unfold serB
  rw [plc_len, plc_fins h, decide_eq_true ⟨h1, h⟩]; rfl
theorem plc_meanB {n : Nat} (h1 : 1 ≤ n) (h : n ≤ 96) : meanB (plcZ n) = true := by
  unfold meanB
  rw [plc_ser h1 h, plc_mean n (by omega) h1]; rfl
def lnUp (zs : List Nat) : Nat := dotTo (offL (plcZ zs.length)) (offL zs) zs.length
def lnWide (zs : List Nat) : Nat := dotTo (offL (plcZ zs.length)) (offL (plcZ zs.length)) zs.length
def lnS (zs : List Nat) : Nat := aop .quo .f32 (lnUp zs) (lnWide zs)
def lnBase (zs : List Nat) : Nat := aop .sub .f32 (mean32 zs) (aop .mul .f32 (lnS zs) (mean32 (plcZ zs.length)))
def twoB (x y : Nat) : Bool := fin .f32 x && fin .f32 y
def lnB (zs : List Nat) : Bool := (serB zs && decide (2 ≤ zs.length)) && twoB (lnBase zs) (lnS zs)
def lnV0 (zs : List Nat) : Nat := if lnB zs then lnBase zs else 0
def lnV1 (zs : List Nat) : Nat := if lnB zs then lnS zs else 0
theorem ln_bad {zs : List Nat} (h : lnB zs = false) : lnV0 zs = 0 ∧ lnV1 zs = 0 := by unfold lnV0 lnV1; rw [h]; exact ⟨rfl, rfl⟩
theorem ln_mean {zs : List Nat} (h : fin .f32 (mean32 zs) = false) : lnB zs = false := Bool.eq_false_iff.2 fun hh => by
  unfold lnB twoB at hh
  have h2 := (Bool.and_eq_true _ _ ▸ hh).2
  have h3 := (fin_sub (Bool.and_eq_true _ _ ▸ h2).1).1
  rw [h] at h3; cases h3
/-- Two floats and a bool, behind calls that make memory. -/
def RetFFm (v v' : Nat) (b : Bool) (w : World) (e : Ending) (w' : World) : Prop := ∃ r s, cn .f32 r = v ∧ cn .f32 s = v' ∧ e = .returned (.tuple #[.float .f32 r, .float .f32 s, .bool b]) ∧ Below w.heap.size w w'
/-- Two floats if both are finite. -/
def Ret2 (x y : Nat) (w : World) (e : Ending) (w' : World) : Prop := ∃ r s n, cn .f32 r = (if twoB x y then x else 0) ∧ cn .f32 s = (if twoB x y then y else 0) ∧ e = .returned (.tuple #[.float .f32 r, .float .f32 s, .bool (twoB x y)]) ∧ w.drewN n = w'
theorem Ret2.ln {zs : List Nat} {w0 w : World} {e : Ending} {w' : World} (h : Ret2 (lnBase zs) (lnS zs) w e w') (hB : serB zs = true) (h2 : 2 ≤ zs.length) (hb : Below w0.heap.size w0 w) : RetFFm (lnV0 zs) (lnV1 zs) (lnB zs) w0 e w' := by
  have e1 : lnB zs = twoB (lnBase zs) (lnS zs) := by unfold lnB; rw [hB, decide_eq_true h2]; rfl
  obtain ⟨r, s, n, hr, hs, rfl, rfl⟩ := h
  unfold lnV0 lnV1
  rw [e1]
  exact ⟨r, s, hr, hs, rfl, below_drewN hb n⟩
theorem specTwo_any (x y X Y : Nat) (w : World) (hx : cn .f32 x = X) (hy : cn .f32 y = Y) : Calls Try.prog 52 #[.float .f32 x, .float .f32 y] w (Ret2 X Y w) := by
  have hfx : fin .f32 x = fin .f32 X := fin_congr (by rw [← hx, cn_cn])
  have hfy : fin .f32 y = fin .f32 Y := fin_congr (by rw [← hy, cn_cn])
  have HX := Lib.hid hx
  have HY := Lib.hid hy
  clear hx hy
  cases h1 : fin .f32 X
  · have HF := Lib.hid (hfx.trans h1)
    have HT := Lib.hid (show twoB X Y = false by unfold twoB; rw [h1]; rfl)
    clear h1 hfx hfy
    go_enter Try.func52, Try.ntmps52
    go_wp2_with (go_at_call 58; refine (l01Finite_any _ _).mono ?_; rw [HF.out]; rintro e w' ⟨m, rfl, rfl⟩)
    go_ret3
    exact ⟨0, 0, _, by rw [HT.out]; exact cn_zero, by rw [HT.out]; exact cn_zero, by rw [HT.out]; rfl, rfl⟩
  · have HF := Lib.hid (hfx.trans h1)
    cases h2 : fin .f32 Y
    · have HF' := Lib.hid (hfy.trans h2)
      have HT := Lib.hid (show twoB X Y = false by unfold twoB; rw [h2, Bool.and_false])
      clear h1 h2 hfx hfy
      go_enter Try.func52, Try.ntmps52
      go_wp2_with fail
      refine (l01Finite_any _ _).mono ?_
      rw [HF.out]
      rintro e w' ⟨m, rfl, rfl⟩
      go_wp2_with (go_at_call 58; refine (l01Finite_any _ _).mono ?_; rw [HF'.out]; rintro e w' ⟨m2, rfl, rfl⟩)
      go_ret3
      exact ⟨0, 0, _, by rw [HT.out]; exact cn_zero, by rw [HT.out]; exact cn_zero, by rw [HT.out]; rfl, rfl⟩
    · have HF' := Lib.hid (hfy.trans h2)
      have HT := Lib.hid (show twoB X Y = true by unfold twoB; rw [h1, h2]; rfl)
      clear h1 h2 hfx hfy
      go_enter Try.func52, Try.ntmps52
      go_wp2_with fail
      refine (l01Finite_any _ _).mono ?_
      rw [HF.out]
      rintro e w' ⟨m, rfl, rfl⟩
      go_wp2_with (go_at_call 58; refine (l01Finite_any _ _).mono ?_; rw [HF'.out]; rintro e w' ⟨m2, rfl, rfl⟩)
      go_ret3
      exact ⟨x, y, _, by rw [HT.out]; exact HX.out, by rw [HT.out]; exact HY.out, by rw [HT.out]; rfl, rfl⟩
theorem implLine_any (x y s X Y : Nat) (w : World) (hb : aop .sub .f32 (cn .f32 y) (aop .mul .f32 (cn .f32 s) (cn .f32 x)) = X) (hs : cn .f32 s = Y) : Calls Try.prog 56 #[.float .f32 x, .float .f32 y, .float .f32 s] w (Ret2 X Y w) := by
  have HW := Lib.hid (show ∀ w1 w2, cn .f32 (fopR .sub .f32 y (fopR .mul .f32 s x w1) w2) = X from fun w1 w2 => by rw [cn_fopR, cn_fopR]; exact hb)
  have hfx : ∀ w1 w2, fin .f32 (fopR .sub .f32 y (fopR .mul .f32 s x w1) w2) = fin .f32 X := fun w1 w2 => fin_congr (by rw [← HW.out w1 w2, cn_cn])
  have hfy : fin .f32 s = fin .f32 Y := fin_congr (by rw [← hs, cn_cn])
  have HY := Lib.hid hs
  clear hb hs
  cases h1 : fin .f32 X
  · have HF := Lib.hid (fun w1 w2 => (hfx w1 w2).trans h1)
    have HT := Lib.hid (show twoB X Y = false by unfold twoB; rw [h1]; rfl)
    clear h1 hfx hfy
    go_enter Try.func56, Try.ntmps56
    go_wp2_with (go_at_call 62; refine (isFinite_any _ _).mono ?_; rw [HF.out]; rintro e w' ⟨m, rfl, rfl⟩)
    go_ret3
    exact ⟨0, 0, _, by rw [HT.out]; exact cn_zero, by rw [HT.out]; exact cn_zero, by rw [HT.out]; rfl, rfl⟩
  · have HF := Lib.hid (fun w1 w2 => (hfx w1 w2).trans h1)
    cases h2 : fin .f32 Y
    · have HF' := Lib.hid (hfy.trans h2)
      have HT := Lib.hid (show twoB X Y = false by unfold twoB; rw [h2, Bool.and_false])
      clear h1 h2 hfx hfy
      go_enter Try.func56, Try.ntmps56
      go_wp2_with fail
      refine (isFinite_any _ _).mono ?_
      rw [HF.out]
      rintro e w' ⟨m, rfl, rfl⟩
      go_wp2_with (go_at_call 62; refine (isFinite_any _ _).mono ?_; rw [HF'.out]; rintro e w' ⟨m2, rfl, rfl⟩)
      go_ret3
      exact ⟨0, 0, _, by rw [HT.out]; exact cn_zero, by rw [HT.out]; exact cn_zero, by rw [HT.out]; rfl, rfl⟩
    · have HF' := Lib.hid (hfy.trans h2)
      have HT := Lib.hid (show twoB X Y = true by unfold twoB; rw [h1, h2]; rfl)
      clear h1 h2 hfx hfy
      go_enter Try.func56, Try.ntmps56
      go_wp2_with fail
      refine (isFinite_any _ _).mono ?_
      rw [HF.out]
      rintro e w' ⟨m, rfl, rfl⟩
      go_wp2_with (go_at_call 62; refine (isFinite_any _ _).mono ?_; rw [HF'.out]; rintro e w' ⟨m2, rfl, rfl⟩)
      go_ret3
      exact ⟨_, s, _, by rw [HT.out]; exact HW.out w (w.drewN (fopN .mul .f32 s x)), by rw [HT.out]; exact HY.out, by rw [HT.out]; rfl, rfl⟩
theorem line1_any (B0 B j : Nat) (wr : World) (hj : j < 97) :
    Calls Try.prog 54 #[.int .i64 j] wr (Tells (fun j => i2f (j : Int)) (fun _ _ => True) B0 B j wr) := by
  have HC := Lib.hid (show cn .f32 (floatOfInt .f32 (j : Int)) = i2f (j : Int) from i2f_cn j hj)
  go_enter Try.func54, Try.ntmps54
  go_wp2
  go_ret
  exact ⟨_, rfl, HC.out, trivial, Below.refl _ _, rfl⟩
end Go.Proofs.Ytallegmkkbmelaa
