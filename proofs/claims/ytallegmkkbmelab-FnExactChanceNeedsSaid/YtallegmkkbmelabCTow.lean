/-
  Numbers that go a share of the way to others; levels, plainly.
-/
import Derived.Test.YtallegmkkbmelabCBox
import Derived.Test.YtallegmkkbmelabCShr
namespace Go.Proofs.Ytallegmkkbmelab
open Ieee Go.RowKit
set_option linter.unusedVariables false

/-- l has gone a share s of the way to z. -/
def towW (l z s : Nat) : Nat := aop .add .f32 l (aop .mul .f32 s (aop .sub .f32 z l))
theorem cn_tow (l z s : Nat) : cn .f32 (towW l z s) = towW l z s := cn_aop ..
theorem tow_step (l z s : Nat) (w1 w2 w3 : World) : cn .f32 (fopR .add .f32 l (fopR .mul .f32 s (fopR .sub .f32 z l w1) w2) w3) = towW (cn .f32 l) (cn .f32 z) (cn .f32 s) := by
  rw [cn_fopR, cn_fopR, cn_fopR]; rfl
theorem towards_any (l z s : Nat) (w : World) : Calls Try.prog 60 #[.float .f32 l, .float .f32 z, .float .f32 s] w (RetF .f32 (towW (cn .f32 l) (cn .f32 z) (cn .f32 s)) w) := by
  go_enter Try.func60, Try.ntmps60
  go_wp2
  go_ret
  exact ⟨_, _, tow_step .., rfl, rfl⟩
/-- Levels. -/
def lvT (zs : List Nat) (s : Nat) : Nat → Nat
  | 0 => cn .f32 (zs.getD 0 0)
  | k + 1 => towW (lvT zs s k) (cn .f32 (zs.getD (k + 1) 0)) (cn .f32 s)
theorem cn_lv (zs : List Nat) (s k : Nat) : cn .f32 (lvT zs s k) = lvT zs s k := by
  cases k
  · exact cn_cn ..
  · exact cn_tow ..
theorem lv_step {zs : List Nat} {s k l z : Nat} (hl : cn .f32 l = lvT zs s k) (hz : zs.getD (k + 1) 0 = z) (w1 w2 w3 : World) : cn .f32 (fopR .add .f32 l (fopR .mul .f32 s (fopR .sub .f32 z l w1) w2) w3) = lvT zs s (k + 1) := by
  rw [tow_step, hl, ← hz]; rfl
theorem lv_tow {zs : List Nat} {s k l z r : Nat} (hl : cn .f32 l = lvT zs s k) (hz : zs.getD (k + 1) 0 = z) (hr : cn .f32 r = towW (cn .f32 l) (cn .f32 z) (cn .f32 s)) : cn .f32 r = lvT zs s (k + 1) := by
  rw [hr, hl, ← hz]; rfl
def lvL (zs : List Nat) (s : Nat) : List Nat := tells (lvT zs s) zs.length
def lvB (zs : List Nat) (s : Nat) : Bool := (serB zs && shB s) && fins (lvL zs s)
def lvR (zs : List Nat) (s : Nat) : List Nat := if serB zs && shB s then lstR (lvL zs s) else []
theorem lvL_len (zs : List Nat) (s : Nat) : (lvL zs s).length = zs.length := tells_len ..
theorem lvR_len (zs : List Nat) (s : Nat) : (lvR zs s).length ≤ 1048576 := by
  unfold lvR
  split
  · rename_i h
    have := (serB_t (Bool.and_eq_true _ _ ▸ h).1).2.1
    unfold lstR
    split
    · rw [lvL_len]; omega
    · simp
  · simp
theorem lv_bad {zs : List Nat} {s : Nat} (h : (serB zs && shB s) = false) : lvB zs s = false ∧ lvR zs s = [] := by
  unfold lvB lvR; rw [h]; exact ⟨rfl, rfl⟩
theorem lv_good {zs : List Nat} {s : Nat} (h : serB zs = true) (h2 : shB s = true) : lvB zs s = fins (lvL zs s) ∧ lvR zs s = lstR (lvL zs s) := by
  unfold lvB lvR; rw [h, h2]; exact ⟨rfl, rfl⟩
end Go.Proofs.Ytallegmkkbmelab
