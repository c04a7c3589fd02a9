/-
  Sums of squares around a number, in both packages.
-/
import Derived.Test.YtallegmkkbmelabCLes
import Derived.Deep.RegionHeld3
namespace Go.Proofs.Ytallegmkkbmelab
open Ieee Go.RowKit
set_option linter.unusedVariables false

/-- The sum of the first k products. -/
def dotTo (zs ys : List Nat) : Nat → Nat
  | 0 => 0
  | k + 1 => aop .add .f32 (dotTo zs ys k) (aop .mul .f32 (cn .f32 (zs.getD k 0)) (cn .f32 (ys.getD k 0)))
theorem dot_step {zs ys : List Nat} {k s z y : Nat} (hs : cn .f32 s = dotTo zs ys k) (hz : zs.getD k 0 = z) (hy : ys.getD k 0 = y) (w1 w2 : World) :
    cn .f32 (fopR .add .f32 s (fopR .mul .f32 z y w1) w2) = dotTo zs ys (k + 1) := by
  rw [cn_fopR, cn_fopR, hs, ← hz, ← hy]; rfl
/-- The sum of the first k squares of numbers less another one. -/
def sqTo (zs : List Nat) (m : Nat) : Nat → Nat
  | 0 => 0
  | k + 1 => aop .add .f32 (sqTo zs m k) (aop .mul .f32 (aop .sub .f32 (cn .f32 (zs.getD k 0)) m) (aop .sub .f32 (cn .f32 (zs.getD k 0)) m))
theorem dot_less {rs zs : List Nat} {m : Nat} (h : cnl rs = less32 zs m) : ∀ k, k ≤ zs.length → dotTo rs rs k = sqTo zs m k := by
  intro k
  induction k with
  | zero => intro _; rfl
  | succ k ih =>
    intro hk
    have hl : rs.length = zs.length := by rw [← cnl_len, h, less_len]
    have hz : cn .f32 (rs.getD k 0) = aop .sub .f32 (cn .f32 (zs.getD k 0)) m := by
      rw [← cnl_at (by omega), h]
      unfold less32
      simp [List.getD, show k < zs.length by omega]
    unfold dotTo sqTo
    rw [ih (by omega), hz]
theorem sq_step {zs : List Nat} {k s z x m : Nat} (hs : cn .f32 s = sqTo zs m k) (hz : zs.getD k 0 = z) (hm : cn .f32 x = m) (w1 w2 w3 : World) :
    cn .f32 (fopR .add .f32 s (fopR .mul .f32 (fopR .sub .f32 z x w1) (fopR .sub .f32 z x w1) w2) w3) = sqTo zs m (k + 1) := by
  rw [cn_fopR, cn_fopR, cn_fopR, hs, ← hz, hm]; rfl

end Go.Proofs.Ytallegmkkbmelab
