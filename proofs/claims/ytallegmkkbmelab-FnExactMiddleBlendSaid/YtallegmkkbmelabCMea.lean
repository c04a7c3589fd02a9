/-
  Means, in both packages.
-/
import Derived.Test.YtallegmkkbmelabCSer
import Derived.Test.YtallegmkkbmelabCSui
import Derived.Laws.Cover2
namespace Go.Proofs.Ytallegmkkbmelab
open Ieee Go.RowKit
set_option linter.unusedVariables false

/-- A small integer as a 32-bit float. -/
def i2f (n : Int) : Nat := floatOfInt .f32 n
def mean32 (zs : List Nat) : Nat := aop .quo .f32 (sum32 zs) (cn .f32 (i2f zs.length))
def meanB (zs : List Nat) : Bool := serB zs && fin .f32 (mean32 zs)
def meanR (zs : List Nat) : Nat := if meanB zs then mean32 zs else 0

theorem cn_mean (zs : List Nat) : cn .f32 (mean32 zs) = mean32 zs := cn_aop ..
theorem mean_word {zs : List Nat} {r x : Nat} (h : cn .f32 r = if fin .f32 x then cn .f32 x else 0) (hB : meanB zs = fin .f32 (mean32 zs)) (hx : cn .f32 x = mean32 zs) : cn .f32 r = meanR zs ∧ fin .f32 x = meanB zs := by
  have hf : fin .f32 x = fin .f32 (mean32 zs) := fin_congr (hx.trans (cn_mean zs).symm)
  rw [h, hf, hx, hB]
  unfold meanR
  rw [hB]
  exact ⟨rfl, rfl⟩
end Go.Proofs.Ytallegmkkbmelab
