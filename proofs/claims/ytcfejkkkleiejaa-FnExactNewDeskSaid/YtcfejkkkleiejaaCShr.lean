/-
  Shares: numbers from 0 to 1, in both packages.
-/
import Derived.Test.YtcfejkkkleiejaaExt
import Derived.Test.YtcfejkkkleiejaaFlv
import Derived.Test.YtcfejkkkleiejaaFlr
import Derived.Deep.RegionWith
namespace Go.Proofs.Ytcfejkkkleiejaa
open Ieee Go.RowKit
set_option linter.unusedVariables false

/-- A number from 0 to 1. -/
def shB (x : Nat) : Bool := !isN .f32 x && (decide (0 ≤ sr (FloatKind.format .f32) x) && decide (sr (FloatKind.format .f32) x ≤ 1065353216))
theorem sh_cmp {x y : Nat} (hx : isN .f32 x = false) (hy : isN .f32 y = false) : (sr (FloatKind.format .f32) x < sr (FloatKind.format .f32) y ∧ (FloatKind.format .f32).order x y = some .lt) ∨ (sr (FloatKind.format .f32) x = sr (FloatKind.format .f32) y ∧ (FloatKind.format .f32).order x y = some .eq) ∨ (sr (FloatKind.format .f32) y < sr (FloatKind.format .f32) x ∧ (FloatKind.format .f32).order x y = some .gt) := by
  rcases Int.lt_trichotomy (sr (FloatKind.format .f32) x) (sr (FloatKind.format .f32) y) with h | h | h
  · exact .inl ⟨h, (order_all .f32 x y hx hy).trans (congrArg some (Int.compare_eq_lt.2 h))⟩
  · exact .inr (.inl ⟨h, (order_all .f32 x y hx hy).trans (congrArg some (Int.compare_eq_eq.2 h))⟩)
  · exact .inr (.inr ⟨h, (order_all .f32 x y hx hy).trans (congrArg some (Int.compare_eq_gt.2 h))⟩)
theorem sh_k0 : sr (FloatKind.format .f32) 0 = 0 := by decide +kernel
theorem sh_k1 : sr (FloatKind.format .f32) 1065353216 = 1065353216 := by decide +kernel
theorem sh_n0 : isN .f32 0 = false := by decide +kernel
theorem sh_n1 : isN .f32 1065353216 = false := by decide +kernel
theorem sh_is {x : Nat} (hx : isN .f32 x = false) : shB x = (decide (0 ≤ sr (FloatKind.format .f32) x) && decide (sr (FloatKind.format .f32) x ≤ 1065353216)) := by unfold shB; rw [hx]; rfl
theorem sh_nan {x : Nat} (h : isN .f32 x = true) (y : Nat) : (FloatKind.format .f32).order x y = none := order_nan_left (show ((FloatKind.format .f32).read x).isNaN = true from h)
theorem sh_t {x : Nat} (h : shB x = true) : isN .f32 x = false ∧ 0 ≤ sr (FloatKind.format .f32) x ∧ sr (FloatKind.format .f32) x ≤ 1065353216 := by
  unfold shB at h
  simp at h
  exact ⟨by simpa using h.1, h.2.1, h.2.2⟩


end Go.Proofs.Ytcfejkkkleiejaa
