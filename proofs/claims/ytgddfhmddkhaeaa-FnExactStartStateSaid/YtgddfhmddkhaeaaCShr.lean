/-
  Shares: numbers from 0 to 1, in both packages.
-/
import Derived.Test.YtgddfhmddkhaeaaExt
import Derived.Test.YtgddfhmddkhaeaaFlv
import Derived.Test.YtgddfhmddkhaeaaFlr
import Derived.Deep.RegionWith
namespace Go.Proofs.Ytgddfhmddkhaeaa
open Ieee Go.RowKit
set_option linter.unusedVariables false

/-- A number from 0 to 1. -/
def shB (x : Nat) : Bool := !isN .f32 x && (decide (0 ≤ sr (FloatKind.format .f32) x) && decide (sr (FloatKind.format .f32) x ≤ 1065353216))
theorem sh_cmp {x y : Nat} (hx : isN .f32 x = false) (hy : isN .f32 y = false) : (sr (FloatKind.format .f32) x < sr (FloatKind.format .f32) y ∧ (FloatKind.format .f32).order x y = some .lt) ∨ (sr (FloatKind.format .f32) x = sr (FloatKind.format .f32) y ∧ (FloatKind.format .f32).order x y = some .eq) ∨ (sr (FloatKind.format .f32) y < sr (FloatKind.format .f32) x ∧ (FloatKind.format .f32).order x y = some .gt) := by
  rcases Int.lt_trichotomy (sr (FloatKind.format .f32) x) (sr (FloatKind.format .f32) y) with h | h | h
  · exact .inl ⟨h, (order_all .f32 x y hx hy).trans (congrArg some (Int.compare_eq_lt.2 h))⟩
  · exact .inr (.inl ⟨h, (order_all .f32 x y hx hy).trans (congrArg some (Int.compare_eq_eq.2 h))⟩)
  · exact .inr (.inr ⟨h, (order_all .f32 x y hx hy).trans (congrArg some (Int.compare_eq_gt.2 h))⟩)
theorem sh_k0 : sr (FloatKind.format .f32) 0 = 0 := by decide +kernel
theorem sh_k1 : sr (FloatKind.format .f32) 1065353216 = 1065353216 := by decide +kernel
theorem sh_n0 : isN .f32 0 = false := by decide +kernel
theorem sh_n1 : isN .f32 1065353216 = false := by decide +kernel
theorem sh_is {x : Nat} (hx : isN .f32 x = false) : shB x = (decide (0 ≤ sr (FloatKind.format .f32) x) && decide (sr (FloatKind.format .f32) x ≤ 1065353216)) := by unfold shB; rw [hx]; rfl
theorem sh_nan {x : Nat} (h : isN .f32 x = true) (y : Nat) : (FloatKind.format .f32).order x y = none := order_nan_left (show ((FloatKind.format .f32).read x).isNaN = true from h)
theorem sh_t {x : Nat} (h : shB x = true) : isN .f32 x = false ∧ 0 ≤ sr (FloatKind.format .f32) x ∧ sr (FloatKind.format .f32) x ≤ 1065353216 := by
  unfold shB at h
  simp at h
  exact ⟨by simpa using h.1, h.2.1, h.2.2⟩

theorem spSh_any (x : Nat) (w : World) : Calls Try.prog 98 #[.float .f32 x] w fun e w' => e = .returned (.bool (shB x)) ∧ w = w' := by
  cases hn : isN .f32 x
  · have hS := Lib.hid (sh_is hn)
    rcases sh_cmp hn sh_n0 with ⟨h, o1⟩ | ⟨h, o1⟩ | ⟨h, o1⟩ <;> rcases sh_cmp hn sh_n1 with ⟨g, o2⟩ | ⟨g, o2⟩ | ⟨g, o2⟩
    all_goals
      rw [sh_k0] at h
      rw [sh_k1] at g
      have HB := hS
      clear hS
      first
        | (have HT := Lib.hid (show shB x = true by rw [HB.out, decide_eq_true (by omega), decide_eq_true (by omega)]; rfl)
           clear h g hn
           go_enter Try.func98, Try.ntmps98
           go_wp2
           go_ret
           exact ⟨by rw [HT.out]; rfl, rfl⟩)
        | (have HT := Lib.hid (show shB x = false by rw [HB.out]; first | (rw [decide_eq_false (by omega)]; rfl) | (rw [decide_eq_false (show ¬ sr (FloatKind.format .f32) x ≤ 1065353216 by omega), Bool.and_false]))
           clear h g hn
           go_enter Try.func98, Try.ntmps98
           go_wp2
           go_ret
           exact ⟨by rw [HT.out]; rfl, rfl⟩)
  · have o1 := sh_nan hn 0
    have o2 := sh_nan hn 1065353216
    have HT := Lib.hid (show shB x = false by unfold shB; rw [hn]; rfl)
    clear hn
    go_enter Try.func98, Try.ntmps98
    go_wp2
    go_ret
    exact ⟨by rw [HT.out]; rfl, rfl⟩

theorem imSh_any (x : Nat) (w : World) : Calls Try.prog 100 #[.float .f32 x] w fun e w' => e = .returned (.bool (shB x)) ∧ w = w' := by
  cases hn : isN .f32 x
  · have hS := Lib.hid (sh_is hn)
    rcases sh_cmp hn sh_n0 with ⟨h, o1⟩ | ⟨h, o1⟩ | ⟨h, o1⟩ <;> rcases sh_cmp hn sh_n1 with ⟨g, o2⟩ | ⟨g, o2⟩ | ⟨g, o2⟩
    all_goals
      rw [sh_k0] at h
      rw [sh_k1] at g
      have HB := hS
      clear hS
      first
        | (have HT := Lib.hid (show shB x = true by rw [HB.out, decide_eq_true (by omega), decide_eq_true (by omega)]; rfl)
           clear h g hn
           go_enter Try.func100, Try.ntmps100
           go_wp2
           go_ret
           exact ⟨by rw [HT.out]; rfl, rfl⟩)
        | (have HT := Lib.hid (show shB x = false by rw [HB.out]; first | (rw [decide_eq_false (by omega)]; rfl) | (rw [decide_eq_false (show ¬ sr (FloatKind.format .f32) x ≤ 1065353216 by omega), Bool.and_false]))
           clear h g hn
           go_enter Try.func100, Try.ntmps100
           go_wp2
           go_ret
           exact ⟨by rw [HT.out]; rfl, rfl⟩)
  · have o1 := sh_nan hn 0
    have o2 := sh_nan hn 1065353216
    have HT := Lib.hid (show shB x = false by unfold shB; rw [hn]; rfl)
    clear hn
    go_enter Try.func100, Try.ntmps100
    go_wp2
    go_ret
    exact ⟨by rw [HT.out]; rfl, rfl⟩
end Go.Proofs.Ytgddfhmddkhaeaa
