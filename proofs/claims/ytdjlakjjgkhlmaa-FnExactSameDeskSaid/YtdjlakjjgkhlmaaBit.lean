/-
  The bits of a number, whatever the word: in both packages; the same number.
-/
import Derived.Test.YtdjlakjjgkhlmaaExt
import Derived.Test.YtdjlakjjgkhlmaaFlr
import Derived.Below
namespace Go.Proofs.Ytdjlakjjgkhlmaa
open Ieee Go.RowKit
set_option linter.unusedVariables false

/-- The bits that both tell. -/
def bV (x : Nat) : Int := if isN .f32 x then 2143289344 else wrap64 (x : Int)
def smB (x y : Nat) : Bool := bV x == bV y
theorem imBits_any (x : Nat) (w : World) : Calls Try.prog 94 #[.float .f32 x] w fun e w' => e = .returned (.int .i64 (bV x)) ∧ w = w' := by
  have ho := order_self .f32 x
  cases h0 : isN .f32 x <;> simp only [h0, if_true, if_false, Bool.false_eq_true] at ho
  · obtain ⟨u, hu⟩ : ∃ u, wrap64 (x : Int) = u := ⟨_, rfl⟩
    have HB := Lib.hid (show bV x = u by rw [← hu]; unfold bV; rw [h0, if_neg (by simp)])
    clear h0
    go_enter Try.func94, Try.ntmps94
    go_wp2
    go_ret
    exact ⟨by rw [HB.out, ← hu]; rfl, rfl⟩
  · have HB := Lib.hid (show bV x = 2143289344 by unfold bV; rw [h0, if_pos rfl])
    clear h0
    go_enter Try.func94, Try.ntmps94
    go_wp2
    go_ret
    exact ⟨by rw [HB.out]; rfl, rfl⟩
theorem spBits_any (x : Nat) (w : World) : Calls Try.prog 127 #[.float .f32 x] w fun e w' => e = .returned (.int .i64 (bV x)) ∧ w = w' := by
  have ho := order_self .f32 x
  cases h0 : isN .f32 x <;> simp only [h0, if_true, if_false, Bool.false_eq_true] at ho
  · obtain ⟨u, hu⟩ : ∃ u, wrap64 (x : Int) = u := ⟨_, rfl⟩
    have HB := Lib.hid (show bV x = u by rw [← hu]; unfold bV; rw [h0, if_neg (by simp)])
    clear h0
    go_enter Try.func127, Try.ntmps127
    go_wp2
    go_ret
    exact ⟨by rw [HB.out, ← hu]; rfl, rfl⟩
  · have HB := Lib.hid (show bV x = 2143289344 by unfold bV; rw [h0, if_pos rfl])
    clear h0
    go_enter Try.func127, Try.ntmps127
    go_wp2
    go_ret
    exact ⟨by rw [HB.out]; rfl, rfl⟩
theorem spSame_any (x y : Nat) (w : World) : Calls Try.prog 119 #[.float .f32 x, .float .f32 y] w fun e w' => e = .returned (.bool (smB x y)) ∧ w = w' := by
  go_enter Try.func119, Try.ntmps119
  go_wp2_with fail
  refine (spBits_any _ _).mono ?_
  rintro e w' ⟨rfl, rfl⟩
  go_wp2_with fail
  refine (spBits_any _ _).mono ?_
  rintro e w' ⟨rfl, rfl⟩
  go_wp2
  go_ret
  exact ⟨by unfold smB; try rfl, rfl⟩
end Go.Proofs.Ytdjlakjjgkhlmaa
