/-
  Finite numbers of at least 0, and above it.
-/
import Derived.Test.YtldaamgohdnjnaaCSer
import Derived.Test.YtldaamgohdnjnaaCPos
namespace Go.Proofs.Ytldaamgohdnjnaa
open Ieee Go.RowKit
set_option linter.unusedVariables false

/-- At least 0, by the order of words. -/
def geB (x : Nat) : Bool := (FloatKind.format .f32).order x 0 == some .gt || (FloatKind.format .f32).order x 0 == some .eq
theorem geB_congr {x y : Nat} (h : cn .f32 x = cn .f32 y) : geB x = geB y := by unfold geB; rw [order_left .f32 h 0]
def leaB (x : Nat) : Bool := fin .f32 x && geB x
def abvB (x : Nat) : Bool := fin .f32 x && posB x
theorem leaB_congr {x y : Nat} (h : cn .f32 x = cn .f32 y) : leaB x = leaB y := by unfold leaB; rw [fin_congr h, geB_congr h]
theorem abvB_congr {x y : Nat} (h : cn .f32 x = cn .f32 y) : abvB x = abvB y := by unfold abvB; rw [fin_congr h, posB_congr h]
theorem abv_any (x : Nat) (w : World) : Calls Try.prog 132 #[.float .f32 x] w (RetV (.bool (abvB x)) w) := by
  cases hf : fin .f32 x
  · have HF := Lib.hid hf
    have HE := Lib.hid (show abvB x = false by unfold abvB; rw [hf]; rfl)
    clear hf
    go_enter Try.func132, Try.ntmps132
    go_wp2_with (go_at_call 71; refine (l01Finite_any _ _).mono ?_; rw [HF.out]; rintro e w' ⟨m, rfl, rfl⟩)
    go_ret
    exact ⟨m, by first | (rw [HE.out]; done) | (rw [HE.out]; rfl), rfl⟩
  · have HF := Lib.hid hf
    have HP := Lib.hid (show abvB x = ((FloatKind.format .f32).order x 0 == some .gt) by unfold abvB; rw [hf]; rfl)
    clear hf
    go_enter Try.func132, Try.ntmps132
    go_wp2_with (go_at_call 71; refine (l01Finite_any _ _).mono ?_; rw [HF.out]; rintro e w' ⟨m, rfl, rfl⟩)
    go_ret
    exact ⟨m, congrArg (fun b => Ending.returned (Value.bool b)) (by first | (rw [HP.out]; done) | (rw [HP.out]; rfl)), rfl⟩
theorem lea_any (x : Nat) (w : World) : Calls Try.prog 131 #[.float .f32 x] w (RetV (.bool (leaB x)) w) := by
  cases hf : fin .f32 x
  · have HF := Lib.hid hf
    have HE := Lib.hid (show leaB x = false by unfold leaB; rw [hf]; rfl)
    clear hf
    go_enter Try.func131, Try.ntmps131
    go_wp2_with (go_at_call 71; refine (l01Finite_any _ _).mono ?_; rw [HF.out]; rintro e w' ⟨m, rfl, rfl⟩)
    go_ret
    exact ⟨m, by first | (rw [HE.out]; done) | (rw [HE.out]; rfl), rfl⟩
  · have HF := Lib.hid hf
    have HP := Lib.hid (show leaB x = ((FloatKind.format .f32).order x 0 == some .gt || (FloatKind.format .f32).order x 0 == some .eq) by unfold leaB; rw [hf]; rfl)
    clear hf
    go_enter Try.func131, Try.ntmps131
    go_wp2_with (go_at_call 71; refine (l01Finite_any _ _).mono ?_; rw [HF.out]; rintro e w' ⟨m, rfl, rfl⟩)
    go_ret
    exact ⟨m, congrArg (fun b => Ending.returned (Value.bool b)) (by first | (rw [HP.out]; done) | (rw [HP.out]; rfl)), rfl⟩
end Go.Proofs.Ytldaamgohdnjnaa
