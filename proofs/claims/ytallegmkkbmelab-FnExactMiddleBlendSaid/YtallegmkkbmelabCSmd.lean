/-
  'summed' of the program, over any closure.
-/
import Derived.Test.YtallegmkkbmelabCPos
import Derived.Test.YtallegmkkbmelabCPlc
import Derived.Deep.RegionHeld3
namespace Go.Proofs.Ytallegmkkbmelab
open Ieee Go.RowKit
set_option linter.unusedVariables false

/-- What a closure's call gives that is summed. -/
def Adds (tell : Nat → Nat) (I : Nat → World → Prop) (B0 k : Nat) (wr : World) (e : Ending) (w' : World) : Prop :=
  ∃ r, e = .returned (.float .f32 r) ∧ cn .f32 r = tell k ∧ I (k + 1) w' ∧ Below B0 wr w'
def RetS (tell : Nat → Nat) (I : Nat → World → Prop) (B0 n : Nat) (w : World) (e : Ending) (w' : World) : Prop :=
  ∃ r, e = .returned (.float .f32 r) ∧ cn .f32 r = sumT tell n ∧ I n w' ∧ Below B0 w w'
theorem Adds.quiet {tell : Nat → Nat} {I : Nat → World → Prop} {B0 k n r : Nat} {wr : World} (hr : cn .f32 r = tell k) (hI : I (k + 1) (wr.drewN n)) : Adds tell I B0 k wr (.returned (.float .f32 r)) (wr.drewN n) :=
  ⟨r, rfl, hr, hI, below_drewN (Below.refl _ _) n⟩
end Go.Proofs.Ytallegmkkbmelab
