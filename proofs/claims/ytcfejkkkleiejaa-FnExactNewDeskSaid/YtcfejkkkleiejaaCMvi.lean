/-
  MovingMean of the program.
-/
import Derived.Test.YtcfejkkkleiejaaCMov
namespace Go.Proofs.Ytcfejkkkleiejaa
open Ieee Go.RowKit
set_option linter.unusedVariables false

theorem mean_tells (A : Option Addr) (n cap : Nat) (ys : List Nat) (wr : World) (h : FSl wr A n ys) (hs : serB ys = true) (_h1 : n ≤ cap) (_h2 : cap ≤ 1048576) :
    Calls Try.prog 18 #[.slice A n cap] wr (TellsW mean32 ys wr) := by
  have hB : meanB ys = fin .f32 (mean32 ys) := by unfold meanB; rw [hs]; rfl
  refine (implMean_any A n cap ys wr h (by omega)).mono ?_
  rw [hB]
  rintro e w' ⟨r, m, hr, rfl, rfl⟩
  refine ⟨r, rfl, fun hf => ?_, below_drewN (Below.refl _ _) _⟩
  rw [hr]
  unfold meanR
  rw [hB, hf]
  rfl
end Go.Proofs.Ytcfejkkkleiejaa
