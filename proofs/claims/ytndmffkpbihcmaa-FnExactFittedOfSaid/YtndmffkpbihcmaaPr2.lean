/-
  Two series of the same length, in the model of chapter 6; what measures tell, plainly.
-/
import Derived.Test.YtndmffkpbihcmaaCAre
import Derived.Test.YtndmffkpbihcmaaMta
namespace Go.Proofs.Ytndmffkpbihcmaa
open Ieee Go.RowKit
set_option linter.unusedVariables false

/-- What is told of each number and its guess. -/
def tell2 (T : Nat → Nat → Nat) (zs ys : List Nat) (k : Nat) : Nat := T (cn .f32 (zs.getD k 0)) (cn .f32 (ys.getD k 0))
def msL (T : Nat → Nat → Nat) (zs ys : List Nat) : List Nat := tells (tell2 T zs ys) zs.length
def msB (T : Nat → Nat → Nat) (zs ys : List Nat) : Bool := pairB zs ys && mtB (msL T zs ys)
def msV (T : Nat → Nat → Nat) (zs ys : List Nat) : Nat := if msB T zs ys then mean32 (msL T zs ys) else 0
theorem ms_bad {T : Nat → Nat → Nat} {zs ys : List Nat} (h : pairB zs ys = false) : msB T zs ys = false ∧ msV T zs ys = 0 := by
  have : msB T zs ys = false := by unfold msB; rw [h]; rfl
  exact ⟨this, by unfold msV; rw [this]; rfl⟩
theorem ms_good {T : Nat → Nat → Nat} {zs ys : List Nat} (h : pairB zs ys = true) : msB T zs ys = mtB (msL T zs ys) ∧ msV T zs ys = mtV (msL T zs ys) := by
  have : msB T zs ys = mtB (msL T zs ys) := by unfold msB; rw [h]; rfl
  exact ⟨this, by unfold msV mtV; rw [this]⟩
theorem ms_end {T : Nat → Nat → Nat} {zs ys : List Nat} {r x : Nat} (h : cn .f32 r = if fin .f32 x then cn .f32 x else 0) (hs : pairB zs ys = true) (hx : cn .f32 x = mean32 (msL T zs ys)) : cn .f32 r = msV T zs ys ∧ fin .f32 x = msB T zs ys := by
  obtain ⟨e1, e2⟩ := ms_good (T := T) hs
  have hf : fin .f32 x = mtB (msL T zs ys) := fin_congr (hx.trans (cn_mean _).symm)
  rw [h, hf, hx, e1, e2]
  exact ⟨rfl, rfl⟩
end Go.Proofs.Ytndmffkpbihcmaa
