/-
  GuessOf, in both packages.
-/
import Derived.Test.YtcfejkkkleiejaaVst
import Derived.Deep.RegionWith
namespace Go.Proofs.Ytcfejkkkleiejaa
open Ieee Go.RowKit
set_option linter.unusedVariables false

/-- A level, some slopes, and a number of the season. -/
def gW (l s d z : Nat) : Nat := aop .add .f32 (aop .add .f32 l (aop .mul .f32 d s)) z
theorem cn_gW (l s d z : Nat) : cn .f32 (gW l s d z) = gW l s d z := cn_aop ..
theorem gW_step (l s d z : Nat) (w1 w2 w3 : World) : cn .f32 (fopR .add .f32 (fopR .add .f32 l (fopR .mul .f32 d s w1) w2) z w3) = gW (cn .f32 l) (cn .f32 s) (cn .f32 d) (cn .f32 z) := by
  rw [cn_fopR, cn_fopR, cn_fopR]; rfl
def guW (l s : Nat) (zs : List Nat) (t : Int) (d : Nat) : Nat := gW (cn .f32 l) (cn .f32 s) (cn .f32 d) (cn .f32 (zs.getD t.toNat 0))
theorem cn_gu (l s : Nat) (zs : List Nat) (t : Int) (d : Nat) : cn .f32 (guW l s zs t d) = guW l s zs t d := cn_gW ..
def guB (l s : Nat) (zs : List Nat) (t : Int) (a b c d : Nat) : Bool := (stB l s zs t && shB4 a b c d) && fin .f32 (guW l s zs t d)
def guR (l s : Nat) (zs : List Nat) (t : Int) (a b c d : Nat) : Nat := if guB l s zs t a b c d then guW l s zs t d else 0
/-- A number and a bool. -/
def RetNB (v : Nat) (b : Bool) (w : World) (e : Ending) (w' : World) : Prop := ∃ r, cn .f32 r = v ∧ e = .returned (.tuple #[.float .f32 r, .bool b]) ∧ Below w.heap.size w w'
theorem gu_bad {l s : Nat} {zs : List Nat} {t : Int} {a b c d : Nat} (h : (stB l s zs t && shB4 a b c d) = false) : guB l s zs t a b c d = false ∧ guR l s zs t a b c d = 0 := by
  have : guB l s zs t a b c d = false := by unfold guB; rw [h]; rfl
  exact ⟨this, by unfold guR; rw [this]; rfl⟩
theorem gu_good {l s : Nat} {zs : List Nat} {t : Int} {a b c d r x : Nat} (h1 : stB l s zs t = true) (h2 : shB4 a b c d = true) (hx : cn .f32 x = guW l s zs t d) (hr : cn .f32 r = if fin .f32 x then cn .f32 x else 0) : cn .f32 r = guR l s zs t a b c d ∧ fin .f32 x = guB l s zs t a b c d := by
  have e : fin .f32 x = fin .f32 (guW l s zs t d) := fin_congr (by rw [hx, cn_gu])
  have e2 : guB l s zs t a b c d = fin .f32 (guW l s zs t d) := by unfold guB; rw [h1, h2]; rfl
  refine ⟨?_, by rw [e2, e]⟩
  rw [hr, e, hx]; unfold guR; rw [e2]

end Go.Proofs.Ytcfejkkkleiejaa
