/-
  Shares: the law's copies, and ValidShares in both packages.
-/
import Derived.Test.YtcfejkkkleiejaaCShr
import Derived.Test.YtcfejkkkleiejaaSts
import Derived.Test.YtcfejkkkleiejaaCMrk
import Derived.Deep.QuietTactic
import Derived.BigQuiet
import Derived.Deep.RegionHeld3
namespace Go.Proofs.Ytcfejkkkleiejaa
open Ieee Go.RowKit
set_option linter.unusedVariables false

/-- Shares are valid. -/
def shB4 (a b c d : Nat) : Bool := shB a && shB b && shB c && shB d
/-- Shares stand in a block. -/
def ShIn (w : World) (p a b c d : Nat) : Prop := w.cell? ⟨p, 0, none⟩ = some (.float .f32 a) ∧ w.cell? ⟨p, 1, none⟩ = some (.float .f32 b) ∧ w.cell? ⟨p, 2, none⟩ = some (.float .f32 c) ∧ w.cell? ⟨p, 3, none⟩ = some (.float .f32 d)
theorem ShIn.new (w : World) (a b c d : Nat) (t : TypeId) : ShIn (w.alloc (.cells #[.float .f32 a, .float .f32 b, .float .f32 c, .float .f32 d] t)) w.heap.size a b c d := by
  refine ⟨?_, ?_, ?_, ?_⟩ <;> (rw [World.cell?_alloc_at _ _ _ _ rfl]; rfl)
theorem ShIn.lt {w : World} {p a b c d : Nat} (h : ShIn w p a b c d) : p < w.heap.size := lt_of_cell h.1
theorem ShIn.belowB {w w' : World} {p a b c d B : Nat} (h : ShIn w p a b c d) (hb : Below B w w') (hp : p < B) : ShIn w' p a b c d := by
  obtain ⟨h0, h1, h2, h3⟩ := h
  refine ⟨?_, ?_, ?_, ?_⟩
  · rw [hb.cell (p := ⟨p, 0, none⟩) hp]; exact h0
  · rw [hb.cell (p := ⟨p, 1, none⟩) hp]; exact h1
  · rw [hb.cell (p := ⟨p, 2, none⟩) hp]; exact h2
  · rw [hb.cell (p := ⟨p, 3, none⟩) hp]; exact h3
theorem ShIn.below {w w' : World} {p a b c d : Nat} (h : ShIn w p a b c d) (hb : Below w.heap.size w w') : ShIn w' p a b c d := h.belowB hb h.lt
theorem ShIn.alloc {w : World} {p a b c d : Nat} (h : ShIn w p a b c d) (o : Obj) : ShIn (w.alloc o) p a b c d := h.below ((Below.refl _ _).alloc (Nat.le_refl _) o)
theorem ShIn.drew {w : World} {p a b c d : Nat} (h : ShIn w p a b c d) : ShIn w.drew p a b c d := h
theorem ShIn.drewN {w : World} {p a b c d : Nat} (h : ShIn w p a b c d) (n : Nat) : ShIn (w.drewN n) p a b c d := h

theorem ShIn.only {w w' : World} {p a b c d q : Nat} (h : ShIn w p a b c d) (ho : Only q w w') (hp : p ≠ q) : ShIn w' p a b c d := by
  obtain ⟨h0, h1, h2, h3⟩ := h
  refine ⟨?_, ?_, ?_, ?_⟩
  · rw [ho.cell (p := ⟨p, 0, none⟩) hp]; exact h0
  · rw [ho.cell (p := ⟨p, 1, none⟩) hp]; exact h1
  · rw [ho.cell (p := ⟨p, 2, none⟩) hp]; exact h2
  · rw [ho.cell (p := ⟨p, 3, none⟩) hp]; exact h3
end Go.Proofs.Ytcfejkkkleiejaa
