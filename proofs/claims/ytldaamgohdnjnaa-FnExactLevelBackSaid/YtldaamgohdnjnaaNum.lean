/-
  Structs of numbers in a block: all cells, none frozen.
-/
import Derived.Test.YtldaamgohdnjnaaFsl
import Derived.Test.YtldaamgohdnjnaaCSer
import Derived.Lib.Hide
import Derived.Below
namespace Go.Proofs.Ytldaamgohdnjnaa
open Ieee Go.RowKit
set_option linter.unusedVariables false

/-- The numbers xs stand in block p. -/
def NumsIn (w : World) (p : Nat) (xs : List Nat) : Prop := p < w.heap.size ∧ ∀ i, i < xs.length → w.cell? ⟨p, i, none⟩ = some (.float .f32 (xs.getD i 0)) ∧ w.frozen? ⟨p, i, none⟩ = false
theorem NumsIn.new (w : World) (xs : List Nat) (T : TypeId) : NumsIn (w.alloc (.cells (xs.map (Value.float .f32)).toArray T)) w.heap.size xs := by
  refine ⟨by simp, fun i hi => ⟨?_, World.frozen?_alloc_at _ _ _ _ rfl⟩⟩
  rw [World.cell?_alloc_at _ _ _ _ rfl]
  simp [List.getD, hi]
theorem NumsIn.newAt (w : World) (xs : List Nat) (T : TypeId) {p : Nat} (hp : p = w.heap.size) : NumsIn (w.alloc (.cells (xs.map (Value.float .f32)).toArray T)) p xs := by subst hp; exact NumsIn.new w xs T
theorem NumsIn.lt {w : World} {p : Nat} {xs : List Nat} (h : NumsIn w p xs) : p < w.heap.size := h.1
theorem NumsIn.belowB {w w' : World} {p B : Nat} {xs : List Nat} (h : NumsIn w p xs) (hb : Below B w w') (hp : p < B) : NumsIn w' p xs :=
  ⟨Nat.lt_of_lt_of_le h.1 hb.size, fun i hi => ⟨by rw [hb.cell (p := ⟨p, i, none⟩) hp]; exact (h.2 i hi).1, by rw [hb.frozen (p := ⟨p, i, none⟩) hp]; exact (h.2 i hi).2⟩⟩
theorem NumsIn.below {w w' : World} {p : Nat} {xs : List Nat} (h : NumsIn w p xs) (hb : Below w.heap.size w w') : NumsIn w' p xs := h.belowB hb h.lt
theorem NumsIn.alloc {w : World} {p : Nat} {xs : List Nat} (h : NumsIn w p xs) (o : Obj) : NumsIn (w.alloc o) p xs := h.below ((Below.refl _ _).alloc (Nat.le_refl _) o)
theorem NumsIn.drewN {w : World} {p : Nat} {xs : List Nat} (h : NumsIn w p xs) (n : Nat) : NumsIn (w.drewN n) p xs := h
theorem NumsIn.drew {w : World} {p : Nat} {xs : List Nat} (h : NumsIn w p xs) : NumsIn w.drew p xs := h
theorem NumsIn.set {w : World} {p q o : Nat} {v : Value} {xs : List Nat} (h : NumsIn w p xs) (hp : p ≠ q) : NumsIn (w.setCell ⟨q, o, none⟩ v) p xs :=
  ⟨by simpa [World.setCell] using h.1, fun i hi => ⟨by rw [World.cell?_setCell_other _ _ _ _ (by intro e; injection e with e1 _ _; exact hp e1.symm)]; exact (h.2 i hi).1, by rw [World.frozen?_setCell]; exact (h.2 i hi).2⟩⟩
theorem NumsIn.c4 {w : World} {p a b c d : Nat} (h : NumsIn w p [a, b, c, d]) : w.cell? ⟨p, 0, none⟩ = some (.float .f32 a) ∧ w.cell? ⟨p, 1, none⟩ = some (.float .f32 b) ∧ w.cell? ⟨p, 2, none⟩ = some (.float .f32 c) ∧ w.cell? ⟨p, 3, none⟩ = some (.float .f32 d) :=
  ⟨(h.2 0 (by simp)).1, (h.2 1 (by simp)).1, (h.2 2 (by simp)).1, (h.2 3 (by simp)).1⟩
theorem NumsIn.f4 {w : World} {p a b c d : Nat} (h : NumsIn w p [a, b, c, d]) : w.frozen? ⟨p, 0, none⟩ = false ∧ w.frozen? ⟨p, 1, none⟩ = false ∧ w.frozen? ⟨p, 2, none⟩ = false ∧ w.frozen? ⟨p, 3, none⟩ = false :=
  ⟨(h.2 0 (by simp)).2, (h.2 1 (by simp)).2, (h.2 2 (by simp)).2, (h.2 3 (by simp)).2⟩
theorem NumsIn.c8 {w : World} {p a b c d e f g k : Nat} (h : NumsIn w p [a, b, c, d, e, f, g, k]) : w.cell? ⟨p, 0, none⟩ = some (.float .f32 a) ∧ w.cell? ⟨p, 1, none⟩ = some (.float .f32 b) ∧ w.cell? ⟨p, 2, none⟩ = some (.float .f32 c) ∧ w.cell? ⟨p, 3, none⟩ = some (.float .f32 d) ∧ w.cell? ⟨p, 4, none⟩ = some (.float .f32 e) ∧ w.cell? ⟨p, 5, none⟩ = some (.float .f32 f) ∧ w.cell? ⟨p, 6, none⟩ = some (.float .f32 g) ∧ w.cell? ⟨p, 7, none⟩ = some (.float .f32 k) :=
  ⟨(h.2 0 (by simp)).1, (h.2 1 (by simp)).1, (h.2 2 (by simp)).1, (h.2 3 (by simp)).1, (h.2 4 (by simp)).1, (h.2 5 (by simp)).1, (h.2 6 (by simp)).1, (h.2 7 (by simp)).1⟩
theorem NumsIn.f8 {w : World} {p a b c d e f g k : Nat} (h : NumsIn w p [a, b, c, d, e, f, g, k]) : w.frozen? ⟨p, 0, none⟩ = false ∧ w.frozen? ⟨p, 1, none⟩ = false ∧ w.frozen? ⟨p, 2, none⟩ = false ∧ w.frozen? ⟨p, 3, none⟩ = false ∧ w.frozen? ⟨p, 4, none⟩ = false ∧ w.frozen? ⟨p, 5, none⟩ = false ∧ w.frozen? ⟨p, 6, none⟩ = false ∧ w.frozen? ⟨p, 7, none⟩ = false :=
  ⟨(h.2 0 (by simp)).2, (h.2 1 (by simp)).2, (h.2 2 (by simp)).2, (h.2 3 (by simp)).2, (h.2 4 (by simp)).2, (h.2 5 (by simp)).2, (h.2 6 (by simp)).2, (h.2 7 (by simp)).2⟩
/-- The same as a slice. -/
theorem NumsIn.fsl {w : World} {p n : Nat} {xs : List Nat} (h : NumsIn w p xs) (hn : xs.length = n) : FSl w (some ⟨p, 0, none⟩) n xs :=
  ⟨hn, .inr ⟨p, 0, rfl, h.1, fun i hi => by rw [Nat.zero_add]; exact (h.2 i (by omega)).1⟩⟩
end Go.Proofs.Ytldaamgohdnjnaa
