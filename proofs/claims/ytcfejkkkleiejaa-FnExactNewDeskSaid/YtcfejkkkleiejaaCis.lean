/-
  Values in a block: all cells, none frozen; copies of lists with a name for their place; sizes of lists.
-/
import Derived.Test.YtcfejkkkleiejaaCLaw
import Derived.Deep.QuietTactic
import Derived.BigQuiet
namespace Go.Proofs.Ytcfejkkkleiejaa
open Ieee Go.RowKit
set_option linter.unusedVariables false
/-- Values stand in a block, none frozen. -/
def CIs (w : World) (p : Nat) (vs : List Value) : Prop := p < w.heap.size ∧ ∀ i, i < vs.length → w.cell? ⟨p, i, none⟩ = some (vs.getD i undef) ∧ w.frozen? ⟨p, i, none⟩ = false
theorem CIs.newAt (w : World) (vs : List Value) (T : TypeId) {p : Nat} (hp : p = w.heap.size) : CIs (w.alloc (.cells vs.toArray T)) p vs := by
  subst hp
  refine ⟨by simp, fun i hi => ⟨?_, World.frozen?_alloc_at _ _ _ _ rfl⟩⟩
  rw [World.cell?_alloc_at _ _ _ _ rfl]
  simp [List.getD, hi]
theorem CIs.belowB {w w' : World} {p B : Nat} {xs : List Value} (h : CIs w p xs) (hb : Below B w w') (hp : p < B) : CIs w' p xs :=
  ⟨Nat.lt_of_lt_of_le h.1 hb.size, fun i hi => ⟨by rw [hb.cell (p := ⟨p, i, none⟩) hp]; exact (h.2 i hi).1, by rw [hb.frozen (p := ⟨p, i, none⟩) hp]; exact (h.2 i hi).2⟩⟩
theorem CIs.below {w w' : World} {p : Nat} {xs : List Value} (h : CIs w p xs) (hb : Below w.heap.size w w') : CIs w' p xs := h.belowB hb h.1
theorem CIs.alloc {w : World} {p : Nat} {xs : List Value} (h : CIs w p xs) (o : Obj) : CIs (w.alloc o) p xs := h.below ((Below.refl _ _).alloc (Nat.le_refl _) o)
theorem CIs.drewN {w : World} {p : Nat} {xs : List Value} (h : CIs w p xs) (n : Nat) : CIs (w.drewN n) p xs := h
theorem CIs.set {w : World} {p q o : Nat} {v : Value} {xs : List Value} (h : CIs w p xs) (hp : p ≠ q) : CIs (w.setCell ⟨q, o, none⟩ v) p xs :=
  ⟨by simpa [World.setCell] using h.1, fun i hi => ⟨by rw [World.cell?_setCell_other _ _ _ _ (by intro e; injection e with e1 _ _; exact hp e1.symm)]; exact (h.2 i hi).1, by rw [World.frozen?_setCell]; exact (h.2 i hi).2⟩⟩
theorem CIs.put {w : World} {p o : Nat} {v : Value} {xs : List Value} (h : CIs w p xs) (ho : o < xs.length) : CIs (w.setCell ⟨p, o, none⟩ v) p (xs.set o v) := by
  refine ⟨by simpa [World.setCell] using h.1, fun i hi0 => ?_⟩
  have hi : i < xs.length := by simpa using hi0
  refine ⟨?_, by rw [World.frozen?_setCell]; exact (h.2 i hi).2⟩
  by_cases e : i = o
  · subst e
    rw [World.cell?_setCell_same' _ _ _ (by rw [(h.2 i hi).1]; rfl)]
    simp [List.getD, hi]
  · rw [World.cell?_setCell_other _ _ _ _ (by intro e2; injection e2 with _ e2 _; exact e e2.symm), (h.2 i hi).1]
    have e' : ¬ o = i := fun h => e h.symm
    simp [List.getD, e']
theorem CIs.c10 {w : World} {p : Nat} {a b c d e f g h i j : Value} (k : CIs w p [a, b, c, d, e, f, g, h, i, j]) :
    w.cell? ⟨p, 0, none⟩ = some a ∧ w.cell? ⟨p, 1, none⟩ = some b ∧ w.cell? ⟨p, 2, none⟩ = some c ∧ w.cell? ⟨p, 3, none⟩ = some d ∧ w.cell? ⟨p, 4, none⟩ = some e ∧
    w.cell? ⟨p, 5, none⟩ = some f ∧ w.cell? ⟨p, 6, none⟩ = some g ∧ w.cell? ⟨p, 7, none⟩ = some h ∧ w.cell? ⟨p, 8, none⟩ = some i ∧ w.cell? ⟨p, 9, none⟩ = some j :=
  ⟨(k.2 0 (by simp)).1, (k.2 1 (by simp)).1, (k.2 2 (by simp)).1, (k.2 3 (by simp)).1, (k.2 4 (by simp)).1, (k.2 5 (by simp)).1, (k.2 6 (by simp)).1, (k.2 7 (by simp)).1, (k.2 8 (by simp)).1, (k.2 9 (by simp)).1⟩
theorem CIs.f10 {w : World} {p : Nat} {a b c d e f g h i j : Value} (k : CIs w p [a, b, c, d, e, f, g, h, i, j]) :
    w.frozen? ⟨p, 0, none⟩ = false ∧ w.frozen? ⟨p, 1, none⟩ = false ∧ w.frozen? ⟨p, 2, none⟩ = false ∧ w.frozen? ⟨p, 3, none⟩ = false ∧ w.frozen? ⟨p, 4, none⟩ = false ∧
    w.frozen? ⟨p, 5, none⟩ = false ∧ w.frozen? ⟨p, 6, none⟩ = false ∧ w.frozen? ⟨p, 7, none⟩ = false ∧ w.frozen? ⟨p, 8, none⟩ = false ∧ w.frozen? ⟨p, 9, none⟩ = false :=
  ⟨(k.2 0 (by simp)).2, (k.2 1 (by simp)).2, (k.2 2 (by simp)).2, (k.2 3 (by simp)).2, (k.2 4 (by simp)).2, (k.2 5 (by simp)).2, (k.2 6 (by simp)).2, (k.2 7 (by simp)).2, (k.2 8 (by simp)).2, (k.2 9 (by simp)).2⟩
theorem CIs.c4 {w : World} {p : Nat} {a b c d : Value} (k : CIs w p [a, b, c, d]) :
    w.cell? ⟨p, 0, none⟩ = some a ∧ w.cell? ⟨p, 1, none⟩ = some b ∧ w.cell? ⟨p, 2, none⟩ = some c ∧ w.cell? ⟨p, 3, none⟩ = some d :=
  ⟨(k.2 0 (by simp)).1, (k.2 1 (by simp)).1, (k.2 2 (by simp)).1, (k.2 3 (by simp)).1⟩
theorem CIs.f4 {w : World} {p : Nat} {a b c d : Value} (k : CIs w p [a, b, c, d]) :
    w.frozen? ⟨p, 0, none⟩ = false ∧ w.frozen? ⟨p, 1, none⟩ = false ∧ w.frozen? ⟨p, 2, none⟩ = false ∧ w.frozen? ⟨p, 3, none⟩ = false :=
  ⟨(k.2 0 (by simp)).2, (k.2 1 (by simp)).2, (k.2 2 (by simp)).2, (k.2 3 (by simp)).2⟩
theorem CIs.lt {w : World} {p : Nat} {xs : List Value} (h : CIs w p xs) : p < w.heap.size := h.1
theorem CIs.drew {w : World} {p : Nat} {xs : List Value} (h : CIs w p xs) : CIs w.drew p xs := h
theorem Held.dw {w : World} {A : Option Addr} {b len : Nat} {rs : List Nat} (h : Held w A b len rs) : Held w.drew A b len rs := h.drewN 1
theorem Held.setC {w : World} {A : Option Addr} {b len : Nat} {rs : List Nat} {c o : Nat} {v : Value} (h : Held w A b len rs) (hc : b ≠ c) : Held (w.setCell ⟨c, o, none⟩ v) A b len rs := by
  refine ⟨FSl.same h.sl (by simp [World.setCell]) (fun b' off h0 e => ?_), h.at_, fun h0 => by simpa [World.setCell] using h.lt_ h0, fun j hj => ?_⟩
  · have e2 := h.at_ h0
    rw [e] at e2
    injection e2 with e2
    injection e2 with e2
    subst e2
    exact Below.heap_setCell w _ _ _ hc
  · rw [World.cell?_setCell_other _ _ _ _ (by intro e; injection e with e1 _ _; exact hc e1.symm), World.frozen?_setCell]
    exact h.wri j hj
end Go.Proofs.Ytcfejkkkleiejaa
