/-
  A loop that fills a block of the call's own, element by element.
-/
import Derived.Test.YtopgegciejmhaaaFsl
import Derived.OwnWalk
import Derived.Laws.MakeOwn
import Derived.Laws.NewBlocks
namespace Go.Proofs.Ytopgegciejmhaaa
open Go.RowKit
set_option linter.unusedVariables false
theorem setCell_far {wr : World} {B k j : Nat} {v : Value} (h : j ≠ k) : (wr.setCell ⟨B, k, none⟩ v).cell? ⟨B, j, none⟩ = wr.cell? ⟨B, j, none⟩ := by
  apply World.cell?_setCell_other
  intro he
  injection he
  omega
section
variable {α : Type} {f : α → Value} {d : α}
/-- The first k cells of block B hold what they are to hold; the others hold something. -/
def Fills (f : α → Value) (d : α) (B len : Nat) (zs : List α) (k : Nat) (w wr : World) : Prop :=
  Below B w wr ∧ B < wr.heap.size ∧ (∀ j, j < k → wr.cell? ⟨B, j, none⟩ = some (f (zs.getD j d))) ∧ (∀ j, k ≤ j → j < len → ∃ v, wr.cell? ⟨B, j, none⟩ = some v) ∧ (∀ j, j < len → wr.frozen? ⟨B, j, none⟩ = false)
theorem Fills.start (B len : Nat) (zs : List α) (w : World) (z : Array Value) (t : TypeId) (hB : B = w.heap.size) (n : Nat) (hn : n = len) : Fills f d B len zs 0 w (w.alloc (.cells (madeCells z n) t)) := by
  subst hB hn
  refine ⟨(Below.refl _ _).alloc (Nat.le_refl _) _, by simp, fun j hj => by omega, fun j _ hj => ?_, fun j hj => World.frozen?_alloc_at _ _ _ _ rfl⟩
  rw [World.cell?_alloc_at _ _ _ _ rfl]
  exact ⟨_, Array.getElem?_eq_getElem (by rw [size_madeCells]; exact hj)⟩
theorem Fills.step {B len : Nat} {zs : List α} {k : Nat} {w wr : World} (h : Fills f d B len zs k w wr) (hk : k < len) : Fills f d B len zs (k + 1) w (wr.setCell ⟨B, k, none⟩ (f (zs.getD k d))) := by
  obtain ⟨h1, h2, h3, h4, h5⟩ := h
  obtain ⟨v, hv⟩ := h4 k (Nat.le_refl _) hk
  refine ⟨h1.setCell (Nat.le_refl _) _, by simpa using h2, fun j hj => ?_, fun j hj hl => ?_, fun j hj => by simpa using h5 j hj⟩
  · by_cases e : j = k
    · subst e; rw [World.cell?_setCell_same' _ _ _ (by rw [hv]; rfl)]
    · rw [setCell_far (by omega)]; exact h3 j (by omega)
  · rw [setCell_far (by omega)]; exact h4 j (by omega) hl
theorem Fills.next {B len : Nat} {zs : List α} {k : Nat} {w wr : World} (h : Fills f d B len zs k w wr) (hk : k < len) : (∃ v, wr.cell? ⟨B, k, none⟩ = some v) ∧ wr.frozen? ⟨B, k, none⟩ = false := ⟨h.2.2.2.1 k (Nat.le_refl _) hk, h.2.2.2.2 k hk⟩
theorem Fills.drewN {B len : Nat} {zs : List α} {k : Nat} {w wr : World} (h : Fills f d B len zs k w wr) (n : Nat) : Fills f d B len zs k w (wr.drewN n) := ⟨below_drewN h.1 n, h.2⟩
theorem Fills.done {B len : Nat} {zs : List α} {w wr : World} (h : Fills f d B len zs len w wr) (hz : zs.length = len) : VSl f d wr (some ⟨B, 0, none⟩) len zs :=
  ⟨hz, .inr ⟨B, 0, rfl, h.2.1, fun i hi => by rw [Nat.zero_add]; exact h.2.2.1 i hi⟩⟩
end
theorem run_make_len {P : Program} (w : World) (t e : TypeId) (i : TypeInfo) (z : Value) (ht : P.underlying t = some (.slice e)) (hi : P.info? e = some i) (hz : i.zero = some z) (hs : i.size = 1)
    (len : Nat) (hb : i.bytes * len ≤ 281474976710656) (hl : len ≤ 9223372036854775807) :
    (Instr.makeSlice t (.int .i64 (len : Int)) (.int .i64 (len : Int))).run P w = .ok (.slice (some ⟨w.heap.size, 0, none⟩) len len) (w.alloc (.cells (madeCells z.cells len) e)) := by
  have h := run_make (P := P) w t e i z ht hi hz .i64 .i64 (len : Int) (len : Int) (by omega) (Int.le_refl _) (by
    have : ((i.bytes * len : Nat) : Int) ≤ 281474976710656 := by omega
    rwa [Int.natCast_mul] at this) (by omega)
  rw [h, hs]
  simp
end Go.Proofs.Ytopgegciejmhaaa
