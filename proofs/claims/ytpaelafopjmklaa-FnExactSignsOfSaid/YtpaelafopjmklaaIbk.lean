/-
  A block of whole numbers that a call makes and writes in place; numbers not above another one, counted.
-/
import Derived.Test.YtpaelafopjmklaaIlw
import Derived.Test.YtpaelafopjmklaaCPlc
namespace Go.Proofs.Ytpaelafopjmklaa
open Ieee Go.RowKit
set_option linter.unusedVariables false

/-- Block g holds the n whole numbers f 0, f 1, .. . -/
def IBlk (T : TypeId) (g n : Nat) (f : Nat → Int) (w : World) : Prop := w.heap[g]? = some (.cells ((List.range n).map (fun j => Value.int .i64 (f j))).toArray T (0, 0))
section
variable {T : TypeId} {g n : Nat} {f f' : Nat → Int} {w w' : World}
theorem IBlk.congr (h : IBlk T g n f w) (he : ∀ j, j < n → f j = f' j) : IBlk T g n f' w := by
  unfold IBlk at *
  rw [h]
  congr 3
  exact List.map_congr_left fun j hj => by rw [he j (by simpa using hj)]
theorem IBlk.start (w : World) (T : TypeId) (n : Nat) : IBlk T w.heap.size n (fun _ => 0) (w.alloc (.cells (madeCells (Value.int .i64 0).cells n) T)) := by
  unfold IBlk
  rw [heap_alloc_new]
  congr 2
  apply Array.toList_inj.1
  rw [show (Value.int IntKind.i64 0).cells = #[Value.int IntKind.i64 0] from rfl, toList_madeCells_one]
  refine List.ext_getElem (by simp) fun i h1 h2 => by simp
theorem IBlk.drewN (h : IBlk T g n f w) (k : Nat) : IBlk T g n f (w.drewN k) := h
theorem IBlk.same (h : IBlk T g n f w) (hb : w'.heap[g]? = w.heap[g]?) : IBlk T g n f w' := hb.trans h
theorem IBlk.cell (h : IBlk T g n f w) {j : Nat} (hj : j < n) : w.cell? ⟨g, j, none⟩ = some (.int .i64 (f j)) ∧ w.frozen? ⟨g, j, none⟩ = false := by
  unfold IBlk at h
  refine ⟨?_, by simp [World.frozen?, h]⟩
  rw [cell_of_row w g j _ T (0, 0) h]
  simp [hj]
theorem IBlk.set (h : IBlk T g n f w) {i : Nat} (hi : i < n) (x : Int) : IBlk T g n (fun j => if j = i then x else f j) (w.setCell ⟨g, i, none⟩ (.int .i64 x)) := by
  unfold IBlk at *
  simp only [World.setCell, Array.getElem?_modify, h, if_true, Option.map_some]
  congr 2
  apply Array.toList_inj.1
  refine List.ext_getElem (by simp) fun j h1 h2 => ?_
  have hj : j < n := by simpa using h2
  simp [List.getElem_set]
  by_cases e : i = j
  · subst e; simp
  · rw [if_neg e, if_neg (Ne.symm e)]
theorem IBlk.lt (h : IBlk T g n f w) : g < w.heap.size := by
  unfold IBlk at h
  rcases Nat.lt_or_ge g w.heap.size with hlt | hge
  · exact hlt
  · rw [Array.getElem?_eq_none hge] at h; cases h
theorem IBlk.own (h : IBlk T g n f w) (hn : n ≤ maxLen) : IOwn T g w (.slice (some ⟨g, 0, none⟩) n n) ((List.range n).map f) := by
  have hl : ((List.range n).map f).length = n := by simp
  unfold IOwn
  rw [hl]
  refine ⟨by simp, .inr ⟨g, n, _, rfl, Nat.le_refl _, h, Nat.le_refl _, hn, by simp, ?_⟩⟩
  rw [Nat.mul_one]
  refine List.ext_getElem (by simp) fun j h1 h2 => by simp
end
/-- Not above. -/
def leF (x y : Nat) : Bool := (FloatKind.format .f32).order x y == some .lt || (FloatKind.format .f32).order x y == some .eq
theorem leF_congr {x x' y y' : Nat} (h : cn .f32 x = cn .f32 x') (h' : cn .f32 y = cn .f32 y') : leF x y = leF x' y' := by unfold leF; rw [order_left .f32 h y, order_right .f32 x' h']
/-- How many of the first numbers are not above m. -/
def cntC (cs : List Nat) (m : Nat) : Nat → Nat
  | 0 => 0
  | k + 1 => cntC cs m k + if leF (cs.getD k 0) m then 1 else 0
theorem cntC_le (cs : List Nat) (m : Nat) : ∀ k, cntC cs m k ≤ k
  | 0 => Nat.le_refl _
  | k + 1 => by have := cntC_le cs m k; unfold cntC; split <;> omega
theorem cntC_congr {cs : List Nat} {m m' : Nat} (h : cn .f32 m = cn .f32 m') : ∀ k, cntC cs m k = cntC cs m' k
  | 0 => rfl
  | k + 1 => by unfold cntC; rw [cntC_congr h k, leF_congr rfl h]
end Go.Proofs.Ytpaelafopjmklaa
