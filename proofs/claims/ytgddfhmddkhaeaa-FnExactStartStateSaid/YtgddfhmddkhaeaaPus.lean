/-
  A list of the call's own that grows by one number.
-/
import Derived.Test.YtgddfhmddkhaeaaCBox
import Derived.Deep.AppendLies
import Derived.Deep.RegionLaw
namespace Go.Proofs.Ytgddfhmddkhaeaa
open Ieee Go.RowKit
set_option linter.unusedVariables false

theorem own_at {T : TypeId} {B : Nat} {wx wr : World} {v : Value} {rs : List Nat} (h : FOwn T B wr v rs) (e : wx.heap = wr.heap) (o : Obj) : (wx.alloc o).ownsRow B T 1 v rs.length (rs.map (Value.float .f32)) := by
  refine World.ownsRow.alloc ⟨h.1, ?_⟩ o
  rw [e]; exact h.2
theorem FOwn.ne {T : TypeId} {B b : Nat} {w : World} {v : Value} {rs : List Nat} (h : FOwn T B w v rs) (hb : b < B) : v.ownBlock ≠ some b := fun e => by have := (h.lt b e).1; omega
theorem push_at {T : TypeId} {B r g c : Nat} {w wy wr w1 : World} {v : Value} {rs : List Nat} (h : FOwn T B wr v rs) (hby : Below B w wy) (hB : B ≤ wy.heap.size)
    (hown : w1.ownsRow B T 1 (.slice (some ⟨g, 0, none⟩) (rs.length + 1) c) (rs.length + 1) (rs.map (Value.float .f32) ++ [.float .f32 r])) (hg : wy.grownBy w1 v.ownBlock) : FOwn T B w1 (.slice (some ⟨g, 0, none⟩) (rs.length + 1) c) (rs ++ [r]) ∧ Below B w w1 := by
  refine ⟨?_, hby.grown hg hB (fun k hk => (h.lt k hk).1)⟩
  unfold FOwn
  rw [List.length_append, List.map_append]
  exact hown

/-- Finite numbers are taken from one another, and added, without a draw. -/
theorem FOwn.one (T : TypeId) (w : World) (x : Nat) : FOwn T w.heap.size (w.alloc (.cells #[.float .f32 x] T)) (.slice (some ⟨w.heap.size, 0, none⟩) 1 1) [x] := by
  refine ⟨by simp, .inr ⟨w.heap.size, 1, #[.float .f32 x], rfl, Nat.le_refl _, heap_alloc_new w _, Nat.le_refl _, by unfold maxLen; omega, by simp, by simp⟩⟩
theorem far_set {w : World} {b c : Nat} {o : Nat} {u : Value} (h : c ≠ b) : (w.setCell ⟨b, 0, none⟩ u).cell? ⟨c, o, none⟩ = w.cell? ⟨c, o, none⟩ :=
  World.cell?_setCell_other _ _ _ _ (by intro e; injection e with e1 _ _; exact h e1.symm)
theorem BoxI.set {bl bv : Nat} {a : Option Addr} {len cap : Nat} {zs : List Nat} {wr : World} {u : Value} (h : BoxI bl a len cap zs wr) (h1 : bl < bv) : BoxI bl a len cap zs (wr.setCell ⟨bv, 0, none⟩ u) := by
  refine ⟨by rw [far_set (by omega)]; exact h.1, fun hp => ?_⟩
  obtain ⟨b, off, rfl, hlt, hc⟩ := h.2 hp
  exact ⟨b, off, rfl, hlt, fun j hj => by rw [far_set (by omega)]; exact hc j hj⟩
end Go.Proofs.Ytgddfhmddkhaeaa
