/-
  Lists of 32-bit floats that a call makes: rows of the call's own, read as words.
-/
import Derived.Test.YtopgegciejmhaaaFsl
import Derived.Laws.OwnMore
import Derived.OwnWalk
namespace Go.Proofs.Ytopgegciejmhaaa
open Ieee Go.RowKit
set_option linter.unusedVariables false

/-- The words up to not-a-numbers. -/
def cnl (rs : List Nat) : List Nat := rs.map (cn .f32)
theorem cnl_len (rs : List Nat) : (cnl rs).length = rs.length := List.length_map ..
theorem cnl_at {rs : List Nat} {j : Nat} (h : j < rs.length) : (cnl rs).getD j 0 = cn .f32 (rs.getD j 0) := by
  simp [cnl, List.getD, h]
theorem cnl_cnl (rs : List Nat) : cnl (cnl rs) = cnl rs := by
  unfold cnl; rw [List.map_map]; congr 1; funext x; exact cn_cn .f32 x
theorem sum32_cnl (rs : List Nat) : sum32 (cnl rs) = sum32 rs := by
  unfold sum32 cnl
  rw [List.foldl_map]
  congr 1
  funext s x
  rw [cn_cn]
theorem sum32_congr {rs rs' : List Nat} (h : cnl rs = cnl rs') : sum32 rs = sum32 rs' := by rw [← sum32_cnl, h, sum32_cnl]
theorem cnl_getD {rs rs' : List Nat} (h : cnl rs = cnl rs') (i : Nat) (hi : i < rs.length) : cn .f32 (rs.getD i 0) = cn .f32 (rs'.getD i 0) := by
  have hl : rs.length = rs'.length := by rw [← cnl_len, h, cnl_len]
  rw [← cnl_at hi, h, cnl_at (by omega)]

/-- v is a row of the call's own, from block B on, that holds the words rs. -/
def FOwn (T : TypeId) (B : Nat) (w : World) (v : Value) (rs : List Nat) : Prop := w.ownsRow B T 1 v rs.length (rs.map (Value.float .f32))
section
variable {T : TypeId} {B : Nat} {w w' wr w1 : World} {v v' : Value} {rs : List Nat}
theorem FOwn.nil (T : TypeId) (B : Nat) (w : World) : FOwn T B w (.slice none 0 0) [] := World.ownsRow_nil ..
theorem FOwn.drewN (h : FOwn T B w v rs) (n : Nat) : FOwn T B (w.drewN n) v rs := h
theorem FOwn.alloc (h : FOwn T B w v rs) (o : Obj) : FOwn T B (w.alloc o) v rs := World.ownsRow.alloc h o
theorem FOwn.made (w : World) (hb : B ≤ w.heap.size) : FOwn T B (w.alloc (.cells #[] T)) (.slice (some ⟨w.heap.size, 0, none⟩) 0 0) [] :=
  World.ownsRow_made w #[] 0 hb (Nat.zero_le _) (by simp)
theorem FOwn.push {n r : Nat} {o : Obj} (h : FOwn T B wr v rs) (hb : Below B w wr) (hB : B ≤ wr.heap.size)
    (hown : w1.ownsRow B T 1 v' (rs.length + 1) (rs.map (Value.float .f32) ++ [.float .f32 r])) (hg : ((wr.drewN n).alloc o).grownBy w1 v.ownBlock) : FOwn T B w1 v' (rs ++ [r]) ∧ Below B w w1 := by
  refine ⟨?_, ?_⟩
  · unfold FOwn
    rw [List.length_append, List.map_append]
    exact hown
  · refine ((below_drewN hb n).alloc hB o).grown hg (by show B ≤ ((wr.drewN n).alloc o).heap.size; simp; show B ≤ wr.heap.size + 1; omega) (fun k hk => (h.lt k hk).1)
/-- What is known of such a value. -/
theorem FOwn.sl (h : FOwn T B w v rs) : ∃ A cap, v = .slice A rs.length cap ∧ FSl w A rs.length rs ∧ (∀ j, j < rs.length → ∃ b, A = some ⟨b, 0, none⟩ ∧ B ≤ b ∧ b < w.heap.size ∧ w.frozen? ⟨b, j, none⟩ = false) := by
  have hl := h.lt
  unfold FOwn at h
  have hcell := fun g (hg : v.ownBlock = some g) => World.ownsRow.cells h hg
  rcases h.2 with ⟨rfl, h0⟩ | ⟨g, cap, cur, rfl, hb, hg, hn, hm, hcs, htk⟩
  · refine ⟨none, 0, by rw [h0], ⟨rfl, .inl h0⟩, fun j hj => by omega⟩
  · have hlt := (hl g rfl).2
    refine ⟨some ⟨g, 0, none⟩, cap, rfl, ⟨rfl, .inr ⟨g, 0, rfl, hlt, fun i hi => ?_⟩⟩, fun j hj => ⟨g, rfl, hb, hlt, ?_⟩⟩
    · have := hcell g rfl i (.float .f32 (rs.getD i 0)) (by simp [List.getD, hi])
      rw [Nat.zero_add]
      simpa [Go.WideShapes.add_plain] using this
    · simp [World.frozen?, hg]
end
/-- A list is returned: a row of the call's own, its words up to not-a-numbers. -/
def RetO (T : TypeId) (xs : List Nat) (w : World) (e : Ending) (w' : World) : Prop := ∃ v rs, e = .returned v ∧ FOwn T w.heap.size w' v rs ∧ cnl rs = xs ∧ Below w.heap.size w w'
/-- A list and a bool. -/
def RetOB (T : TypeId) (xs : List Nat) (ok : Bool) (w : World) (e : Ending) (w' : World) : Prop := ∃ v rs, e = .returned (.tuple #[v, .bool ok]) ∧ FOwn T w.heap.size w' v rs ∧ cnl rs = xs ∧ Below w.heap.size w w'
theorem cnl_snoc {rs xs : List Nat} {r x : Nat} (h : cnl rs = xs) (hr : cn .f32 r = x) : cnl (rs ++ [r]) = xs ++ [x] := by
  rw [← h, ← hr]; unfold cnl; rw [List.map_append]; rfl
end Go.Proofs.Ytopgegciejmhaaa
