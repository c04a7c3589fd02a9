/-
  Slices of 32-bit floats in memory; their sums as plain folds.
-/
import Derived.Test.YtopgegciejmhaaaFlr
import Derived.Below
import Derived.Deep.Slices
import Derived.OpenShut
namespace Go.Proofs.Ytopgegciejmhaaa
open Ieee Go.RowKit
set_option linter.unusedVariables false

/-- The slice's elements are those of zs, each as f lays it. -/
def VSl {α : Type} (f : α → Value) (d : α) (w : World) (a : Option Addr) (len : Nat) (zs : List α) : Prop :=
  zs.length = len ∧ (len = 0 ∨ ∃ b off, a = some ⟨b, off, none⟩ ∧ b < w.heap.size ∧ ∀ i, i < len → w.cell? ⟨b, off + i, none⟩ = some (f (zs.getD i d)))
section
variable {α : Type} {f : α → Value} {d : α} {w w' : World} {a : Option Addr} {len : Nat} {zs : List α}
theorem VSl.drewN (h : VSl f d w a len zs) (n : Nat) : VSl f d (w.drewN n) a len zs := h
theorem VSl.below (h : VSl f d w a len zs) (hb : Below w.heap.size w w') : VSl f d w' a len zs := by
  obtain ⟨h1, h2⟩ := h
  refine ⟨h1, ?_⟩
  rcases h2 with h2 | ⟨b, off, rfl, hlt, hc⟩
  · exact .inl h2
  · exact .inr ⟨b, off, rfl, Nat.lt_of_lt_of_le hlt hb.size, fun i hi => by rw [hb.cell (p := ⟨b, off + i, none⟩) hlt]; exact hc i hi⟩
theorem VSl.at (h : VSl f d w a len zs) (hl : 0 < len) :
    ∃ b off, a = some ⟨b, off, none⟩ ∧ b < w.heap.size ∧ ∀ i, i < len → w.cell? ⟨b, off + i, none⟩ = some (f (zs.getD i d)) := by
  rcases h.2 with h2 | h2
  · omega
  · exact h2
end
/-- The slice's elements are the words zs. -/
def FSl (w : World) (a : Option Addr) (len : Nat) (zs : List Nat) : Prop := VSl (.float .f32) 0 w a len zs
theorem FSl.drewN {w : World} {a : Option Addr} {len : Nat} {zs : List Nat} (h : FSl w a len zs) (n : Nat) : FSl (w.drewN n) a len zs := h
theorem FSl.below {w w' : World} {a : Option Addr} {len : Nat} {zs : List Nat} (h : FSl w a len zs) (hb : Below w.heap.size w w') : FSl w' a len zs := VSl.below h hb
theorem FSl.at {w : World} {a : Option Addr} {len : Nat} {zs : List Nat} (h : FSl w a len zs) (hl : 0 < len) :
    ∃ b off, a = some ⟨b, off, none⟩ ∧ b < w.heap.size ∧ ∀ i, i < len → w.cell? ⟨b, off + i, none⟩ = some (.float .f32 (zs.getD i 0)) := VSl.at h hl
theorem lt_of_cell {w : World} {b o : Nat} {v : Value} (h : w.cell? ⟨b, o, none⟩ = some v) : b < w.heap.size := by
  cases Nat.lt_or_ge b w.heap.size with
  | inl h1 => exact h1
  | inr h1 =>
    have : w.heap[b]? = none := by simp [h1]
    simp [World.cell?, this] at h

/-- A slice of 32-bit floats that came in. -/
def FRow (w : World) (a : Option Addr) (len cap : Nat) (zs : List Nat) : Prop := FSl w a len zs ∧ len ≤ cap ∧ cap ≤ maxLen ∧ (∀ x ∈ zs, x < 4294967296)
theorem FRow_of {H : Type} {enc : TypeId × Value → H} {P : Program} {w : World} {base : Nat} {spare : Nat → Bool} {held : Bool} {t e : TypeId} {a : Option Addr} {len cap : Nat} {d : DataW H} {ps : List MemPlace}
    (ht : P.underlying t = some (.slice e)) (he : P.underlying e = some (.float .f32)) (hc : P.cellsOf e = 1) (h : DataW.Trod enc P w base spare held t (.slice a len cap) d ps) : ∃ zs, FRow w a len cap zs := by
  obtain ⟨fuel, hf⟩ := h
  rcases Go.Deep.open_slice1 ht hc hf with ⟨hcs, _⟩ | ⟨x, l, c, m, n, V, D, Pl, hcs, _, hl, hm, hmm, _, hx⟩
  · simp [Value.cells] at hcs
    obtain ⟨rfl, rfl, rfl⟩ := hcs
    exact ⟨[], ⟨rfl, .inl rfl⟩, Nat.le_refl _, Nat.zero_le _, by simp⟩
  · simp [Value.cells] at hcs
    obtain ⟨rfl, rfl, rfl⟩ := hcs
    have hle : len ≤ m := by rw [hmm]; split <;> omega
    have hv : ∀ i, i < len → ∃ b, V i = .float .f32 b ∧ b < 4294967296 := fun i hi => by
      have h2 := (hx i (by omega)).2
      cases n with
      | zero => simp [DataW.trod] at h2
      | succ n =>
        simp only [DataW.trod, he] at h2
        cases hV : V i with
        | float k b =>
          rw [hV] at h2
          cases k with
          | f32 =>
            by_cases hw : (Lit.float .f32 b).wf = true
            · exact ⟨b, rfl, by simpa [Lit.wf] using hw⟩
            · simp [hw] at h2
          | f64 => simp at h2
        | _ => rw [hV] at h2; simp at h2
    obtain ⟨f, hf⟩ := Go.Deep.choose_lt hv
    refine ⟨(List.range len).map f, ⟨by simp, ?_⟩, hl, hm, ?_⟩
    · by_cases h0 : len = 0
      · exact .inl h0
      · right
        have hcell : ∀ i, i < len → w.cell? (x.add i) = some (.float .f32 (((List.range len).map f).getD i 0)) := fun i hi => by
          rw [(hx i (by omega)).1, (hf i hi).1]
          simp [List.getD, hi]
        have h0' := hcell 0 (by omega)
        obtain ⟨b, off, spot⟩ := x
        have hspot : spot = none := by simpa [Addr.add] using World.cell?_spot h0'
        subst hspot
        exact ⟨b, off, rfl, lt_of_cell (by rw [← Go.WideShapes.add_plain]; exact h0'), fun j hj => by rw [← Go.WideShapes.add_plain]; exact hcell j hj⟩
    · intro y hy
      simp at hy
      obtain ⟨i, hi, rfl⟩ := hy
      exact (hf i hi).2

/-- The sum from left to right. -/
def sum32 (zs : List Nat) : Nat := zs.foldl (fun s x => aop .add .f32 s (cn .f32 x)) 0
theorem list_snoc {zs : List Nat} {k : Nat} (h : k < zs.length) : zs.take (k + 1) = zs.take k ++ [zs.getD k 0] := by
  rw [List.take_succ_eq_append_getElem h]; simp [List.getD, h]
theorem sum32_snoc {zs : List Nat} {k : Nat} (h : k < zs.length) : sum32 (zs.take (k + 1)) = aop .add .f32 (sum32 (zs.take k)) (cn .f32 (zs.getD k 0)) := by
  rw [list_snoc h]; unfold sum32; rw [List.foldl_append]; rfl
theorem cn_zero : cn .f32 0 = 0 := by decide +kernel
theorem sum32_step {zs : List Nat} {k s : Nat} {w : World} (h : k < zs.length) (hs : cn .f32 s = sum32 (zs.take k)) : cn .f32 (fopR .add .f32 s (zs.getD k 0) w) = sum32 (zs.take (k + 1)) := by
  rw [cn_fopR, hs, sum32_snoc h]
end Go.Proofs.Ytopgegciejmhaaa
