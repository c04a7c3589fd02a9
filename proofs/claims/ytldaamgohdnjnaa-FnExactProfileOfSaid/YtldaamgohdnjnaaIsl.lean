/-
  Slices of integers in memory.
-/
import Derived.Test.YtldaamgohdnjnaaFsl
namespace Go.Proofs.Ytldaamgohdnjnaa
open Go.RowKit
set_option linter.unusedVariables false
/-- The slice's elements are the integers zs. -/
def ISl (w : World) (a : Option Addr) (len : Nat) (zs : List Int) : Prop := VSl (.int .i64) 0 w a len zs
/-- A slice of integers that came in. -/
def IRow (w : World) (a : Option Addr) (len cap : Nat) (zs : List Int) : Prop := ISl w a len zs ∧ len ≤ cap ∧ cap ≤ maxLen ∧ (∀ x ∈ zs, (Lit.int .i64 x).wf = true)
theorem IRow_of {H : Type} {enc : TypeId × Value → H} {P : Program} {w : World} {base : Nat} {spare : Nat → Bool} {held : Bool} {t e : TypeId} {a : Option Addr} {len cap : Nat} {d : DataW H} {ps : List MemPlace}
    (ht : P.underlying t = some (.slice e)) (he : P.underlying e = some (.int .i64)) (hc : P.cellsOf e = 1) (h : DataW.Trod enc P w base spare held t (.slice a len cap) d ps) : ∃ zs, IRow w a len cap zs := by
  obtain ⟨fuel, hf⟩ := h
  rcases Go.Deep.open_slice1 ht hc hf with ⟨hcs, _⟩ | ⟨x, l, c, m, n, V, D, Pl, hcs, _, hl, hm, hmm, _, hx⟩
  · simp [Value.cells] at hcs
    obtain ⟨rfl, rfl, rfl⟩ := hcs
    exact ⟨[], ⟨rfl, .inl rfl⟩, Nat.le_refl _, Nat.zero_le _, by simp⟩
  · simp [Value.cells] at hcs
    obtain ⟨rfl, rfl, rfl⟩ := hcs
    have hle : len ≤ m := by rw [hmm]; split <;> omega
    have hv : ∀ i, i < len → ∃ b, V i = .int .i64 b ∧ (Lit.int .i64 b).wf = true := fun i hi => by
      have h2 := (hx i (by omega)).2
      cases n with
      | zero => simp [DataW.trod] at h2
      | succ n =>
        simp only [DataW.trod, he] at h2
        cases hV : V i with
        | int k b =>
          rw [hV] at h2
          cases k with
          | i64 =>
            by_cases hw : (Lit.int .i64 b).wf = true
            · exact ⟨b, rfl, hw⟩
            · simp [hw] at h2
          | _ => simp at h2
        | _ => rw [hV] at h2; simp at h2
    obtain ⟨f, hf⟩ := Go.Deep.choose_lt hv
    refine ⟨(List.range len).map f, ⟨by simp, ?_⟩, hl, hm, ?_⟩
    · by_cases h0 : len = 0
      · exact .inl h0
      · right
        have hcell : ∀ i, i < len → w.cell? (x.add i) = some (.int .i64 (((List.range len).map f).getD i 0)) := fun i hi => by
          rw [(hx i (by omega)).1, (hf i hi).1]
          simp [List.getD, hi]
        have h0' := hcell 0 (by omega)
        obtain ⟨b, off, spot⟩ := x
        have hspot : spot = none := by simpa [Addr.add] using World.cell?_spot h0'
        subst hspot
        exact ⟨b, off, rfl, lt_of_cell (by rw [← Go.WideShapes.add_plain]; exact h0'), fun j hj => by rw [← Go.WideShapes.add_plain]; exact hcell j hj⟩
    · intro y hy
      simp at hy
      obtain ⟨i, hi, rfl⟩ := hy
      exact (hf i hi).2

end Go.Proofs.Ytldaamgohdnjnaa
