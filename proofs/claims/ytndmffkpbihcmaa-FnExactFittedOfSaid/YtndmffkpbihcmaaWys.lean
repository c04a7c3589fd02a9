/-
  Lists that can be held together, in both packages: 'areWays', 'l06Lists'; rows of lists in boxes.
-/
import Derived.Test.YtndmffkpbihcmaaRow
import Derived.Test.YtndmffkpbihcmaaPr2
import Derived.Test.YtndmffkpbihcmaaCBox
namespace Go.Proofs.Ytndmffkpbihcmaa
open Ieee Go.RowKit
set_option linter.unusedVariables false

def allZ (Z : List (List Nat)) : Bool := Z.all fun z => serB z && decide (z.length = (Z.getD 0 []).length)
def waysZ (Z : List (List Nat)) : Bool := decide (1 ≤ Z.length ∧ Z.length ≤ 8) && allZ Z
theorem are_zz (L : List FRw) : areB L = allZ (zz L) := by
  unfold areB allZ
  rw [zz_at]
  unfold zz
  rw [List.all_map]
  rfl
theorem waysZ_t {Z : List (List Nat)} (h : waysZ Z = true) : 1 ≤ Z.length ∧ Z.length ≤ 8 ∧ ∀ i, i < Z.length → serB (Z.getD i []) = true ∧ (Z.getD i []).length = (Z.getD 0 []).length := by
  unfold waysZ at h
  have h1 := of_decide_eq_true (Bool.and_eq_true _ _ ▸ h).1
  have h2 := (Bool.and_eq_true _ _ ▸ h).2
  refine ⟨h1.1, h1.2, fun i hi => ?_⟩
  have := List.all_eq_true.1 h2 (Z.getD i []) (by simp [List.getD, hi])
  exact ⟨(Bool.and_eq_true _ _ ▸ this).1, of_decide_eq_true (Bool.and_eq_true _ _ ▸ this).2⟩
def prZ (Z : List (List Nat)) (i : Nat) : Bool := pairB (Z.getD i []) (Z.getD 0 [])
theorem all_pr {Z : List (List Nat)} (h0 : 1 ≤ Z.length) (h : ∀ i, i < Z.length → prZ Z i = true) : allZ Z = true := by
  unfold allZ
  rw [List.all_eq_true]
  intro z hz
  obtain ⟨j, hj, rfl⟩ := List.getElem_of_mem hz
  obtain ⟨h1, h2, h3⟩ := pairB_t (h j hj)
  have e : Z.getD j [] = Z[j] := by simp [List.getD, hj]
  rw [e] at h1 h3
  rw [h1, decide_eq_true h3]; rfl
theorem not_pr {Z : List (List Nat)} {k : Nat} (hk : k < Z.length) (h : prZ Z k = false) : allZ Z = false := by
  refine Bool.eq_false_iff.2 fun ha => ?_
  unfold allZ at ha
  rw [List.all_eq_true] at ha
  have g1 := ha (Z.getD k []) (by simp [List.getD, hk])
  have g0 := ha (Z.getD 0 []) (by simp [List.getD, show 0 < Z.length by omega])
  obtain ⟨a1, a2⟩ := Bool.and_eq_true_iff.1 g1
  obtain ⟨b1, _⟩ := Bool.and_eq_true_iff.1 g0
  unfold prZ pairB at h
  rw [a1, b1, a2] at h
  cases h
/-- What a closure reads: a row of lists in a box. -/
def BoxR (bl : Nat) (a : Option Addr) (n cap : Nat) (L : List FRw) (wr : World) : Prop :=
  wr.cell? ⟨bl, 0, none⟩ = some (.slice a n cap) ∧ (0 < n → ∃ b off, a = some ⟨b, off, none⟩ ∧ b < bl ∧ ∀ i, i < n → wr.cell? ⟨b, off + i, none⟩ = some (L.getD i FRw.none).val ∧
    (0 < (L.getD i FRw.none).len → ∃ c o, (L.getD i FRw.none).a = some ⟨c, o, none⟩ ∧ c < bl ∧ ∀ j, j < (L.getD i FRw.none).len → wr.cell? ⟨c, o + j, none⟩ = some (.float .f32 ((L.getD i FRw.none).zs.getD j 0))))
theorem BoxR.keep {bl B : Nat} {a : Option Addr} {n cap : Nat} {L : List FRw} {wr wr' : World} (h : BoxR bl a n cap L wr) (h1 : bl < B) (hb : Below B wr wr') : BoxR bl a n cap L wr' := by
  refine ⟨by rw [hb.cell (p := ⟨bl, 0, none⟩) h1]; exact h.1, fun hp => ?_⟩
  obtain ⟨b, off, rfl, hlt, hc⟩ := h.2 hp
  refine ⟨b, off, rfl, hlt, fun i hi => ⟨by rw [hb.cell (p := ⟨b, off + i, none⟩) (by show b < B; omega)]; exact (hc i hi).1, fun hl => ?_⟩⟩
  obtain ⟨c, o, e, hcl, hcc⟩ := (hc i hi).2 hl
  exact ⟨c, o, e, hcl, fun j hj => by rw [hb.cell (p := ⟨c, o + j, none⟩) (by show c < B; omega)]; exact hcc j hj⟩
theorem BoxR.drewN {bl : Nat} {a : Option Addr} {n cap : Nat} {L : List FRw} {wr : World} (h : BoxR bl a n cap L wr) (m : Nat) : BoxR bl a n cap L (wr.drewN m) := h
theorem BoxR.start {w : World} {a : Option Addr} {n cap : Nat} {L : List FRw} {t : TypeId} (h : RSl w a n L) : BoxR w.heap.size a n cap L (w.alloc (.cells #[.slice a n cap] t)) := by
  refine ⟨?_, fun hp => ?_⟩
  · rw [World.cell?_alloc_at _ _ _ _ rfl]; rfl
  · obtain ⟨b, off, rfl, hb, hc⟩ := h.1.at hp
    refine ⟨b, off, rfl, hb, fun i hi => ⟨by rw [World.cell?_alloc_past _ _ _ hb]; exact hc i hi, fun hl => ?_⟩⟩
    obtain ⟨c, o, e, hcb, hcc⟩ := (h.2 i hi).1.at hl
    exact ⟨c, o, e, hcb, fun j hj => by rw [World.cell?_alloc_past _ _ _ hcb]; exact hcc j hj⟩
end Go.Proofs.Ytndmffkpbihcmaa
