/-
  What closures read: lists in boxes. (The same words stand in CThi and CJoi: import one or the other.)
-/
import Derived.Test.YtopgegciejmhaaaCPlc
import Derived.Test.YtopgegciejmhaaaCIn
namespace Go.Proofs.Ytopgegciejmhaaa
open Ieee Go.RowKit
set_option linter.unusedVariables false

theorem fail_ob (T : TypeId) {xs : List Nat} {ok : Bool} (hok : ok = false) (hx : xs = []) {w w' : World} (hb : Below w.heap.size w w') : RetOB T xs ok w (.returned (.tuple #[.slice none 0 0, .bool false])) w' :=
  ⟨_, [], by rw [hok], FOwn.nil .., hx.symm, hb⟩
theorem FSl.cut {w : World} {b off len : Nat} {zs : List Nat} (h : FSl w (some ⟨b, off, none⟩) len zs) (hl : 0 < len) {i n : Nat} (hi : i + n ≤ len) : FSl w (some ⟨b, off + i, none⟩) n ((zs.drop i).take n) := by
  obtain ⟨b', off', e, hb, hc⟩ := h.at hl
  injection e with e
  injection e with e1 e2
  subst e1 e2
  refine ⟨by rw [List.length_take, List.length_drop, h.1]; omega, .inr ⟨b, off + i, rfl, hb, fun j hj => ?_⟩⟩
  rw [Nat.add_assoc, hc (i + j) (by omega)]
  have h1 := h.1
  congr 2
  simp [List.getD, hj]
/-- What a closure reads: a list in a box. -/
def BoxI (bl : Nat) (a : Option Addr) (len cap : Nat) (zs : List Nat) (wr : World) : Prop :=
  wr.cell? ⟨bl, 0, none⟩ = some (.slice a len cap) ∧ (0 < len → ∃ b off, a = some ⟨b, off, none⟩ ∧ b < bl ∧ ∀ j, j < len → wr.cell? ⟨b, off + j, none⟩ = some (.float .f32 (zs.getD j 0)))
theorem BoxI.keep {bl B : Nat} {a : Option Addr} {len cap : Nat} {zs : List Nat} {wr wr' : World} (h : BoxI bl a len cap zs wr) (h1 : bl < B) (hb : Below B wr wr') : BoxI bl a len cap zs wr' := by
  refine ⟨by rw [hb.cell (p := ⟨bl, 0, none⟩) h1]; exact h.1, fun hp => ?_⟩
  obtain ⟨b, off, rfl, hlt, hc⟩ := h.2 hp
  exact ⟨b, off, rfl, hlt, fun j hj => by rw [hb.cell (p := ⟨b, off + j, none⟩) (by show b < B; omega)]; exact hc j hj⟩
theorem BoxI.fsl {bl : Nat} {a : Option Addr} {len cap : Nat} {zs : List Nat} {wr : World} (h : BoxI bl a len cap zs wr) (hl : zs.length = len) : FSl wr a len zs := by
  refine ⟨hl, ?_⟩
  rcases Nat.eq_zero_or_pos len with h0 | h0
  · exact .inl h0
  · obtain ⟨b, off, rfl, _, hc⟩ := h.2 h0
    exact .inr ⟨b, off, rfl, lt_of_cell (hc 0 h0), hc⟩
theorem BoxI.start {w : World} {a : Option Addr} {len cap : Nat} {zs : List Nat} {t : TypeId} (h : FSl w a len zs) : BoxI w.heap.size a len cap zs (w.alloc (.cells #[.slice a len cap] t)) := by
  refine ⟨?_, fun hp => ?_⟩
  · rw [World.cell?_alloc_at _ _ _ _ rfl]; rfl
  · obtain ⟨b, off, rfl, hb, hc⟩ := h.at hp
    exact ⟨b, off, rfl, hb, fun j hj => by rw [World.cell?_alloc_past _ _ _ hb]; exact hc j hj⟩
/-- A closure that only reads. -/
theorem Tells.quiet {tell : Nat → Nat} {I : Nat → World → Prop} {B0 B k n r : Nat} {wr : World} (hr : cn .f32 r = tell k) (hI : I (k + 1) (wr.drewN n)) : Tells tell I B0 B k wr (.returned (.float .f32 r)) (wr.drewN n) :=
  ⟨r, rfl, hr, hI, below_drewN (Below.refl _ _) n, rfl⟩
/-- A series that can be cut to steps of a numbers. -/
def stepB (zs : List Nat) (a : Int) : Bool := serB zs && decide (1 ≤ a ∧ a ≤ zs.length)
theorem stepB_t {zs : List Nat} {a : Int} (h : stepB zs a = true) : serB zs = true ∧ 1 ≤ a ∧ a ≤ zs.length ∧ zs.length ≤ 96 := by
  unfold stepB at h
  have h1 := (Bool.and_eq_true _ _ ▸ h).1
  have h2 := of_decide_eq_true (Bool.and_eq_true _ _ ▸ h).2
  exact ⟨h1, h2.1, h2.2, (serB_t h1).2.1⟩
theorem stepB_f {zs : List Nat} {a : Int} (h : stepB zs a = false) (hs : serB zs = true) : a < 1 ∨ zs.length < a := by
  unfold stepB at h
  rw [hs] at h
  have := of_decide_eq_false (show decide (1 ≤ a ∧ a ≤ zs.length) = false from h)
  omega
end Go.Proofs.Ytopgegciejmhaaa
