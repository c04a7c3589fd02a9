/-
  The laws' own helpers: a list is marked in place, and held against its marks.
-/
import Derived.Test.YtopgegciejmhaaaChecked
import Derived.Test.YtopgegciejmhaaaVcp
import Derived.Test.YtopgegciejmhaaaFow
import Derived.Laws.Cover2
namespace Go.Proofs.Ytopgegciejmhaaa
open Ieee Go.RowKit
set_option linter.unusedVariables false

/-- Only block b has turned. -/
structure Only (b : Nat) (w w' : World) : Prop where
  os : w'.os = w.os
  tape : w'.tape = w.tape
  output : w'.output = w.output
  size : w'.heap.size = w.heap.size
  block : ∀ k, k ≠ b → w'.heap[k]? = w.heap[k]?
theorem Only.refl (b : Nat) (w : World) : Only b w w := ⟨rfl, rfl, rfl, rfl, fun _ _ => rfl⟩
theorem Only.drewN {b : Nat} {w w' : World} (h : Only b w w') (n : Nat) : Only b w (w'.drewN n) := ⟨h.os, h.tape, h.output, h.size, h.block⟩
theorem Only.setCell {b : Nat} {w w' : World} (h : Only b w w') (i : Nat) (u : Value) : Only b w (w'.setCell ⟨b, i, none⟩ u) :=
  ⟨h.os, h.tape, h.output, by rw [← h.size]; simp [World.setCell], fun k hk => (Below.heap_setCell w' ⟨b, i, none⟩ u k hk).trans (h.block k hk)⟩
theorem Only.below {b B : Nat} {w w' : World} (h : Only b w w') (hB : B ≤ b) : Below B w w' :=
  ⟨h.os, h.tape, h.output, Nat.le_of_eq h.size.symm, fun k hk => h.block k (by omega)⟩
theorem Only.cell {b : Nat} {w w' : World} (h : Only b w w') {p : Addr} (hp : p.block ≠ b) : w'.cell? p = w.cell? p := World.cell?_of_block (h.block _ hp)
theorem Only.frozen {b : Nat} {w w' : World} (h : Only b w w') {p : Addr} (hp : p.block ≠ b) : w'.frozen? p = w.frozen? p := World.frozen?_of_block (h.block _ hp)
/-- The slice lies in block b and may be written. -/
def Wri (w : World) (b len : Nat) : Prop := ∀ j, j < len → (∃ v, w.cell? ⟨b, j, none⟩ = some v) ∧ w.frozen? ⟨b, j, none⟩ = false
/-- The word of a mark. -/
def mk32 (k : Nat) : Nat := floatOfInt .f32 (k : Int)
/-- The list is held against the marks from k on. -/
def Marked (w : World) (b len k : Nat) : Prop := ∀ j, j < len → w.cell? ⟨b, j, none⟩ = some (.float .f32 (mk32 (k + j)))
theorem mk_num : ∀ n : Nat, isN .f32 (mk32 n) = false := fun n => nearest_nan ..

/-- How far the marks have come. -/
def Marking (b len k i : Nat) (w wr : World) : Prop := Only b w wr ∧ Wri wr b len ∧ Marked wr b i k
theorem Marking.step {b len k i : Nat} {w wr : World} (h : Marking b len k i w wr) (hi : i < len) : Marking b len k (i + 1) w (wr.setCell ⟨b, i, none⟩ (.float .f32 (mk32 (k + i)))) := by
  obtain ⟨h1, h2, h3⟩ := h
  obtain ⟨⟨v, hv⟩, _⟩ := h2 i hi
  refine ⟨h1.setCell i _, fun j hj => ?_, fun j hj => ?_⟩
  · obtain ⟨⟨u, hu⟩, hf⟩ := h2 j hj
    refine ⟨?_, by rw [World.frozen?_setCell]; exact hf⟩
    by_cases e : j = i
    · subst e; exact ⟨_, World.cell?_setCell_same' _ _ _ (by rw [hv]; rfl)⟩
    · exact ⟨u, by rw [setCell_far e]; exact hu⟩
  · by_cases e : j = i
    · subst e; exact World.cell?_setCell_same' _ _ _ (by rw [hv]; rfl)
    · rw [setCell_far e]; exact h3 j (by omega)
theorem Marking.next {b len k i : Nat} {w wr : World} (h : Marking b len k i w wr) (hi : i < len) : (∃ v, wr.cell? ⟨b, i, none⟩ = some v) ∧ wr.frozen? ⟨b, i, none⟩ = false := h.2.1 i hi

theorem mark_any (a : Option Addr) (b len cap k : Nat) (w : World) (ha : 0 < len → a = some ⟨b, 0, none⟩) (hw : Wri w b len) (hl : len ≤ 1048576) (hk : k ≤ 16777216) :
    Calls Try.prog 21 #[.slice a len cap, .int .i64 k] w fun e w' => e = .returned (.int .i64 (k + len : Nat)) ∧ Only b w w' ∧ Marked w' b len k := by
  have HW := Lib.hid (show Marking b len k 0 w w from ⟨Only.refl _ _, hw, fun j hj => by omega⟩)
  clear hw
  have HA := Lib.hid ha
  clear ha
  go_enter Try.func21, Try.ntmps21
  go_wp2
  go_loopw [1, 5] (fun q j wr => ∃ i : Nat, i ≤ len ∧ j = .int .i64 i ∧ q = .int .i64 (k + i : Nat) ∧ Hid (Marking b len k i w wr)) (fun _ j _ => len - (intOf j).toNat)
  case atStart => exact ⟨0, Nat.zero_le _, rfl, rfl, HW⟩
  case round =>
    rename_i wr
    obtain ⟨i, hi, rfl, rfl, hm⟩ := hrel
    by_cases hlt : i < len
    · obtain rfl := HA.out (by omega)
      obtain ⟨⟨v, hv⟩, hf⟩ := hm.out.next hlt
      have hstep := Lib.hid (hm.out.step hlt)
      have hmk := Lib.hid (show mk32 (k + i) = floatOfInt .f32 ((k + i : Nat) : Int) from rfl)
      clear hm HW HA
      go_wp2
      go_roundw
      case rel => exact ⟨i + 1, by omega, by go_num, by go_num, hstep⟩
      case measure => simp [intOf]; omega
    · obtain rfl : i = len := by omega
      go_wp2
      go_ret
      exact ⟨rfl, hm.out.1, hm.out.2.2⟩

theorem held_any (a : Option Addr) (b len cap k : Nat) (w : World) (ha : 0 < len → a = some ⟨b, 0, none⟩) (hw : Marked w b len k) (hl : len ≤ 1048576) (hk : k ≤ 16777216) :
    Calls Try.prog 23 #[.slice a len cap, .int .i64 k] w fun e w' => e = .returned (.int .i64 (k + len : Nat)) ∧ w = w' := by
  have HW := Lib.hid hw
  clear hw
  have HA := Lib.hid ha
  clear ha
  go_enter Try.func23, Try.ntmps23
  go_wp2
  go_loop [1, 5] (fun q j => ∃ i : Nat, i ≤ len ∧ j = .int .i64 i ∧ q = .int .i64 (k + i : Nat)) (fun _ j => len - (intOf j).toNat)
  case atStart => exact ⟨0, Nat.zero_le _, rfl, rfl⟩
  case round =>
    obtain ⟨i, hi, rfl, rfl⟩ := hrel
    by_cases hlt : i < len
    · obtain rfl := HA.out (by omega)
      have hc := HW.out i hlt
      have ho := order_self .f32 (mk32 (k + i))
      rw [mk_num, if_neg (by simp)] at ho
      unfold mk32 at hc ho
      rw [Int.natCast_add] at hc ho
      clear HA HW
      go_wp2
      go_round
      case rel => exact ⟨i + 1, by omega, by go_num, by go_num⟩
      case measure => simp [intOf]; omega
    · obtain rfl : i = len := by omega
      go_wp2
      go_ret
      exact ⟨rfl, rfl⟩
end Go.Proofs.Ytopgegciejmhaaa
