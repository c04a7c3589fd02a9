/-
  A row of 32-bit floats in a block, read as a function of places; two blocks of it change places.
-/
import Derived.Test.YtallegmkkbmelabSrt
import Derived.Test.YtallegmkkbmelabCMrk
import Derived.Test.YtallegmkkbmelabCSer
import Derived.BigRegion
import Derived.BigQuiet
import Derived.Deep.QuietTactic
namespace Go.Proofs.Ytallegmkkbmelab
open Ieee Go.RowKit
set_option linter.unusedVariables false

/-- The first n places of block g, which has room for c, hold the words of f. -/
def Arr (T : TypeId) (g n c : Nat) (f : Nat → Nat) (w : World) : Prop := ∃ cur : Array Value, w.heap[g]? = some (.cells cur T (0, 0)) ∧ cur.size = c ∧ n ≤ c ∧ ∀ j, j < n → cur[j]? = some (.float .f32 (f j))
section
variable {T : TypeId} {g n c : Nat} {f f' : Nat → Nat} {w w' : World}
theorem Arr.cell (h : Arr T g n c f w) {j : Nat} (hj : j < n) : w.cell? ⟨g, j, none⟩ = some (.float .f32 (f j)) := by
  obtain ⟨cur, h1, h2, h3, h4⟩ := h
  rw [cell_of_row w g j cur T (0, 0) h1]
  exact h4 j hj
theorem Arr.frozen (h : Arr T g n c f w) (j : Nat) : w.frozen? ⟨g, j, none⟩ = false := by
  obtain ⟨cur, h1, _⟩ := h
  simp [World.frozen?, h1]
theorem Arr.lt (h : Arr T g n c f w) : g < w.heap.size := by
  obtain ⟨cur, h1, _⟩ := h
  rcases Nat.lt_or_ge g w.heap.size with hlt | hge
  · exact hlt
  · rw [Array.getElem?_eq_none hge] at h1; cases h1
theorem Arr.drewN (h : Arr T g n c f w) (k : Nat) : Arr T g n c f (w.drewN k) := h
theorem Arr.congr (h : Arr T g n c f w) (e : ∀ j, j < n → f' j = f j) : Arr T g n c f' w := by
  obtain ⟨cur, h1, h2, h3, h4⟩ := h
  exact ⟨cur, h1, h2, h3, fun j hj => by rw [e j hj]; exact h4 j hj⟩
def updF (f : Nat → Nat) (j r : Nat) : Nat → Nat := fun x => if x = j then r else f x
theorem Arr.set (h : Arr T g n c f w) {j : Nat} (hj : j < n) (r : Nat) : Arr T g n c (updF f j r) (w.setCell ⟨g, j, none⟩ (.float .f32 r)) := by
  obtain ⟨cur, h1, h2, h3, h4⟩ := h
  refine ⟨cur.setIfInBounds j (.float .f32 r), ?_, by simpa using h2, h3, fun i hi => ?_⟩
  · simp [World.setCell, Array.getElem?_modify, h1]
  · unfold updF
    by_cases e : i = j
    · subst e
      rw [if_pos rfl, Array.getElem?_setIfInBounds_self_of_lt (by omega)]
    · rw [if_neg e, Array.getElem?_setIfInBounds_ne (by omega)]
      exact h4 i hi
/-- Two stores of an exchange, in either order. -/
theorem Arr.swap (h : Arr T g n c f w) {i j : Nat} (hi : i < n) (hj : j < n) {x y : Nat} (hx : f i = x) (hy : f j = y) : Arr T g n c (swapF f i j) ((w.setCell ⟨g, i, none⟩ (.float .f32 y)).setCell ⟨g, j, none⟩ (.float .f32 x)) := by
  refine ((h.set hi y).set hj x).congr fun p hp => ?_
  subst hx hy
  unfold updF swapF
  by_cases h1 : p = j <;> by_cases h2 : p = i <;> simp_all
end
/-- The row is turned; nothing else is. -/
def Sw (T : TypeId) (g n c : Nat) (f : Nat → Nat) (w : World) (e : Ending) (w' : World) : Prop := e = .returned (.tuple #[]) ∧ Only g w w' ∧ Arr T g n c f w'
theorem Only.trans {b : Nat} {w w1 w2 : World} (h : Only b w w1) (h' : Only b w1 w2) : Only b w w2 :=
  ⟨h'.os.trans h.os, h'.tape.trans h.tape, h'.output.trans h.output, h'.size.trans h.size, fun k hk => (h'.block k hk).trans (h.block k hk)⟩

/-- k places from a on and from b on are exchanged. -/
def swpR (f : Nat → Nat) (a b k : Nat) : Nat → Nat := fun i => if a ≤ i ∧ i < a + k then f (i - a + b) else if b ≤ i ∧ i < b + k then f (i - b + a) else f i
theorem swpR_zero (f : Nat → Nat) (a b : Nat) : swpR f a b 0 = f := by
  funext i; unfold swpR; rw [if_neg (by omega), if_neg (by omega)]
theorem swpR_succ (f : Nat → Nat) {a b k : Nat} (h : a + (k + 1) ≤ b) : swapF (swpR f a b k) (a + k) (b + k) = swpR f a b (k + 1) := by
  funext i
  unfold swapF swpR
  by_cases h1 : i = a + k
  · rw [if_pos h1, if_neg (by omega), if_neg (by omega), if_pos (by omega)]; congr 1; omega
  · rw [if_neg h1]
    by_cases h2 : i = b + k
    · rw [if_pos h2, if_neg (by omega), if_neg (by omega), if_neg (by omega), if_pos (by omega)]; congr 1; omega
    · rw [if_neg h2]
      by_cases h3 : a ≤ i ∧ i < a + k
      · rw [if_pos h3, if_pos (by omega)]
      · rw [if_neg h3, if_neg (show ¬ (a ≤ i ∧ i < a + (k + 1)) by omega)]
        by_cases h4 : b ≤ i ∧ i < b + k
        · rw [if_pos h4, if_pos (by omega)]
        · rw [if_neg h4, if_neg (by omega)]

theorem Arr.far {T : TypeId} {g n c : Nat} {f : Nat → Nat} {w : World} (h : Arr T g n c f w) {i j : Nat} (hj : j < n) (hne : i ≠ j) (v : Value) : (w.setCell ⟨g, i, none⟩ v).cell? ⟨g, j, none⟩ = some (.float .f32 (f j)) := by
  rw [setCell_far (Ne.symm hne)]; exact h.cell hj
theorem Arr.fz {T : TypeId} {g n c : Nat} {f : Nat → Nat} {w : World} (h : Arr T g n c f w) (i j : Nat) (v : Value) : (w.setCell ⟨g, i, none⟩ v).frozen? ⟨g, j, none⟩ = false := by
  rw [World.frozen?_setCell]; exact h.frozen j

set_option maxHeartbeats 4000000 in
set_option maxRecDepth 1000000 in
theorem swapRange_any (g n cap c a b k : Nat) (f : Nat → Nat) (K : Value) (w : World) (h : Arr 28 g n c f w) (h1 : a + k ≤ b) (h2 : b + k ≤ n) (hn : n ≤ 1048576) :
    Calls Try.prog 98 #[.slice (some ⟨g, 0, none⟩) n cap, .int .i64 a, .int .i64 b, .int .i64 k, K] w (Sw 28 g n c (swpR f a b k) w) := by
  have HA := Lib.hid (show Arr 28 g n c (swpR f a b 0) w by rw [swpR_zero]; exact h)
  clear h
  go_enter Try.func98, Try.ntmps98
  go_wp2
  go_loopw [10] (fun i wr => ∃ q : Nat, q ≤ k ∧ i = .int .i64 q ∧ Hid (Only g w wr) ∧ Hid (Arr 28 g n c (swpR f a b q) wr)) (fun i _ => k - (intOf i).toNat)
  case atStart => exact ⟨0, Nat.zero_le _, rfl, Lib.hid (Only.refl _ _), HA⟩
  case round =>
    obtain ⟨q, hq, rfl, ho, ha⟩ := hrel
    by_cases hlt : q < k
    · obtain ⟨x, hx⟩ : ∃ x, swpR f a b q (a + q) = x := ⟨_, rfl⟩
      obtain ⟨y, hy⟩ : ∃ y, swpR f a b q (b + q) = y := ⟨_, rfl⟩
      obtain ⟨i1, e1⟩ : ∃ i1 : Nat, i1 = a + q := ⟨_, rfl⟩
      obtain ⟨i2, e2⟩ : ∃ i2 : Nat, i2 = b + q := ⟨_, rfl⟩
      have hne : i1 ≠ i2 := by omega
      have HS := Lib.hid (show ∀ wq, wq = wr → Arr 28 g n c (swpR f a b (q + 1)) ((wq.setCell ⟨g, i1, none⟩ (.float .f32 y)).setCell ⟨g, i2, none⟩ (.float .f32 x)) from fun wq e => by
        rw [← swpR_succ f (by omega), e, e1, e2]; exact ha.out.swap (by omega) (by omega) hx hy)
      have HO := Lib.hid (((ho.out.setCell i1 (.float .f32 y))).setCell i2 (.float .f32 x))
      have c1 := ha.out.cell (j := i1) (by omega)
      have c2 := ha.out.cell (j := i2) (by omega)
      have c3 := ha.out.far (i := i1) (j := i2) (by omega) hne (.float .f32 y)
      have c4 := ha.out.far (i := i2) (j := i1) (by omega) (Ne.symm hne) (.float .f32 x)
      rw [e1, hx, ← e1] at c1 c4
      rw [e2, hy, ← e2] at c2 c3
      have z1 := ha.out.frozen i1
      have z2 := ha.out.frozen i2
      have z3 := ha.out.fz i1 i2 (.float .f32 y)
      have z4 := ha.out.fz i2 i1 (.float .f32 x)
      have b1 : IntKind.i64.wrap ((a : Int) + (q : Int)) = (i1 : Int) := by rw [IntKind.wrap_i64]; omega
      have b2 : IntKind.i64.wrap ((b : Int) + (q : Int)) = (i2 : Int) := by rw [IntKind.wrap_i64]; omega
      have l1 : (i1 : Int) < (n : Int) := by omega
      have l2 : (i2 : Int) < (n : Int) := by omega
      have p1 : (0 : Int) ≤ (i1 : Int) := by omega
      have p2 : (0 : Int) ≤ (i2 : Int) := by omega
      clear hx hy ha ho HA e1 e2
      go_wp2
      go_big_region
      clear c1 c2 c3 c4 z1 z2 z3 z4
      go_wp2
      go_roundw
      case rel => exact ⟨q + 1, by omega, by go_num, Lib.hid (HO.out.drewN 1), Lib.hid ((HS.out _ rfl).drewN 1)⟩
      case measure => simp [intOf]; omega
    · obtain rfl : q = k := by omega
      go_wp2
      go_end0
      exact ⟨rfl, ho.out, ha.out⟩
end Go.Proofs.Ytallegmkkbmelab
