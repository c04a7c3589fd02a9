/-
  MovingMean, in both packages.
-/
import Derived.Test.YtcfejkkkleiejaaCBox
import Derived.Test.YtcfejkkkleiejaaCMea
import Derived.Deep.QuietTactic
import Derived.BigQuiet
namespace Go.Proofs.Ytcfejkkkleiejaa
open Ieee Go.RowKit
set_option linter.unusedVariables false

/-- The numbers around place j, from s before to s behind. -/
def win (zs : List Nat) (s j : Nat) : List Nat := (zs.drop (j - s)).take (min (j + s + 1) zs.length - (j - s))
theorem win_len {zs : List Nat} {s j : Nat} (h : j < zs.length) : (win zs s j).length = min (j + s + 1) zs.length - (j - s) ∧ 1 ≤ (win zs s j).length ∧ (win zs s j).length ≤ zs.length := by
  unfold win
  rw [List.length_take, List.length_drop]
  omega
theorem fins_part {zs : List Nat} (h : fins zs = true) (i n : Nat) : fins ((zs.drop i).take n) = true := by
  unfold fins at *
  rw [List.all_eq_true] at *
  intro x hx
  exact h x (List.mem_of_mem_drop (List.mem_of_mem_take hx))
theorem win_ser {zs : List Nat} {s j : Nat} (h : serB zs = true) (hj : j < zs.length) : serB (win zs s j) = true := by
  obtain ⟨h1, h2, h3⟩ := serB_t h
  obtain ⟨_, a, b⟩ := win_len (s := s) hj
  unfold serB
  rw [decide_eq_true ⟨a, by omega⟩]
  exact fins_part h3 _ _
def movB0 (zs : List Nat) (a : Int) : Bool := serB zs && decide (0 ≤ a ∧ a ≤ 96)
theorem movB_t {zs : List Nat} {a : Int} (h : movB0 zs a = true) : serB zs = true ∧ 0 ≤ a ∧ a ≤ 96 ∧ zs.length ≤ 96 := by
  unfold movB0 at h
  have h1 := (Bool.and_eq_true _ _ ▸ h).1
  have h2 := of_decide_eq_true (Bool.and_eq_true _ _ ▸ h).2
  exact ⟨h1, h2.1, h2.2, (serB_t h1).2.1⟩
theorem movB_f {zs : List Nat} {a : Int} (h : movB0 zs a = false) (hs : serB zs = true) : a < 0 ∨ 96 < a := by
  unfold movB0 at h
  rw [hs] at h
  have := of_decide_eq_false (show decide (0 ≤ a ∧ a ≤ 96) = false from h)
  omega
def movZ (zs : List Nat) (s k : Nat) : List Nat := tells (fun j => mean32 (win zs s j)) k
def movL (zs : List Nat) (a : Int) : List Nat := movZ zs a.toNat zs.length
def movB (zs : List Nat) (a : Int) : Bool := movB0 zs a && fins (movL zs a)
def movR (zs : List Nat) (a : Int) : List Nat := if movB0 zs a then lstR (movL zs a) else []
theorem movR_len (zs : List Nat) (a : Int) : (movR zs a).length ≤ 1048576 := by
  unfold movR
  split
  · rename_i h
    obtain ⟨_, h1, h2, h3⟩ := movB_t h
    unfold lstR
    split
    · unfold movL movZ
      rw [tells_len]
      omega
    · simp
  · simp
theorem mov_bad {zs : List Nat} {a : Int} (h : movB0 zs a = false) : movB zs a = false ∧ movR zs a = [] := by unfold movB movR; rw [h]; exact ⟨rfl, rfl⟩
theorem mov_good {zs : List Nat} {a : Int} (h : movB0 zs a = true) : movB zs a = fins (movL zs a) ∧ movR zs a = lstR (movL zs a) := by unfold movB movR; rw [h]; exact ⟨rfl, rfl⟩

theorem slice_eq {b o o' n n' c c' : Nat} (h1 : o = o') (h2 : n = n') (h3 : c = c') : Value.slice (some ⟨b, o, none⟩) n c = Value.slice (some ⟨b, o', none⟩) n' c' := by rw [h1, h2, h3]
theorem fsl_eq {w : World} {b o o' n n' : Nat} {ys : List Nat} (h : FSl w (some ⟨b, o, none⟩) n ys) (h1 : o = o') (h2 : n = n') : FSl w (some ⟨b, o', none⟩) n' ys := by rw [← h1, ← h2]; exact h
/-- What is told of windows. -/
def winL (tell : List Nat → Nat) (zs : List Nat) (a : Int) : List Nat := tells (fun j => tell (win zs a.toNat j)) zs.length
def winB (tell : List Nat → Nat) (zs : List Nat) (a : Int) : Bool := movB0 zs a && fins (winL tell zs a)
def winR (tell : List Nat → Nat) (zs : List Nat) (a : Int) : List Nat := if movB0 zs a then lstR (winL tell zs a) else []
theorem win_bad {tell : List Nat → Nat} {zs : List Nat} {a : Int} (h : movB0 zs a = false) : winB tell zs a = false ∧ winR tell zs a = [] := by unfold winB winR; rw [h]; exact ⟨rfl, rfl⟩
theorem win_good {tell : List Nat → Nat} {zs : List Nat} {a : Int} (h : movB0 zs a = true) : winB tell zs a = fins (winL tell zs a) ∧ winR tell zs a = lstR (winL tell zs a) := by unfold winB winR; rw [h]; exact ⟨rfl, rfl⟩
/-- What a function over a window gives. -/
def TellsW (tell : List Nat → Nat) (ys : List Nat) (wr : World) (e : Ending) (w' : World) : Prop :=
  ∃ r, e = .returned (.tuple #[.float .f32 r, .bool (fin .f32 (tell ys))]) ∧ (fin .f32 (tell ys) = true → cn .f32 r = tell ys) ∧ Below wr.heap.size wr w'

end Go.Proofs.Ytcfejkkkleiejaa
