/-
  BackOfWaves, in both packages.
-/
import Derived.Test.YtallegmkkbmelabCBox
import Derived.Test.YtallegmkkbmelabCAre
import Derived.Test.YtallegmkkbmelabCPos
import Derived.Deep.QuietTactic
import Derived.BigQuiet
namespace Go.Proofs.Ytallegmkkbmelab
open Ieee Go.RowKit
set_option linter.unusedVariables false

def bwA (ms ss : List Nat) (k : Nat) : Nat := aop .add .f32 (cn .f32 (ms.getD k 0)) (cn .f32 (ss.getD k 0))
def bwD (ms ss : List Nat) (k : Nat) : Nat := aop .sub .f32 (cn .f32 (ms.getD k 0)) (cn .f32 (ss.getD k 0))
def bwT (ms ss : List Nat) (j : Nat) : Nat := if j % 2 = 0 then bwA ms ss (j / 2) else bwD ms ss (j / 2)
def bwL (ms ss : List Nat) : List Nat := tells (bwT ms ss) (2 * ms.length)
def bwB0 (ms ss : List Nat) : Bool := pairB ms ss && decide (ms.length ≤ 48)
def bwB (ms ss : List Nat) : Bool := bwB0 ms ss && fins (bwL ms ss)
def bwR (ms ss : List Nat) : List Nat := if bwB0 ms ss then lstR (bwL ms ss) else []
theorem bw_bad {ms ss : List Nat} (h : bwB0 ms ss = false) : bwB ms ss = false ∧ bwR ms ss = [] := by unfold bwB bwR; rw [h]; exact ⟨rfl, rfl⟩
theorem bw_good {ms ss : List Nat} (h : bwB0 ms ss = true) : bwB ms ss = fins (bwL ms ss) ∧ bwR ms ss = lstR (bwL ms ss) := by unfold bwB bwR; rw [h]; exact ⟨rfl, rfl⟩
theorem bwR_len (ms ss : List Nat) : (bwR ms ss).length ≤ 1048576 := by
  unfold bwR
  split
  · rename_i h
    unfold bwB0 at h
    have h2 := of_decide_eq_true (Bool.and_eq_true _ _ ▸ h).2
    unfold lstR
    split
    · unfold bwL; rw [tells_len]; omega
    · simp
  · simp
theorem bw_two {ms ss : List Nat} {k : Nat} : tells (bwT ms ss) (2 * (k + 1)) = tells (bwT ms ss) (2 * k) ++ [bwA ms ss k, bwD ms ss k] := by
  show tells (bwT ms ss) (2 * k + 1 + 1) = _
  rw [tells_succ, tells_succ]
  have e1 : bwT ms ss (2 * k) = bwA ms ss k := by unfold bwT; rw [if_pos (by omega), show 2 * k / 2 = k by omega]
  have e2 : bwT ms ss (2 * k + 1) = bwD ms ss k := by unfold bwT; rw [if_neg (by omega), show (2 * k + 1) / 2 = k by omega]
  rw [e1, e2, List.append_assoc]; rfl

/-- What the closure of BackOfWaves reads. -/
def BwI (bm bs : Nat) (a a' : Option Addr) (len cap cap' : Nat) (ms ss : List Nat) (_k : Nat) (wr : World) : Prop :=
  BoxI bm a len cap ms wr ∧ BoxI bs a' len cap' ss wr
theorem BwI.keep {bm bs B : Nat} {a a' : Option Addr} {len cap cap' k k' : Nat} {ms ss : List Nat} {wr wr' : World} (h : BwI bm bs a a' len cap cap' ms ss k wr) (h1 : bm < B) (h2 : bs < B) (hb : Below B wr wr') : BwI bm bs a a' len cap cap' ms ss k' wr' :=
  ⟨h.1.keep h1 hb, h.2.keep h2 hb⟩
theorem bw1_any (bm bs B0 B : Nat) (a a' : Option Addr) (len cap cap' j : Nat) (ms ss : List Nat) (wr : World) (h : BwI bm bs a a' len cap cap' ms ss j wr) (hj : j < 2 * len) (hm : len ≤ 48) :
    Calls Try.prog 42 #[.int .i64 j, .pointer (some ⟨bm, 0, none⟩), .pointer (some ⟨bs, 0, none⟩)] wr (Tells (bwT ms ss) (BwI bm bs a a' len cap cap' ms ss) B0 B j wr) := by
  have HI := Lib.hid h
  obtain ⟨⟨c1, h1⟩, c2, h2⟩ := h
  obtain ⟨b, off, rfl, _, hc⟩ := h1 (by omega)
  obtain ⟨b', off', rfl, _, hc'⟩ := h2 (by omega)
  obtain ⟨k, hk⟩ : ∃ k, j / 2 = k := ⟨_, rfl⟩
  have hkl : k < len := by omega
  have hck := hc k hkl
  have hck' := hc' k hkl
  have HA := Lib.hid (show ∀ z y, ms.getD k 0 = z → ss.getD k 0 = y → ∀ w', j % 2 = 0 → cn .f32 (fopR .add .f32 z y w') = bwT ms ss j from fun z y e1 e2 w' e => by
    rw [cn_fopR, ← e1, ← e2]; unfold bwT; rw [if_pos e, hk]; rfl)
  have HD := Lib.hid (show ∀ z y, ms.getD k 0 = z → ss.getD k 0 = y → ∀ w', ¬ j % 2 = 0 → cn .f32 (fopR .sub .f32 z y w') = bwT ms ss j from fun z y e1 e2 w' e => by
    rw [cn_fopR, ← e1, ← e2]; unfold bwT; rw [if_neg e, hk]; rfl)
  have hq : ((j : Int).tdiv 2) = (k : Int) := by rw [← hk]; exact (Int.ofNat_tdiv j 2).symm
  clear h1 h2 hc hc'
  generalize hz : ms.getD k 0 = z at hck
  generalize hy : ss.getD k 0 = y at hck'
  have HA2 := Lib.hid (HA.out z y hz hy)
  have HD2 := Lib.hid (HD.out z y hz hy)
  clear hz hy HA HD hk
  by_cases he : j % 2 = 0
  · have HA3 := Lib.hid (fun w' => HA2.out w' he)
    have hr : ((j : Int) % 2 == 0) = true := by rw [beq_iff_eq]; omega
    clear he HA2 HD2
    go_enter Try.func42, Try.ntmps42
    go_wp2_with fail
    go_region
    all_goals
      go_wp2
      go_ret
      exact Tells.quiet (HA3.out _) (HI.out.keep (B := bm + bs + 1) (by omega) (by omega) (below_drewN (Below.refl _ _) _))
  · have HD3 := Lib.hid (fun w' => HD2.out w' he)
    have hr : ((j : Int) % 2 == 0) = false := by rw [beq_eq_false_iff_ne]; omega
    clear he HA2 HD2
    go_enter Try.func42, Try.ntmps42
    go_wp2_with fail
    go_region
    all_goals
      go_wp2
      go_ret
      exact Tells.quiet (HD3.out _) (HI.out.keep (B := bm + bs + 1) (by omega) (by omega) (below_drewN (Below.refl _ _) _))
end Go.Proofs.Ytallegmkkbmelab
