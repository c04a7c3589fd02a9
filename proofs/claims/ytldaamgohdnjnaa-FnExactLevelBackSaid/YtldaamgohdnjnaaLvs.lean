/-
  LevelStep: what it gives, plainly.
-/
import Derived.Test.YtldaamgohdnjnaaLvl
import Derived.Test.YtldaamgohdnjnaaCLgn
import Derived.Deep.RegionWith
namespace Go.Proofs.Ytldaamgohdnjnaa
open Ieee Go.RowKit
set_option linter.unusedVariables false

theorem NumsIn.put {w : World} {p : Nat} {xs : List Nat} (h : NumsIn w p xs) {i : Nat} (hi : i < xs.length) (v : Nat) : NumsIn (w.setCell ⟨p, i, none⟩ (.float .f32 v)) p (xs.set i v) := by
  refine ⟨by simpa [World.setCell] using h.1, fun j hj => ⟨?_, by rw [World.frozen?_setCell]; rw [List.length_set] at hj; exact (h.2 j hj).2⟩⟩
  rw [List.length_set] at hj
  by_cases e : j = i
  · subst e
    rw [World.cell?_setCell_same' _ _ _ (by rw [(h.2 j hi).1]; rfl)]
    simp [List.getD, hi]
  · rw [World.cell?_setCell_other _ _ _ _ (by intro q; injection q with _ q2 _; exact e q2.symm)]
    rw [(h.2 j hj).1]
    simp [List.getD, hj, Ne.symm e]
theorem log32_congr {x y : Nat} (h : cn .f32 x = cn .f32 y) : log32 x = log32 y := by
  have hN := isN_congr h
  cases hx : isN .f32 x
  · have hy : isN .f32 y = false := by rw [← hN, hx]
    rw [cn_num hx, cn_num hy] at h; rw [h]
  · rw [log_nan hx, log_nan (by rw [← hN, hx])]
/-- How unlikely a number is that is so far away. -/
def unlW (D F : Nat) : Nat := aop .mul .f32 1056964608 (aop .add .f32 (log32 F) (aop .quo .f32 (aop .mul .f32 D D) F))
theorem cn_unlW (D F : Nat) : cn .f32 (unlW D F) = unlW D F := cn_aop ..
theorem cn_half : cn .f32 1056964608 = 1056964608 := by decide +kernel
theorem unl_step {D F D0 F0 l : Nat} (hD : cn .f32 D = D0) (hF : cn .f32 F = F0) (hl : cn .f32 l = log32 F) (w1 w2 w3 w4 : World) : cn .f32 (fopR .mul .f32 1056964608 (fopR .add .f32 l (fopR .quo .f32 (fopR .mul .f32 D D w1) F w2) w3) w4) = unlW D0 F0 := by
  rw [cn_fopR, cn_fopR, cn_fopR, cn_fopR, hl, hD, hF, cn_half]
  unfold unlW
  rw [log32_congr (show cn .f32 F = cn .f32 F0 by rw [← hF, cn_cn])]
def lsS (b d : Nat) : Nat := aop .add .f32 (cn .f32 b) (cn .f32 d)
def lsF (b c d : Nat) : Nat := aop .add .f32 (lsS b d) (cn .f32 c)
def lsD (a x : Nat) : Nat := aop .sub .f32 (cn .f32 x) (cn .f32 a)
def lsK (b c d : Nat) : Nat := aop .quo .f32 (lsS b d) (lsF b c d)
def lsM (a b c d x : Nat) : Nat := aop .add .f32 (cn .f32 a) (aop .mul .f32 (lsK b c d) (lsD a x))
def lsP (b c d : Nat) : Nat := aop .sub .f32 (lsS b d) (aop .mul .f32 (lsK b c d) (lsS b d))
def lsQ (a b c d x : Nat) : Nat := unlW (lsD a x) (lsF b c d)
/-- The mean, the spread, and how unlikely it was. -/
def sM (s : Bool) (a b c d x : Nat) : Nat := if s then lsM a b c d x else cn .f32 a
def sP (s : Bool) (b c d : Nat) : Nat := if s then lsP b c d else lsS b d
def sQ (s : Bool) (a b c d x : Nat) : Nat := if s then lsQ a b c d x else 0
def lsB0 (a b c d x : Nat) : Bool := lvB a b c d && fin .f32 x
def lsB (s : Bool) (a b c d x : Nat) : Bool := lsB0 a b c d x && (lvB (sM s a b c d x) (sP s b c d) c d && fin .f32 (sQ s a b c d x))
/-- A level, a number and a bool. -/
def RetLv (A B C D Q : Nat) (ok : Bool) (w : World) (e : Ending) (w' : World) : Prop :=
  ∃ m s n d q, cn .f32 m = A ∧ cn .f32 s = B ∧ cn .f32 n = C ∧ cn .f32 d = D ∧ cn .f32 q = Q ∧ e = .returned (.tuple #[.agg #[.float .f32 m, .float .f32 s, .float .f32 n, .float .f32 d], .float .f32 q, .bool ok]) ∧ Below w.heap.size w w'
def lsR (s : Bool) (a b c d x : Nat) (w : World) : Ending → World → Prop :=
  RetLv (if lsB s a b c d x then sM s a b c d x else 0) (if lsB s a b c d x then sP s b c d else 0) (if lsB s a b c d x then cn .f32 c else 0) (if lsB s a b c d x then cn .f32 d else 0) (if lsB s a b c d x then sQ s a b c d x else 0) (lsB s a b c d x) w
theorem lsR_no {s : Bool} {a b c d x : Nat} {w w' : World} (h : lsB s a b c d x = false) (hb : Below w.heap.size w w') :
    lsR s a b c d x w (.returned (.tuple #[.agg #[.float .f32 0, .float .f32 0, .float .f32 0, .float .f32 0], .float .f32 0, .bool false])) w' := by
  unfold lsR; rw [h]
  exact ⟨0, 0, 0, 0, 0, cn_zero, cn_zero, cn_zero, cn_zero, cn_zero, rfl, hb⟩
theorem lsR_yes {s : Bool} {a b c d x m p q : Nat} {w w' : World} (h : lsB s a b c d x = true) (hm : cn .f32 m = sM s a b c d x) (hp : cn .f32 p = sP s b c d) (hq : cn .f32 q = sQ s a b c d x) (hb : Below w.heap.size w w') :
    lsR s a b c d x w (.returned (.tuple #[.agg #[.float .f32 m, .float .f32 p, .float .f32 c, .float .f32 d], .float .f32 q, .bool true])) w' := by
  unfold lsR; rw [h]
  exact ⟨m, p, c, d, q, hm, hp, rfl, rfl, hq, rfl, hb⟩
theorem lsB_0 {s : Bool} {a b c d x : Nat} (h : lsB0 a b c d x = false) : lsB s a b c d x = false := by unfold lsB; rw [h]; rfl
theorem lsB_1 {s : Bool} {a b c d x m p q : Nat} (h : lsB0 a b c d x = true) (hm : cn .f32 m = sM s a b c d x) (hp : cn .f32 p = sP s b c d) (hq : cn .f32 q = sQ s a b c d x) : lsB s a b c d x = (lvB m p c d && fin .f32 q) := by
  unfold lsB; rw [h]
  rw [lvB_congr (a := m) (b := p) (c := c) (d := d) (a' := sM s a b c d x) (b' := sP s b c d) (c' := c) (d' := d) (by rw [← hm, cn_cn]) (by rw [← hp, cn_cn]) rfl rfl, fin_congr (x := q) (y := sQ s a b c d x) (by rw [← hq, cn_cn])]; rfl
theorem unl_any (D F : Nat) (w : World) (hF : F < 4294967296) : Calls Try.prog 135 #[.float .f32 D, .float .f32 F] w (RetF .f32 (unlW (cn .f32 D) (cn .f32 F)) w) := by
  go_enter Try.func135, Try.ntmps135
  go_wp2_with fail
  refine (implLogNumber_any _ _ hF).mono ?_
  rintro e w' ⟨l, n, hl, rfl, rfl⟩
  have H := Lib.hid (unl_step (D := D) (F := F) rfl rfl hl)
  clear hl hF
  go_wp2
  go_ret
  exact ⟨_, _, H.out _ _ _ _, rfl, rfl⟩
end Go.Proofs.Ytldaamgohdnjnaa
