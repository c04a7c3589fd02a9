/-
  FoldedBy: plainly; the model's sums and counts in place.
-/
import Derived.Test.YtallegmkkbmelaaCLf1
import Derived.Test.YtallegmkkbmelaaCMbp
import Derived.Test.YtallegmkkbmelaaCSmd
import Derived.Deep.OwnRows
namespace Go.Proofs.Ytallegmkkbmelaa
open Ieee Go.RowKit
set_option linter.unusedVariables false

def fdT (zs : List Nat) (n j : Nat) : Nat := aop .mul .f32 (aop .sub .f32 (cn .f32 (zs.getD j 0)) ((meansZ zs n n).getD (j % n) 0)) (aop .sub .f32 (cn .f32 (zs.getD j 0)) ((meansZ zs n n).getD (j % n) 0))
def fdS (zs : List Nat) (n : Nat) : Nat := sumT (fdT zs n) zs.length
def fdB (zs : List Nat) (q : Int) : Bool := stepB zs q && (fins (meansZ zs q.toNat q.toNat) && fin .f32 (fdS zs q.toNat))
def fdL (zs : List Nat) (q : Int) : List Nat := if fdB zs q then meansZ zs q.toNat q.toNat else []
def fdV (zs : List Nat) (q : Int) : Nat := if fdB zs q then fdS zs q.toNat else 0
theorem fdL_len (zs : List Nat) (q : Int) : (fdL zs q).length ≤ 1048576 := by
  unfold fdL
  split
  · rename_i h
    unfold fdB at h
    obtain ⟨_, h1, h2, h3⟩ := stepB_t (Bool.and_eq_true _ _ ▸ h).1
    unfold meansZ; rw [tells_len]; omega
  · simp
theorem fd_bad {zs : List Nat} {q : Int} (h : fdB zs q = false) : fdL zs q = [] ∧ fdV zs q = 0 := by unfold fdL fdV; rw [h]; exact ⟨rfl, rfl⟩
theorem fd_step {zs : List Nat} {q : Int} (h : stepB zs q = false) : fdB zs q = false := by unfold fdB; rw [h]; rfl
/-- How many places before i have the remainder p. -/
def fCnt (n p i : Nat) : Nat := (i + n - 1 - p) / n
theorem fCnt_zero {n p : Nat} (h : p < n) : fCnt n p 0 = 0 := by unfold fCnt; exact Nat.div_eq_of_lt (by omega)
theorem fCnt_eq {n p i : Nat} (hp : p < n) (h : i % n = p) : fCnt n p (i + 1) = fCnt n p i + 1 ∧ i = p + fCnt n p i * n := by
  have hd := Nat.div_add_mod i n
  have e1 : i + n - 1 - p = (n - 1) + n * (i / n) := by omega
  have e2 : i + 1 + n - 1 - p = n * (i / n + 1) := by rw [Nat.mul_add]; omega
  have hk : fCnt n p i = i / n := by
    unfold fCnt
    rw [e1, Nat.add_mul_div_left _ _ (by omega), Nat.div_eq_of_lt (by omega), Nat.zero_add]
  refine ⟨?_, ?_⟩
  · rw [hk]; unfold fCnt; rw [e2, Nat.mul_div_cancel_left _ (by omega)]
  · rw [hk, Nat.mul_comm]; omega
theorem fCnt_ne {n p i : Nat} (hp : p < n) (h : i % n ≠ p) : fCnt n p (i + 1) = fCnt n p i := by
  have hd := Nat.div_add_mod i n
  have hm := Nat.mod_lt i (show 0 < n by omega)
  unfold fCnt
  rcases Nat.lt_or_ge (i % n) p with h1 | h1
  · have e1 : i + n - 1 - p = (i % n + n - 1 - p) + n * (i / n) := by omega
    have e2 : i + 1 + n - 1 - p = (i % n + n - p) + n * (i / n) := by omega
    have d1 : (i % n + n - 1 - p) / n = 0 := Nat.div_eq_of_lt (by omega)
    have d2 : (i % n + n - p) / n = 0 := Nat.div_eq_of_lt (by omega)
    rw [e1, e2, Nat.add_mul_div_left _ _ (by omega), Nat.add_mul_div_left _ _ (by omega), d1, d2]
  · have e1 : i + n - 1 - p = (i % n - 1 - p) + n * (i / n + 1) := by rw [Nat.mul_add]; omega
    have e2 : i + 1 + n - 1 - p = (i % n - p) + n * (i / n + 1) := by rw [Nat.mul_add]; omega
    have d1 : (i % n - 1 - p) / n = 0 := Nat.div_eq_of_lt (by omega)
    have d2 : (i % n - p) / n = 0 := Nat.div_eq_of_lt (by omega)
    rw [e1, e2, Nat.add_mul_div_left _ _ (by omega), Nat.add_mul_div_left _ _ (by omega), d1, d2]
theorem sum32_push (xs : List Nat) (y : Nat) : sum32 (xs ++ [y]) = aop .add .f32 (sum32 xs) (cn .f32 y) := by unfold sum32; rw [List.foldl_append]; rfl
theorem colQ_push (zs : List Nat) (n p q : Nat) : sum32 (colQ zs n p (q + 1)) = aop .add .f32 (sum32 (colQ zs n p q)) (cn .f32 (zs.getD (p + q * n) 0)) := by
  unfold colQ; rw [tells_succ, sum32_push, cn_cn]
theorem colZ_cnt {zs : List Nat} {n p : Nat} (hp : p ≤ zs.length) : colZ zs n p = colQ zs n p (fCnt n p zs.length) := by
  unfold colZ fCnt
  rw [show zs.length - p + n - 1 = zs.length + n - 1 - p by omega]
theorem fCnt_le {n p i : Nat} (hn : 1 ≤ n) : fCnt n p i ≤ i := by
  unfold fCnt
  rw [Nat.div_le_iff_le_mul_add_pred (by omega)]
  have := Nat.le_mul_of_pos_left i (show 0 < n by omega)
  omega
/-- The sums so far. -/
def FdIn (zs : List Nat) (n i : Nat) (f : Nat → Nat) : Prop := ∀ p, p < n → cn .f32 (f p) = sum32 (colQ zs n p (fCnt n p i))
theorem FdIn.start (zs : List Nat) (n : Nat) : FdIn zs n 0 (fun _ => 0) := fun p hp => by rw [fCnt_zero hp]; exact cn_zero
theorem FdIn.step {zs : List Nat} {n i r : Nat} {f : Nat → Nat} (h : FdIn zs n i f) (hn : 0 < n) (hr : cn .f32 r = aop .add .f32 (cn .f32 (f (i % n))) (cn .f32 (zs.getD i 0))) : FdIn zs n (i + 1) (fun p => if p = i % n then r else f p) := fun p hp => by
  by_cases e : p = i % n
  · simp only [if_pos e]
    obtain ⟨h1, h2⟩ := fCnt_eq hp e.symm
    rw [h1, colQ_push, hr, ← e, h p hp, ← h2]
  · simp only [if_neg e]
    rw [fCnt_ne hp (fun e2 => e e2.symm)]
    exact h p hp
theorem fd_value (n i r : Nat) (f : Nat → Nat) : (fun p => if p = i then Value.float .f32 r else Value.float .f32 (f p)) = fun p => Value.float .f32 (if p = i then r else f p) := by
  funext p; split <;> rfl
theorem fd_count {n i : Nat} (hn : 0 < n) : ∀ p, p < n → (if p = i % n then Value.int .i64 ((fCnt n (i % n) i : Int) + 1) else Value.int .i64 (fCnt n p i : Int)) = Value.int .i64 (fCnt n p (i + 1) : Int) := fun p hp => by
  split
  · rename_i e
    subst e
    rw [(fCnt_eq hp rfl).1]; rfl
  · rename_i e
    rw [fCnt_ne hp (fun e2 => e e2.symm)]
/-- The means so far. -/
def FdMe (zs : List Nat) (n k : Nat) (f : Nat → Nat) : Prop := ∀ p, p < n → cn .f32 (f p) = if p < k then mean32 (colZ zs n p) else sum32 (colZ zs n p)
theorem FdMe.start {zs : List Nat} {n : Nat} {f : Nat → Nat} (h : FdIn zs n zs.length f) (hn : n ≤ zs.length) : FdMe zs n 0 f := fun p hp => by
  rw [if_neg (Nat.not_lt_zero _), colZ_cnt (by omega)]; exact h p hp
theorem colZ_len {zs : List Nat} {n p : Nat} (hp : p ≤ zs.length) : (colZ zs n p).length = fCnt n p zs.length := by rw [colZ_cnt hp]; unfold colQ; rw [tells_len]
theorem FdMe.step {zs : List Nat} {n k r : Nat} {f : Nat → Nat} (h : FdMe zs n k f) (hk : k < n) (hn : n ≤ zs.length) (hr : cn .f32 r = aop .quo .f32 (cn .f32 (f k)) (cn .f32 (i2f (fCnt n k zs.length : Int)))) : FdMe zs n (k + 1) (fun p => if p = k then r else f p) := fun p hp => by
  by_cases e : p = k
  · subst e
    simp only [if_pos (Nat.lt_succ_self p), if_true]
    rw [hr, h p hp, if_neg (Nat.lt_irrefl _)]
    unfold mean32
    rw [colZ_len (by omega)]
  · simp only [if_neg e]
    rw [h p hp]
    by_cases h1 : p < k
    · rw [if_pos h1, if_pos (by omega)]
    · rw [if_neg h1, if_neg (by omega)]
theorem FdMe.done {zs : List Nat} {n : Nat} {f : Nat → Nat} (h : FdMe zs n n f) : cnl ((List.range n).map f) = meansZ zs n n := by
  unfold cnl meansZ tells
  rw [List.map_map]
  refine List.map_congr_left fun p hp => ?_
  have hp : p < n := by simpa using hp
  show cn .f32 (f p) = _
  rw [h p hp, if_pos hp]
theorem own_of_row {w : World} {T : TypeId} {g n : Nat} {f : Nat → Nat} (h : w.rowIs g T n (fun p => .float .f32 (f p))) (hn : n ≤ maxLen) : FOwn T g w (.slice (some ⟨g, 0, none⟩) n n) ((List.range n).map f) := by
  obtain ⟨cur, h1, h2, h3⟩ := h
  unfold FOwn
  rw [show ((List.range n).map f).length = n by simp]
  refine ⟨by simp, .inr ⟨g, n, cur, rfl, Nat.le_refl _, h1, Nat.le_refl _, hn, by omega, ?_⟩⟩
  rw [Nat.mul_one]
  refine List.ext_getElem (by simp [h2]) fun i g1 g2 => ?_
  have hi : i < n := by simpa using g2
  have := h3 i hi
  rw [Array.getElem?_eq_getElem (by omega)] at this
  injection this with this
  simp [this]
end Go.Proofs.Ytallegmkkbmelaa
