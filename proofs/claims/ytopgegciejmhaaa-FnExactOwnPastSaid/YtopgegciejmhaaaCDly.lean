/-
  Lists less their means, and sums of the products of numbers and later ones, plainly.
-/
import Derived.Test.YtopgegciejmhaaaCPos
import Derived.Test.YtopgegciejmhaaaCPlc
namespace Go.Proofs.Ytopgegciejmhaaa
open Ieee Go.RowKit
set_option linter.unusedVariables false

def offL (zs : List Nat) : List Nat := less32 zs (mean32 zs)
theorem offL_len (zs : List Nat) : (offL zs).length = zs.length := less_len ..
/-- The sum of the products of m numbers of a list from p on and of another one from q on. -/
def dly (xs ys : List Nat) (p q m : Nat) : Nat := dotTo (xs.drop p) (ys.drop q) m
theorem dly_cn (xs ys : List Nat) (p q m : Nat) : cn .f32 (dly xs ys p q m) = dly xs ys p q m := dotTo_cn ..
theorem getD_drop (xs : List Nat) (p k : Nat) : (xs.drop p).getD k 0 = xs.getD (p + k) 0 := by simp [List.getD]
theorem getD_part {xs : List Nat} {p n k : Nat} (h : k < n) : ((xs.drop p).take n).getD k 0 = xs.getD (p + k) 0 := by simp [List.getD, h]
theorem dly_part (xs ys : List Nat) (p q m : Nat) : dotTo ((xs.drop p).take m) ((ys.drop q).take m) m = dly xs ys p q m := by
  unfold dly
  refine dotTo_congr fun k hk => ?_
  rw [getD_part hk, getD_part hk, getD_drop, getD_drop]
  exact ⟨rfl, rfl⟩
theorem dly_step {xs ys : List Nat} {p q k s x y : Nat} (hs : cn .f32 s = dly xs ys p q k) (hx : xs.getD (p + k) 0 = x) (hy : ys.getD (q + k) 0 = y) (w1 w2 : World) :
    cn .f32 (fopR .add .f32 s (fopR .mul .f32 x y w1) w2) = dly xs ys p q (k + 1) := by
  unfold dly at *
  rw [← getD_drop] at hx hy
  exact dot_step hs hx hy w1 w2
theorem dly_congr {xs ys xs' ys' : List Nat} (hx : cnl xs = cnl xs') (hy : cnl ys = cnl ys') {p q m : Nat} (h1 : p + m ≤ xs.length) (h2 : q + m ≤ ys.length) : dly xs ys p q m = dly xs' ys' p q m := by
  unfold dly
  refine dotTo_congr fun k hk => ?_
  simp only [getD_drop]
  exact ⟨cnl_getD hx _ (by omega), cnl_getD hy _ (by omega)⟩
theorem cnl_less (zs : List Nat) (m : Nat) : cnl (less32 zs m) = less32 zs m := by
  unfold cnl less32
  rw [List.map_map]
  congr 1
  funext z
  exact cn_aop ..
theorem cnl_off (zs : List Nat) : cnl (offL zs) = offL zs := cnl_less ..
theorem off_at {zs : List Nat} {k : Nat} (h : k < zs.length) : (offL zs).getD k 0 = aop .sub .f32 (cn .f32 (zs.getD k 0)) (mean32 zs) := by
  unfold offL less32
  simp [List.getD, h]
theorem fin_dly {xs ys : List Nat} {p q m : Nat} (h : fin .f32 (dly xs ys p q m) = true) {k : Nat} (hk : k < m) : fin .f32 (xs.getD (p + k) 0) = true ∧ fin .f32 (ys.getD (q + k) 0) = true := by
  unfold dly at h
  rw [dotTo_sumT] at h
  have h1 := fin_mul (fin_sumT h k hk)
  rw [getD_drop, getD_drop] at h1
  exact ⟨(fin_congr (cn_cn ..)).symm.trans h1.1, (fin_congr (cn_cn ..)).symm.trans h1.2⟩
theorem fin_off {zs : List Nat} {k : Nat} (hk : k < zs.length) (h : fin .f32 ((offL zs).getD k 0) = true) : fin .f32 (mean32 zs) = true := by
  rw [off_at hk] at h
  exact (fin_sub h).2

/-- Lags of a series. -/
def lagsB (zs : List Nat) (a : Int) : Bool := serB zs && decide (0 ≤ a ∧ a ≤ 16 ∧ a < zs.length)
theorem lagsB_t {zs : List Nat} {a : Int} (h : lagsB zs a = true) : serB zs = true ∧ 0 ≤ a ∧ a ≤ 16 ∧ a < zs.length ∧ zs.length ≤ 96 := by
  unfold lagsB at h
  have h1 := (Bool.and_eq_true _ _ ▸ h).1
  have h2 := of_decide_eq_true (Bool.and_eq_true _ _ ▸ h).2
  exact ⟨h1, h2.1, h2.2.1, h2.2.2, (serB_t h1).2.1⟩
theorem lagsB_f {zs : List Nat} {a : Int} (h : lagsB zs a = false) (hs : serB zs = true) : a < 0 ∨ (0 ≤ a ∧ 16 < a) ∨ (0 ≤ a ∧ a ≤ 16 ∧ zs.length ≤ a) := by
  unfold lagsB at h
  rw [hs] at h
  have := of_decide_eq_false (show decide (0 ≤ a ∧ a ≤ 16 ∧ a < zs.length) = false from h)
  omega
/-- How like a series is to itself. -/
def slfW (zs : List Nat) : Nat := dly (offL zs) (offL zs) 0 0 zs.length
def slfT (zs : List Nat) (k : Nat) : Nat := aop .quo .f32 (dly (offL zs) (offL zs) 0 k (zs.length - k)) (slfW zs)
def slfL (zs : List Nat) (a : Int) : List Nat := tells (slfT zs) (a.toNat + 1)
def slfB0 (zs : List Nat) (a : Int) : Bool := lagsB zs a && posB (slfW zs)
def slfB (zs : List Nat) (a : Int) : Bool := slfB0 zs a && fins (slfL zs a)
def slfR (zs : List Nat) (a : Int) : List Nat := if slfB0 zs a then lstR (slfL zs a) else []
theorem slf_bad {zs : List Nat} {a : Int} (h : slfB0 zs a = false) : slfB zs a = false ∧ slfR zs a = [] := by unfold slfB slfR; rw [h]; exact ⟨rfl, rfl⟩
theorem slf_good {zs : List Nat} {a : Int} (h : slfB0 zs a = true) : slfB zs a = fins (slfL zs a) ∧ slfR zs a = lstR (slfL zs a) := by unfold slfB slfR; rw [h]; exact ⟨rfl, rfl⟩
theorem slf_out {zs : List Nat} {a : Int} (h : lagsB zs a = false) : slfB zs a = false ∧ slfR zs a = [] := slf_bad (by unfold slfB0; rw [h]; rfl)
theorem slf_mean {zs : List Nat} {a : Int} (hm : fin .f32 (mean32 zs) = false) : slfB zs a = false ∧ slfR zs a = [] := by
  cases h : slfB0 zs a
  · exact slf_bad h
  · have h1 : lagsB zs a = true := by unfold slfB0 at h; exact (Bool.and_eq_true _ _ ▸ h).1
    obtain ⟨h2, h3, h4, h5, h6⟩ := lagsB_t h1
    have hp : 0 < zs.length := by omega
    have hf : fins (slfL zs a) = false := Bool.eq_false_iff.2 fun hh => by
      have h7 := fins_at hh (k := 0) (by unfold slfL; rw [tells_len]; omega)
      unfold slfL at h7
      rw [tells_at _ (by omega)] at h7
      have h8 := (fin_dly (fin_quo h7) (k := 0) (by omega)).1
      rw [Nat.add_zero] at h8
      have h9 := fin_off hp h8
      rw [hm] at h9; cases h9
    obtain ⟨e1, e2⟩ := slf_good h
    rw [e1, e2]
    unfold lstR
    rw [hf]
    exact ⟨rfl, rfl⟩
theorem slfR_len (zs : List Nat) (a : Int) : (slfR zs a).length ≤ 1048576 := by
  unfold slfR
  split
  · rename_i h
    have h1 : lagsB zs a = true := by unfold slfB0 at h; exact (Bool.and_eq_true _ _ ▸ h).1
    obtain ⟨_, h2, h3, h4, _⟩ := lagsB_t h1
    unfold lstR
    split
    · unfold slfL; rw [tells_len]; omega
    · simp
  · simp
theorem slfR_len2 {zs : List Nat} {a : Int} (h : slfB zs a = true) : (slfR zs a).length = a.toNat + 1 ∧ lagsB zs a = true ∧ slfR zs a = slfL zs a := by
  have h0 : slfB0 zs a = true := by unfold slfB at h; exact (Bool.and_eq_true _ _ ▸ h).1
  have h1 : lagsB zs a = true := by unfold slfB0 at h0; exact (Bool.and_eq_true _ _ ▸ h0).1
  obtain ⟨e1, e2⟩ := slf_good h0
  rw [h] at e1
  rw [e2]
  unfold lstR
  rw [← e1, if_pos rfl]
  exact ⟨by unfold slfL; rw [tells_len], h1, rfl⟩
end Go.Proofs.Ytopgegciejmhaaa
