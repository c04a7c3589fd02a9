/-
  Trend, season and rest, plainly; what is not finite in a round is not finite at the end.
-/
import Derived.Test.YtcfejkkkleiejaaCSea
import Derived.Test.YtcfejkkkleiejaaCMov
namespace Go.Proofs.Ytcfejkkkleiejaa
open Ieee Go.RowKit
set_option linter.unusedVariables false

def offZ (xs ys : List Nat) : List Nat := tells (fun i => aop .sub .f32 (cn .f32 (xs.getD i 0)) (cn .f32 (ys.getD i 0))) xs.length
theorem offZ_len (xs ys : List Nat) : (offZ xs ys).length = xs.length := tells_len ..
theorem tells_cn {f : Nat → Nat} (h : ∀ i, cn .f32 (f i) = f i) (n : Nat) : cnl (tells f n) = tells f n := by
  unfold cnl tells
  rw [List.map_map]
  congr 1
  funext i
  exact h i
theorem offZ_cn (xs ys : List Nat) : cnl (offZ xs ys) = offZ xs ys := tells_cn (fun _ => cn_aop ..) _
def sprZ (s : List Nat) (n : Nat) : List Nat := tells (fun i => cn .f32 (s.getD (i % s.length) 0)) n
theorem sprZ_len (s : List Nat) (n : Nat) : (sprZ s n).length = n := tells_len ..
theorem sprZ_cn (s : List Nat) (n : Nat) : cnl (sprZ s n) = sprZ s n := tells_cn (fun _ => cn_cn ..) _
def calmZ (zs s : List Nat) : List Nat := offZ zs (sprZ s zs.length)
def trZ (zs s : List Nat) (sd : Nat) : List Nat := movZ (calmZ zs s) sd zs.length
theorem trZ_len (zs s : List Nat) (sd : Nat) : (trZ zs s sd).length = zs.length := by unfold trZ movZ; exact tells_len ..
theorem trZ_cn (zs s : List Nat) (sd : Nat) : cnl (trZ zs s sd) = trZ zs s sd := tells_cn (fun _ => cn_mean _) _
def lvZ (zs s : List Nat) (sd : Nat) : List Nat := offZ zs (trZ zs s sd)
def nxZ (zs s : List Nat) (sd : Nat) : List Nat := seaZ (lvZ zs s sd) s.length
theorem nxZ_len (zs s : List Nat) (sd : Nat) : (nxZ zs s sd).length = s.length := seaZ_len ..
def apS (zs : List Nat) (m sd : Nat) : Nat → List Nat
  | 0 => List.replicate m 0
  | t + 1 => nxZ zs (apS zs m sd t) sd
theorem apS_len (zs : List Nat) (m sd : Nat) : ∀ t, (apS zs m sd t).length = m
  | 0 => List.length_replicate
  | t + 1 => by show (nxZ _ _ _).length = m; rw [nxZ_len, apS_len zs m sd t]
theorem seaZ_cn (zs : List Nat) (n : Nat) : cnl (seaZ zs n) = seaZ zs n := by
  unfold seaZ less32 cnl
  rw [List.map_map]
  congr 1
  funext z
  exact cn_aop ..
theorem nxZ_cn (zs s : List Nat) (sd : Nat) : cnl (nxZ zs s sd) = nxZ zs s sd := seaZ_cn ..
theorem apS_cn (zs : List Nat) (m sd t : Nat) : cnl (apS zs m sd t) = apS zs m sd t := by
  cases t with
  | zero =>
    unfold apS cnl
    rw [List.map_replicate, cn_zero]
  | succ t => exact nxZ_cn ..
theorem fins_tells_iff {f : Nat → Nat} {n : Nat} : fins (tells f n) = true ↔ ∀ i, i < n → fin .f32 (f i) = true := by
  unfold fins tells
  rw [List.all_map, List.all_eq_true]
  exact ⟨fun h i hi => h i (by simpa using hi), fun h i hi => h i (by simpa using hi)⟩
theorem fins_iff {xs : List Nat} : fins xs = true ↔ ∀ i, i < xs.length → fin .f32 (xs.getD i 0) = true := by
  constructor
  · exact fun h i hi => fins_at h hi
  · intro h
    unfold fins
    rw [List.all_eq_true]
    intro x hx
    obtain ⟨i, hi, rfl⟩ := List.mem_iff_getElem.1 hx
    have := h i hi
    simpa [List.getD, hi] using this
/-- Each number stands in the column of its place. -/
theorem col_all {zs : List Nat} {m : Nat} (hm : 1 ≤ m) (h : ∀ p, p < m → fins (colZ zs m p) = true) : fins zs = true := by
  refine fins_iff.2 fun i hi => ?_
  have hp : i % m < m := Nat.mod_lt _ (by omega)
  have hc := h (i % m) hp
  unfold colZ colQ at hc
  rw [fins_tells_iff] at hc
  have hdm := Nat.div_add_mod i m
  have e : i % m + i / m * m = i := by rw [Nat.mul_comm]; omega
  have hq : i / m < (zs.length - i % m + m - 1) / m := by
    rw [Nat.lt_div_iff_mul_lt (by omega)] <;> omega
  have := hc (i / m) hq
  rw [e] at this
  rwa [fin_congr (cn_cn .f32 _)] at this
theorem win_has {zs : List Nat} {s j : Nat} (h : j < zs.length) (hf : fins (win zs s j) = true) : fin .f32 (zs.getD j 0) = true := by
  have hl := (win_len (s := s) h).1
  have := fins_at hf (k := j - (j - s)) (by rw [hl]; omega)
  unfold win at this
  have e : ((zs.drop (j - s)).take (min (j + s + 1) zs.length - (j - s))).getD (j - (j - s)) 0 = zs.getD j 0 := by
    simp only [List.getD]
    rw [List.getElem?_take, if_pos (by omega), List.getElem?_drop, show j - s + (j - (j - s)) = j by omega]
  rwa [e] at this
theorem fins_off {xs ys : List Nat} (h : fins (offZ xs ys) = true) : ∀ i, i < xs.length → fin .f32 (xs.getD i 0) = true ∧ fin .f32 (ys.getD i 0) = true := fun i hi => by
  have := (fins_tells_iff.1 h) i hi
  obtain ⟨h1, h2⟩ := fin_sub this
  rw [fin_congr (cn_cn .f32 _)] at h1 h2
  exact ⟨h1, h2⟩
theorem off_at {xs ys : List Nat} {i : Nat} (h : i < xs.length) : (offZ xs ys).getD i 0 = aop .sub .f32 (cn .f32 (xs.getD i 0)) (cn .f32 (ys.getD i 0)) := tells_at _ h
theorem spr_at {s : List Nat} {n i : Nat} (h : i < n) : (sprZ s n).getD i 0 = cn .f32 (s.getD (i % s.length) 0) := tells_at _ h
/-- What a round that ends finite has. -/
theorem round_fins {zs s : List Nat} {sd : Nat} (hs : 1 ≤ s.length) (hn : s.length ≤ zs.length) (h : fins (nxZ zs s sd) = true) :
    fins (calmZ zs s) = true ∧ fins (trZ zs s sd) = true ∧ fins (lvZ zs s sd) = true ∧ fins s = true := by
  unfold nxZ at h
  have h1 := sea_fins hs h
  unfold meansZ at h1
  have h2 := fins_tells_iff.1 h1
  have hlv : fins (lvZ zs s sd) = true := col_all hs fun p hp => fins_of_mean (h2 p hp)
  have htr : fins (trZ zs s sd) = true := fins_iff.2 fun i hi => (fins_off hlv i (by rw [trZ_len] at hi; exact hi)).2
  have hca : fins (calmZ zs s) = true := fins_iff.2 fun i hi => by
    have hi2 : i < zs.length := by unfold calmZ at hi; rwa [offZ_len] at hi
    have := fins_at htr (k := i) (by rw [trZ_len]; exact hi2)
    unfold trZ movZ at this
    rw [tells_at _ hi2] at this
    exact win_has hi (fins_of_mean this)
  refine ⟨hca, htr, hlv, fins_iff.2 fun q hq => ?_⟩
  have := (fins_off hca q (by omega)).2
  rw [spr_at (by omega), Nat.mod_eq_of_lt hq] at this
  rwa [fin_congr (cn_cn .f32 _)] at this
theorem apS_fins {zs : List Nat} {m sd : Nat} (hm : 1 ≤ m) (hn : m ≤ zs.length) : ∀ {R t : Nat}, t ≤ R → fins (apS zs m sd R) = true → fins (apS zs m sd t) = true
  | 0, t, ht, h => by rw [show t = 0 by omega]; exact h
  | R + 1, t, ht, h => by
    by_cases e : t = R + 1
    · rw [e]; exact h
    · exact apS_fins hm hn (by omega) (round_fins (by rw [apS_len]; exact hm) (by rw [apS_len]; exact hn) h).2.2.2
/-- What a round gives. -/
def onceB (zs s : List Nat) (a : Int) : Bool := decide (0 ≤ a ∧ a ≤ 96) && fins (nxZ zs s a.toNat)
def apB0 (zs : List Nat) (m sd r : Int) : Bool := serB zs && (decide (1 ≤ m ∧ m ≤ zs.length) && (decide (0 ≤ sd ∧ sd ≤ 96) && decide (1 ≤ r ∧ r ≤ 8)))
def apTr (zs : List Nat) (m sd r : Int) : List Nat := trZ zs (apS zs m.toNat sd.toNat (r.toNat - 1)) sd.toNat
def apSe (zs : List Nat) (m sd r : Int) : List Nat := sprZ (apS zs m.toNat sd.toNat r.toNat) zs.length
def apRe (zs : List Nat) (m sd r : Int) : List Nat := offZ (offZ zs (apTr zs m sd r)) (apSe zs m sd r)
def apB (zs : List Nat) (m sd r : Int) : Bool := apB0 zs m sd r && (fins (apTr zs m sd r) && (fins (apSe zs m sd r) && fins (apRe zs m sd r)))
def apL (zs : List Nat) (m sd r : Int) (xs : List Nat) : List Nat := if apB zs m sd r then xs else []
theorem apB_t {zs : List Nat} {m sd r : Int} (h : apB0 zs m sd r = true) : serB zs = true ∧ 1 ≤ m ∧ m ≤ zs.length ∧ 0 ≤ sd ∧ sd ≤ 96 ∧ 1 ≤ r ∧ r ≤ 8 ∧ zs.length ≤ 96 := by
  unfold apB0 at h
  simp only [Bool.and_eq_true, decide_eq_true_eq] at h
  exact ⟨h.1, h.2.1.1, h.2.1.2, h.2.2.1.1, h.2.2.1.2, h.2.2.2.1, h.2.2.2.2, (serB_t h.1).2.1⟩
theorem ap_no {zs : List Nat} {m sd r : Int} (h : apB0 zs m sd r = false) : apB zs m sd r = false ∧ ∀ xs, apL zs m sd r xs = [] := by
  have e : apB zs m sd r = false := by unfold apB; rw [h]; rfl
  exact ⟨e, fun xs => by unfold apL; rw [e]; rfl⟩
/-- A season that is not finite leaves nothing. -/
theorem ap_bad {zs : List Nat} {m sd r : Int} {t : Nat} (h0 : apB0 zs m sd r = true) (ht : t < r.toNat) (h : fins (nxZ zs (apS zs m.toNat sd.toNat t) sd.toNat) = false) : apB zs m sd r = false := by
  obtain ⟨h1, h2, h3, h4, h5, h6, h7, h8⟩ := apB_t h0
  refine Bool.eq_false_iff.2 fun hb => ?_
  unfold apB at hb
  simp only [Bool.and_eq_true] at hb
  have hse : fins (apS zs m.toNat sd.toNat r.toNat) = true := fins_iff.2 fun q hq => by
    rw [apS_len] at hq
    have := fins_at hb.2.2.1 (k := q) (by unfold apSe; rw [sprZ_len]; omega)
    unfold apSe at this
    rw [spr_at (by omega), apS_len, Nat.mod_eq_of_lt hq] at this
    rwa [fin_congr (cn_cn .f32 _)] at this
  have := apS_fins (sd := sd.toNat) (by omega) (by omega) (show t + 1 ≤ r.toNat from ht) hse
  rw [show apS zs m.toNat sd.toNat (t + 1) = nxZ zs (apS zs m.toNat sd.toNat t) sd.toNat from rfl, h] at this
  cases this
end Go.Proofs.Ytcfejkkkleiejaa
