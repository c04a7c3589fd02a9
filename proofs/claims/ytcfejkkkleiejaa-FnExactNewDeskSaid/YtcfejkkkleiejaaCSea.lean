/-
  SeasonOf, in both packages.
-/
import Derived.Test.YtcfejkkkleiejaaCBox
import Derived.Test.YtcfejkkkleiejaaCMea
import Derived.Test.YtcfejkkkleiejaaFnf
import Derived.Deep.QuietTactic
import Derived.BigQuiet
namespace Go.Proofs.Ytcfejkkkleiejaa
open Ieee Go.RowKit
set_option linter.unusedVariables false

theorem mean32_congr {rs rs' : List Nat} (h : cnl rs = cnl rs') : mean32 rs = mean32 rs' := by
  have hl : rs.length = rs'.length := by rw [← cnl_len, h, cnl_len]
  unfold mean32
  rw [sum32_congr h, hl]
theorem mean32_cnl (rs : List Nat) : mean32 (cnl rs) = mean32 rs := mean32_congr (cnl_cnl rs)
theorem serB_congr {rs rs' : List Nat} (h : cnl rs = cnl rs') : serB rs = serB rs' := by
  have hl : rs.length = rs'.length := by rw [← cnl_len, h, cnl_len]
  unfold serB
  rw [fins_congr h, hl]
/-- The first q numbers at the places p, p + n, and so on. -/
def colQ (zs : List Nat) (n p q : Nat) : List Nat := tells (fun j => cn .f32 (zs.getD (p + j * n) 0)) q
def colZ (zs : List Nat) (n p : Nat) : List Nat := colQ zs n p ((zs.length - p + n - 1) / n)
theorem colQ_cnl (zs : List Nat) (n p q : Nat) : cnl (colQ zs n p q) = colQ zs n p q := by
  unfold colQ tells cnl
  rw [List.map_map]
  congr 1
  funext j
  exact cn_cn .f32 _
theorem col_end {zs : List Nat} {n p q i : Nat} (hp : p < zs.length) (hi : i = p + q * n) (h1 : zs.length ≤ i) (h2 : i < zs.length + n) : colZ zs n p = colQ zs n p q := by
  unfold colZ
  congr 1
  subst hi
  refine Nat.div_eq_of_lt_le (by omega) ?_
  rw [Nat.succ_mul]
  omega
theorem col_len {zs : List Nat} {n p : Nat} (hn : 1 ≤ n) (hp : p < zs.length) : 1 ≤ (colZ zs n p).length ∧ (colZ zs n p).length ≤ zs.length := by
  unfold colZ colQ
  rw [tells_len]
  constructor
  · exact Nat.div_pos (by omega) (by omega)
  · have h1 : (zs.length - p + n - 1) / n ≤ zs.length - p := by
      rw [Nat.div_le_iff_le_mul_add_pred (by omega)]
      have := Nat.le_mul_of_pos_left (zs.length - p) (show 0 < n by omega)
      omega
    omega
theorem col_ser {zs : List Nat} {n p : Nat} (h : serB zs = true) (hn : 1 ≤ n) (hp : p < zs.length) (hpn : p < n) : serB (colZ zs n p) = true := by
  obtain ⟨h1, h2, h3⟩ := serB_t h
  obtain ⟨a, b⟩ := col_len hn hp
  unfold serB
  rw [decide_eq_true ⟨a, by omega⟩, Bool.true_and]
  unfold colZ colQ
  refine List.all_eq_true.2 fun x hx => ?_
  unfold tells at hx
  obtain ⟨j, hj, rfl⟩ := List.mem_map.1 hx
  have hj : j < (zs.length - p + n - 1) / n := by simpa using hj
  have hjn : (j + 1) * n ≤ zs.length - p + n - 1 := Nat.le_trans (Nat.mul_le_mul_right n hj) (Nat.div_mul_le_self _ _)
  rw [Nat.succ_mul] at hjn
  rw [fin_congr (cn_cn .f32 _)]
  exact fins_at h3 (by omega)
def meansZ (zs : List Nat) (n k : Nat) : List Nat := tells (fun p => mean32 (colZ zs n p)) k
def seaM (zs : List Nat) (n : Nat) : Nat := mean32 (meansZ zs n n)
def seaZ (zs : List Nat) (n : Nat) : List Nat := less32 (meansZ zs n n) (seaM zs n)
def seaL (zs : List Nat) (a : Int) : List Nat := seaZ zs a.toNat
def seaB (zs : List Nat) (a : Int) : Bool := stepB zs a && fins (seaL zs a)
def seaR (zs : List Nat) (a : Int) : List Nat := if stepB zs a then lstR (seaL zs a) else []
theorem seaZ_len (zs : List Nat) (n : Nat) : (seaZ zs n).length = n := by unfold seaZ; rw [less_len]; unfold meansZ; rw [tells_len]
theorem seaR_len (zs : List Nat) (a : Int) : (seaR zs a).length ≤ 1048576 := by
  unfold seaR
  split
  · rename_i h
    obtain ⟨_, h1, h2, h3⟩ := stepB_t h
    unfold lstR
    split
    · unfold seaL; rw [seaZ_len]; omega
    · simp
  · simp
theorem sea_bad {zs : List Nat} {a : Int} (h : stepB zs a = false) : seaB zs a = false ∧ seaR zs a = [] := by unfold seaB seaR; rw [h]; exact ⟨rfl, rfl⟩
theorem sea_good {zs : List Nat} {a : Int} (h : stepB zs a = true) : seaB zs a = fins (seaL zs a) ∧ seaR zs a = lstR (seaL zs a) := by unfold seaB seaR; rw [h]; exact ⟨rfl, rfl⟩
theorem means_cnl (zs : List Nat) (n k : Nat) : cnl (meansZ zs n k) = meansZ zs n k := by
  unfold meansZ tells cnl
  rw [List.map_map]
  congr 1
  funext j
  exact cn_mean _
theorem fin_foldl {zs : List Nat} : ∀ {s : Nat}, fin .f32 (zs.foldl (fun s x => aop .add .f32 s (cn .f32 x)) s) = true → fin .f32 s = true ∧ fins zs = true := by
  induction zs with
  | nil => intro s h; exact ⟨h, rfl⟩
  | cons x xs ih =>
    intro s h
    obtain ⟨h1, h2⟩ := ih h
    obtain ⟨h3, h4⟩ := fin_add h1
    refine ⟨h3, ?_⟩
    unfold fins at *
    rw [List.all_cons, h2, fin_congr (cn_cn .f32 x).symm, h4]; rfl
theorem fins_of_mean {zs : List Nat} (h : fin .f32 (mean32 zs) = true) : fins zs = true := (fin_foldl (fin_quo h)).2
/-- Means that are not finite leave no season. -/
theorem sea_mean {zs : List Nat} {n : Nat} (hn : 1 ≤ n) (h : fins (seaZ zs n) = true) : fin .f32 (seaM zs n) = true := by
  have h0 := fins_at h (k := 0) (by rw [seaZ_len]; omega)
  have e : (seaZ zs n).getD 0 0 = aop .sub .f32 (cn .f32 ((meansZ zs n n).getD 0 0)) (seaM zs n) := by
    unfold seaZ less32
    have : 0 < (meansZ zs n n).length := by unfold meansZ; rw [tells_len]; omega
    simp [List.getD, this]
  rw [e] at h0
  exact (fin_sub h0).2
theorem sea_fins {zs : List Nat} {n : Nat} (hn : 1 ≤ n) (h : fins (seaZ zs n) = true) : fins (meansZ zs n n) = true := fins_of_mean (sea_mean hn h)

end Go.Proofs.Ytcfejkkkleiejaa
