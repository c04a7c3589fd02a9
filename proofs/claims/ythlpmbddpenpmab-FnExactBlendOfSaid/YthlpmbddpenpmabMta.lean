/-
  'meanTold' of the program, over any closure: the mean of what places tell.
-/
import Derived.Test.YthlpmbddpenpmabCBox
import Derived.Test.YthlpmbddpenpmabCMea
import Derived.Test.YthlpmbddpenpmabCPos
namespace Go.Proofs.Ythlpmbddpenpmab
open Ieee Go.RowKit
set_option linter.unusedVariables false

theorem serB_congr {rs xs : List Nat} (h : cnl rs = cnl xs) : serB rs = serB xs := by
  have hl : rs.length = xs.length := by rw [← cnl_len, h, cnl_len]
  unfold serB; rw [hl, fins_congr h]
theorem mean32_congr {rs xs : List Nat} (h : cnl rs = cnl xs) : mean32 rs = mean32 xs := by
  have hl : rs.length = xs.length := by rw [← cnl_len, h, cnl_len]
  unfold mean32; rw [hl, sum32_congr h]
theorem meanB_congr {rs xs : List Nat} (h : cnl rs = cnl xs) : meanB rs = meanB xs := by unfold meanB; rw [serB_congr h, mean32_congr h]
theorem meanR_congr {rs xs : List Nat} (h : cnl rs = cnl xs) : meanR rs = meanR xs := by unfold meanR; rw [meanB_congr h, mean32_congr h]
theorem sum32_all {zs : List Nat} (h : fin .f32 (sum32 zs) = true) : ∀ k, k ≤ zs.length → fin .f32 (sum32 (zs.take k)) = true ∧ ∀ j, j < zs.length → k ≤ j → fin .f32 (zs.getD j 0) = true := by
  intro k hk
  obtain ⟨n, hn⟩ : ∃ n, n = zs.length - k := ⟨_, rfl⟩
  induction n generalizing k with
  | zero =>
    have : k = zs.length := by omega
    subst this
    exact ⟨by rw [List.take_of_length_le (Nat.le_refl _)]; exact h, fun j hj h2 => by omega⟩
  | succ n ih =>
    obtain ⟨h1, h2⟩ := ih (k + 1) (by omega) (by omega)
    rw [sum32_snoc (by omega)] at h1
    have h3 := fin_add h1
    refine ⟨h3.1, fun j hj hkj => ?_⟩
    rcases Nat.lt_or_ge k j with h4 | h4
    · exact h2 j hj (by omega)
    · obtain rfl : j = k := by omega
      exact (fin_congr (cn_cn ..)).symm.trans h3.2
theorem fins_of_sum {zs : List Nat} (h : fin .f32 (sum32 zs) = true) : fins zs = true := by
  unfold fins
  rw [List.all_eq_true]
  intro x hx
  obtain ⟨j, hj, rfl⟩ := List.getElem_of_mem hx
  have := (sum32_all h 0 (Nat.zero_le _)).2 j hj (Nat.zero_le _)
  simpa [List.getD, hj] using this
theorem fins_of_mean {zs : List Nat} (h : fin .f32 (mean32 zs) = true) : fins zs = true := fins_of_sum (fin_quo h)
/-- The mean of what is told, and whether it is finite. -/
def mtB (xs : List Nat) : Bool := fin .f32 (mean32 xs)
def mtV (xs : List Nat) : Nat := if mtB xs then mean32 xs else 0
theorem mt_is {xs : List Nat} (h1 : 1 ≤ xs.length) (h2 : xs.length ≤ 96) : meanB (lstR xs) = mtB xs ∧ meanR (lstR xs) = mtV xs := by
  have key : meanB (lstR xs) = mtB xs := by
    cases hf : fins xs
    · have e : lstR xs = [] := by unfold lstR; rw [hf]; rfl
      rw [e, show meanB [] = false by simp [meanB, serB]]
      exact (Bool.eq_false_iff.2 fun h => by rw [fins_of_mean h] at hf; cases hf).symm
    · have e : lstR xs = xs := by unfold lstR; rw [hf]; rfl
      rw [e]
      unfold meanB mtB serB
      rw [hf, decide_eq_true ⟨h1, h2⟩, Bool.and_true, Bool.true_and]
  refine ⟨key, ?_⟩
  unfold meanR mtV
  rw [key]
  cases hm : mtB xs
  · rw [if_neg (by simp), if_neg (by simp)]
  · have hf := fins_of_mean (zs := xs) hm
    have e : lstR xs = xs := by unfold lstR; rw [hf]; rfl
    rw [e]
/-- A number and a bool, behind what keeps all below a bound. -/
def RetFBk (v : Nat) (b : Bool) (B0 : Nat) (w : World) (e : Ending) (w' : World) : Prop := ∃ r, cn .f32 r = v ∧ e = .returned (.tuple #[.float .f32 r, .bool b]) ∧ Below B0 w w'
set_option maxRecDepth 100000 in
theorem meanTold_any (K : FuncId) (caps : Array Value) (tell : Nat → Nat) (I : Nat → World → Prop) (B0 n : Nat) (w : World) (hen : ∀ args w, (callFunc K args).run Try.prog w = .ok (.enter K args) w) (hn : n ≤ 1048576) (hB : B0 ≤ w.heap.size)
    (h0 : I 0 w) (hI : ∀ k wr wr', I k wr → Below w.heap.size wr wr' → I k wr') (hcn : ∀ k, cn .f32 (tell k) = tell k)
    (hcl : ∀ k wr, k < n → w.heap.size < wr.heap.size → I k wr → Calls Try.prog K (#[.int .i64 k] ++ caps) wr (Tells tell I B0 w.heap.size k wr)) :
    Calls Try.prog 128 #[.int .i64 n, .func (.func K) #[] caps] w (RetFBk (meanR (lstR (tells tell n))) (meanB (lstR (tells tell n))) B0 w) := by
  have HI := Lib.hid hI
  have HC := Lib.hid hcl
  have H0 := Lib.hid h0
  have HX := Lib.hid (show cnl (lstR (tells tell n)) = lstR (tells tell n) by
    have : cnl (tells tell n) = tells tell n := by
      unfold cnl tells; rw [List.map_map]; congr 1; funext k; exact hcn k
    unfold lstR; split
    · exact this
    · rfl)
  have HL := Lib.hid (show (lstR (tells tell n)).length ≤ 1048576 by unfold lstR; split <;> simp [tells]; exact hn)
  clear hI hcl h0 hcn
  go_enter Try.func128, Try.ntmps128
  go_wp2_with fail
  refine (places_any K caps tell I B0 n _ hen hn hB H0.out HI.out HC.out).mono ?_
  rintro e w1 ⟨v, rs, rfl, ho, hx, hb⟩
  obtain ⟨A, cp, rfl, hs, _⟩ := ho.sl
  have hl : rs.length ≤ 1048576 := by have := congrArg List.length hx; rw [cnl_len] at this; have := HL.out; omega
  have HS := Lib.hid hs
  have HBl := Lib.hid hb
  have HE := Lib.hid (show cnl rs = cnl (lstR (tells tell n)) by rw [hx, HX.out])
  clear ho hx hb hs
  go_wp2_with fail
  refine (implMean_any _ _ _ _ _ HS.out hl).mono ?_
  rintro e w' ⟨r, m, hr, rfl, rfl⟩
  have HR := Lib.hid (show cn .f32 r = meanR (lstR (tells tell n)) by rw [hr, meanR_congr HE.out])
  have HM := Lib.hid (meanB_congr HE.out)
  rw [HM.out]
  clear hr
  go_wp2
  go_ret2
  exact ⟨r, HR.out, rfl, below_drewN HBl.out _⟩
end Go.Proofs.Ythlpmbddpenpmab
