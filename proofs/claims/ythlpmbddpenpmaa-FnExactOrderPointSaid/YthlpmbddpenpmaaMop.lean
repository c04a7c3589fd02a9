/-
  OrderPoint, in both packages.
-/
import Derived.Test.YthlpmbddpenpmaaMos
namespace Go.Proofs.Ythlpmbddpenpmaa
open Ieee Go.RowKit
set_option linter.unusedVariables false

def opB (zs : List Nat) (q : Int) (f : Nat) : Bool := serB zs && (decide (1 ≤ q ∧ q ≤ 32) && fin .f32 f)
def opW (zs : List Nat) (q : Int) (f : Nat) : Nat := aop .add .f32 (aop .mul .f32 (cn .f32 (i2f q)) (mean32 zs)) (aop .mul .f32 (aop .mul .f32 (cn .f32 f) (spread32 zs)) (root32 (i2f q)))
def opOk (zs : List Nat) (q : Int) (f : Nat) : Bool := opB zs q f && fin .f32 (opW zs q f)
def opV (zs : List Nat) (q : Int) (f : Nat) : Nat := if opOk zs q f then opW zs q f else 0
theorem op_bad {zs : List Nat} {q : Int} {f : Nat} (hb : opOk zs q f = false) : opOk zs q f = false ∧ opV zs q f = 0 := ⟨hb, by unfold opV; rw [hb]; rfl⟩
theorem op_out {zs : List Nat} {q : Int} {f : Nat} (hb : opB zs q f = false) : opOk zs q f = false ∧ opV zs q f = 0 := op_bad (by unfold opOk; rw [hb]; rfl)
theorem op_spread {zs : List Nat} {q : Int} {f : Nat} (h : opOk zs q f = true) : spreadB zs = true := by
  unfold opOk at h
  have h1 := (Bool.and_eq_true _ _ ▸ h).1
  have h2 := (Bool.and_eq_true _ _ ▸ h).2
  unfold opB at h1
  have hs := (Bool.and_eq_true _ _ ▸ h1).1
  unfold spreadB
  rw [hs, (fin_mul (fin_mul (fin_add h2).2).1).2]; rfl
theorem op_end {zs : List Nat} {q : Int} {f r x : Nat} (hr : cn .f32 r = if fin .f32 x then cn .f32 x else 0) (hb : opB zs q f = true) (hx : cn .f32 x = opW zs q f) : cn .f32 r = opV zs q f ∧ fin .f32 x = opOk zs q f := by
  have hf : fin .f32 x = fin .f32 (opW zs q f) := fin_congr (hx.trans (cn_aop ..).symm)
  have hB : opOk zs q f = fin .f32 (opW zs q f) := by unfold opOk; rw [hb]; rfl
  rw [hr, hf, hx, hB]
  unfold opV
  rw [hB]
  exact ⟨rfl, rfl⟩
theorem opB_t {zs : List Nat} {q : Int} {f : Nat} (h : opB zs q f = true) : serB zs = true ∧ (1 ≤ q ∧ q ≤ 32) ∧ fin .f32 f = true := by
  unfold opB at h
  have h1 := (Bool.and_eq_true _ _ ▸ h).1
  have h2 := (Bool.and_eq_true _ _ ▸ h).2
  exact ⟨h1, of_decide_eq_true (Bool.and_eq_true _ _ ▸ h2).1, (Bool.and_eq_true _ _ ▸ h2).2⟩
set_option maxHeartbeats 1000000 in
theorem imOp_any (a : Option Addr) (len cap : Nat) (zs : List Nat) (q : Int) (f : Nat) (w : World) (h : FSl w a len zs) (hm : len ≤ 1048576) :
    Calls Try.prog 35 #[.slice a len cap, .int .i64 q, .float .f32 f] w (RetFBk (opV zs q f) (opOk zs q f) w.heap.size w) := by
  have H := Lib.hid h
  clear h
  cases hs : spreadB zs
  · have HS := Lib.hid hs
    have HB := Lib.hid (op_bad (q := q) (f := f) (Bool.eq_false_iff.2 fun hb => by rw [op_spread hb] at hs; cases hs))
    clear hs
    go_enter Try.func35, Try.ntmps35
    go_wp2_with fail
    refine (implSpread_any _ _ _ _ _ H.out hm).mono ?_
    rw [HS.out]
    rintro e w' ⟨r, m, hr, rfl, rfl⟩
    clear hr
    go_wp2_with fail
    go_ret2
    exact ⟨0, by rw [HB.out.2]; exact cn_zero, by rw [HB.out.1]; rfl, below_drewN (Below.refl _ _) _⟩
  · have HS := Lib.hid hs
    have hme := spread_mean hs
    have HM := Lib.hid hme
    have HSv := Lib.hid (show spreadR zs = spread32 zs by unfold spreadR; rw [hs]; rfl)
    have HMv := Lib.hid (show meanR zs = mean32 zs by unfold meanR; rw [hme]; rfl)
    have hser : serB zs = true := (Bool.and_eq_true _ _ ▸ (show (serB zs && fin .f32 (spread32 zs)) = true from hs)).1
    have hob : opB zs q f = (decide (1 ≤ q ∧ q ≤ 32) && fin .f32 f) := by unfold opB; rw [hser]; rfl
    clear hs hme hser
    cases hd : decide (1 ≤ q ∧ q ≤ 32)
    · rw [hd] at hob
      have HB := Lib.hid (op_out hob)
      have HD := Lib.hid hd
      clear hob hd
      go_enter Try.func35, Try.ntmps35
      go_wp2_with fail
      refine (implSpread_any _ _ _ _ _ H.out hm).mono ?_
      rw [HS.out]
      rintro e w' ⟨r, m, hr, rfl, rfl⟩
      clear hr
      go_wp2_with fail
      refine (reach_any _ _).mono ?_
      rw [HD.out]
      rintro e w' ⟨rfl, rfl⟩
      go_wp2_with fail
      go_ret2
      exact ⟨0, by rw [HB.out.2]; exact cn_zero, by rw [HB.out.1]; rfl, below_drewN (Below.refl _ _) _⟩
    · cases hf : fin .f32 f
      · rw [hd, hf] at hob
        have HB := Lib.hid (op_out hob)
        have HD := Lib.hid hd
        have HF := Lib.hid hf
        clear hob hd hf
        go_enter Try.func35, Try.ntmps35
        go_wp2_with fail
        refine (implSpread_any _ _ _ _ _ H.out hm).mono ?_
        rw [HS.out]
        rintro e w' ⟨r, m, hr, rfl, rfl⟩
        clear hr
        go_wp2_with fail
        refine (reach_any _ _).mono ?_
        rw [HD.out]
        rintro e w' ⟨rfl, rfl⟩
        go_wp2_with fail
        refine (isFinite_any _ _).mono ?_
        rw [HF.out]
        rintro e w' ⟨m2, rfl, rfl⟩
        go_wp2_with fail
        go_ret2
        exact ⟨0, by rw [HB.out.2]; exact cn_zero, by rw [HB.out.1]; rfl, below_drewN (Below.refl _ _) _⟩
      · rw [hd, hf] at hob
        have HB := Lib.hid (show opB zs q f = true from hob)
        have HD := Lib.hid hd
        have HF := Lib.hid hf
        clear hob hd hf
        go_enter Try.func35, Try.ntmps35
        go_wp2_with fail
        refine (implSpread_any _ _ _ _ _ H.out hm).mono ?_
        rw [HS.out, HSv.out]
        rintro e w' ⟨sp, m, hsp, rfl, rfl⟩
        have HSp := Lib.hid hsp
        clear hsp
        go_wp2_with fail
        refine (reach_any _ _).mono ?_
        rw [HD.out]
        rintro e w' ⟨rfl, rfl⟩
        go_wp2_with fail
        refine (isFinite_any _ _).mono ?_
        rw [HF.out]
        rintro e w' ⟨m2, rfl, rfl⟩
        go_wp2_with fail
        refine (implMean_any _ _ _ _ _ (FSl.drewN H.out _) hm).mono ?_
        rw [HM.out, HMv.out]
        rintro e w' ⟨me, m3, hme, rfl, rfl⟩
        have HMe := Lib.hid hme
        clear hme
        go_wp2_with fail
        refine (implRoot_any _ _).mono ?_
        rintro e w' ⟨x, n2, hx, rfl, rfl⟩
        have HX := Lib.hid hx
        clear hx
        go_wp2_with fail
        refine (implOnly_any _ _).mono ?_
        rintro e w' ⟨r', n', hr', rfl, rfl⟩
        have W := Lib.hid (op_end (zs := zs) (q := q) (f := f) hr' HB.out (by rw [cn_fopR, cn_fopR, cn_fopR, cn_fopR, HMe.out, HSp.out, HX.out]; rfl))
        clear hr'
        go_wp2
        go_ret2
        exact ⟨r', W.out.1, by rw [← W.out.2]; rfl, below_drewN (Below.refl _ _) _⟩
set_option maxHeartbeats 1000000 in
theorem spOp_any (a : Option Addr) (len cap : Nat) (zs : List Nat) (q : Int) (f : Nat) (w : World) (h : FSl w a len zs) (hm : len ≤ 1048576) :
    Calls Try.prog 34 #[.slice a len cap, .int .i64 q, .float .f32 f] w (RetFBk (opV zs q f) (opOk zs q f) w.heap.size w) := by
  have H := Lib.hid h
  clear h
  cases hser : serB zs
  · have HS := Lib.hid hser
    have HB := Lib.hid (op_out (zs := zs) (q := q) (f := f) (by unfold opB; rw [hser]; rfl))
    clear hser
    go_enter Try.func34, Try.ntmps34
    go_wp2_with fail
    refine (specSeries_any _ _ _ _ _ H.out hm).mono ?_
    rw [HS.out]
    rintro e w' ⟨m, rfl, rfl⟩
    go_wp2_with fail
    go_ret2
    exact ⟨0, by rw [HB.out.2]; exact cn_zero, by rw [HB.out.1]; rfl, below_drewN (Below.refl _ _) _⟩
  · have HS := Lib.hid hser
    by_cases hq : 1 ≤ q ∧ q ≤ 32
    · have HQ := Lib.hid hq
      cases hf : fin .f32 f
      · have HF := Lib.hid hf
        have HB := Lib.hid (op_out (zs := zs) (q := q) (f := f) (by unfold opB; rw [hser, hf, Bool.and_false, Bool.and_false]))
        clear hser hq hf
        go_enter Try.func34, Try.ntmps34
        go_wp2_with fail
        refine (specSeries_any _ _ _ _ _ H.out hm).mono ?_
        rw [HS.out]
        rintro e w' ⟨m, rfl, rfl⟩
        go_wp2_with fail
        refine (in_yes _ _ _ _ HQ.out.1 HQ.out.2).mono ?_
        rintro e w' ⟨rfl, rfl⟩
        go_wp2_with fail
        refine (l01Finite_any _ _).mono ?_
        rw [HF.out]
        rintro e w' ⟨m2, rfl, rfl⟩
        go_wp2_with fail
        go_ret2
        exact ⟨0, by rw [HB.out.2]; exact cn_zero, by rw [HB.out.1]; rfl, below_drewN (Below.refl _ _) _⟩
      · have HF := Lib.hid hf
        have HB := Lib.hid (show opB zs q f = true by unfold opB; rw [hser, hf, decide_eq_true hq]; rfl)
        clear hser hq hf
        go_enter Try.func34, Try.ntmps34
        go_wp2_with fail
        refine (specSeries_any _ _ _ _ _ H.out hm).mono ?_
        rw [HS.out]
        rintro e w' ⟨m, rfl, rfl⟩
        go_wp2_with fail
        refine (in_yes _ _ _ _ HQ.out.1 HQ.out.2).mono ?_
        rintro e w' ⟨rfl, rfl⟩
        go_wp2_with fail
        refine (l01Finite_any _ _).mono ?_
        rw [HF.out]
        rintro e w' ⟨m2, rfl, rfl⟩
        go_wp2_with fail
        refine (l02Spread_any _ _ _ _ _ (FSl.drewN H.out _) hm).mono ?_
        rintro e w1 ⟨sp, hsp, rfl, hb⟩
        have HSp := Lib.hid hsp
        have HB1 := Lib.hid ((below_drewN (Below.refl w.heap.size w) (m + m2)).trans hb)
        have H1 := Lib.hid (FSl.below (FSl.drewN H.out (m + m2)) hb)
        clear hsp hb
        go_wp2_with fail
        refine (specRoot_any _ _).mono ?_
        rintro e w' ⟨x, n2, hx, rfl, rfl⟩
        have HX := Lib.hid hx
        clear hx
        go_wp2_with fail
        refine (l02Mean_any _ _ _ _ _ (FSl.drewN H1.out _) hm).mono ?_
        rintro e w' ⟨me, m3, hme, rfl, rfl⟩
        have HMe := Lib.hid hme
        clear hme
        go_wp2_with fail
        refine (specNumber_any _ _).mono ?_
        rintro e w' ⟨r', n', hr', rfl, rfl⟩
        have W := Lib.hid (op_end (zs := zs) (q := q) (f := f) hr' HB.out (by rw [cn_fopR, cn_fopR, cn_fopR, cn_fopR, HMe.out, HSp.out, HX.out]; rfl))
        clear hr'
        go_wp2
        go_ret2
        exact ⟨r', W.out.1, by rw [← W.out.2]; rfl, below_drewN HB1.out _⟩
    · have HQ := Lib.hid (show q < 1 ∨ 32 < q by omega)
      have HB := Lib.hid (op_out (zs := zs) (q := q) (f := f) (by unfold opB; rw [hser, decide_eq_false hq]; rfl))
      clear hser hq
      go_enter Try.func34, Try.ntmps34
      go_wp2_with fail
      refine (specSeries_any _ _ _ _ _ H.out hm).mono ?_
      rw [HS.out]
      rintro e w' ⟨m, rfl, rfl⟩
      go_wp2_with fail
      refine (in_no _ _ _ _ HQ.out).mono ?_
      rintro e w' ⟨rfl, rfl⟩
      go_wp2_with fail
      go_ret2
      exact ⟨0, by rw [HB.out.2]; exact cn_zero, by rw [HB.out.1]; rfl, below_drewN (Below.refl _ _) _⟩
end Go.Proofs.Ythlpmbddpenpmaa
