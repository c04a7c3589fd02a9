/-
  DoubleLine, in both packages.
-/
import Derived.Test.YtallegmkkbmelabSlv
import Derived.Test.YtallegmkkbmelabSli
namespace Go.Proofs.Ytallegmkkbmelab
open Ieee Go.RowKit
set_option linter.unusedVariables false

theorem getD_cnl (rs : List Nat) (k : Nat) : cn .f32 ((cnl rs).getD k 0) = cn .f32 (rs.getD k 0) := by
  by_cases h : k < rs.length
  · rw [cnl_at h, cn_cn]
  · have h1 : (cnl rs)[k]? = none := List.getElem?_eq_none (by rw [cnl_len]; omega)
    have h2 : rs[k]? = none := List.getElem?_eq_none (by omega)
    simp [List.getD, h1, h2]
theorem lvT_cnl (rs : List Nat) (s : Nat) : ∀ k, lvT (cnl rs) s k = lvT rs s k
  | 0 => getD_cnl rs 0
  | k + 1 => by show towW (lvT (cnl rs) s k) _ _ = towW (lvT rs s k) _ _; rw [lvT_cnl rs s k, getD_cnl]
theorem lvL_cnl (rs : List Nat) (s : Nat) : lvL (cnl rs) s = lvL rs s := by
  unfold lvL; rw [cnl_len]; exact tells_congr fun k _ => lvT_cnl rs s k
theorem serB_cnl (rs : List Nat) : serB (cnl rs) = serB rs := by unfold serB; rw [cnl_len, fins_cnl]
theorem lvB_cnl (rs : List Nat) (s : Nat) : lvB (cnl rs) s = lvB rs s := by unfold lvB; rw [serB_cnl, lvL_cnl]
theorem lvR_cnl (rs : List Nat) (s : Nat) : lvR (cnl rs) s = lvR rs s := by unfold lvR; rw [serB_cnl, lvL_cnl]
theorem lvB_t {zs : List Nat} {s : Nat} (h : lvB zs s = true) : serB zs = true ∧ lvR zs s = lvL zs s := by
  unfold lvB at h
  have h1 := (Bool.and_eq_true _ _ ▸ h).1
  have h2 := (Bool.and_eq_true _ _ ▸ h).2
  refine ⟨(Bool.and_eq_true _ _ ▸ h1).1, ?_⟩
  unfold lvR lstR; rw [h1, h2]; rfl
theorem isFin_is {x v : Nat} {b : Bool} (w : World) (hx : cn .f32 x = v) (hv : fin .f32 v = b) : Calls Try.prog 54 #[.float .f32 x] w (RetV (.bool b) w) := by
  have := isFinite_any x w
  rwa [show fin .f32 x = b from (fin_congr (by rw [← hx, cn_cn])).trans hv] at this
theorem l01Fin_is {x v : Nat} {b : Bool} (w : World) (hx : cn .f32 x = v) (hv : fin .f32 v = b) : Calls Try.prog 52 #[.float .f32 x] w (RetV (.bool b) w) := by
  have := l01Finite_any x w
  rwa [show fin .f32 x = b from (fin_congr (by rw [← hx, cn_cn])).trans hv] at this
/-- The share is 1. -/
def oneB (s : Nat) : Bool := (FloatKind.format .f32).order s 1065353216 == some .eq
def dlA (zs : List Nat) (s : Nat) : Nat := lvT zs s (zs.length - 1)
def dlC (zs : List Nat) (s : Nat) : Nat := lvT (lvL zs s) s (zs.length - 1)
theorem dlA_at {zs : List Nat} {s j : Nat} (h : zs.length = j + 1) : (lvL zs s).getD j 0 = dlA zs s := by
  unfold dlA; rw [h]
  show (tells (lvT zs s) zs.length).getD j 0 = _
  rw [tells_at _ (by omega)]; rfl
theorem dlC_at {zs : List Nat} {s j : Nat} (h : zs.length = j + 1) : (lvL (lvL zs s) s).getD j 0 = dlC zs s := by
  unfold dlC; rw [h]
  show (tells (lvT (lvL zs s) s) (lvL zs s).length).getD j 0 = _
  rw [tells_at _ (by rw [lvL_len]; omega)]; rfl
def dlW (a c : Nat) : Nat := aop .sub .f32 (aop .mul .f32 1073741824 a) c
def dlZ (s a c : Nat) : Nat := aop .mul .f32 (aop .quo .f32 s (aop .sub .f32 1065353216 s)) (aop .sub .f32 a c)
theorem dlW_step (a c : Nat) (w1 w2 : World) : cn .f32 (fopR .sub .f32 (fopR .mul .f32 1073741824 a w1) c w2) = dlW (cn .f32 a) (cn .f32 c) := by
  rw [cn_fopR, cn_fopR]; rfl
theorem dlZ_step (s a c : Nat) (w1 w2 w3 w4 : World) : cn .f32 (fopR .mul .f32 (fopR .quo .f32 s (fopR .sub .f32 1065353216 s w1) w2) (fopR .sub .f32 a c w3) w4) = dlZ (cn .f32 s) (cn .f32 a) (cn .f32 c) := by
  rw [cn_fopR, cn_fopR, cn_fopR, cn_fopR]; rfl
def dl0 (zs : List Nat) (s : Nat) : Bool := lvB zs s && (lvB (lvR zs s) s && !oneB s)
def dlB (zs : List Nat) (s : Nat) : Bool := dl0 zs s && (fin .f32 (dlW (dlA zs s) (dlC zs s)) && fin .f32 (dlZ (cn .f32 s) (dlA zs s) (dlC zs s)))
def dlV (zs : List Nat) (s : Nat) : Nat := if dlB zs s then dlW (dlA zs s) (dlC zs s) else 0
def dlS (zs : List Nat) (s : Nat) : Nat := if dlB zs s then dlZ (cn .f32 s) (dlA zs s) (dlC zs s) else 0
theorem dl_bad {zs : List Nat} {s : Nat} (h : dlB zs s = false) : dlV zs s = 0 ∧ dlS zs s = 0 := by
  unfold dlV dlS; rw [h]; exact ⟨rfl, rfl⟩
theorem dl_good {zs : List Nat} {s : Nat} (h : dlB zs s = true) : dlV zs s = dlW (dlA zs s) (dlC zs s) ∧ dlS zs s = dlZ (cn .f32 s) (dlA zs s) (dlC zs s) := by
  unfold dlV dlS; rw [h]; exact ⟨rfl, rfl⟩
theorem dl_no {zs : List Nat} {s : Nat} (h : dl0 zs s = false) : dlB zs s = false := by unfold dlB; rw [h]; rfl
/-- Two numbers and a bool. -/
def Ret2B (v v' : Nat) (b : Bool) (w : World) (e : Ending) (w' : World) : Prop := ∃ r s, cn .f32 r = v ∧ cn .f32 s = v' ∧ e = .returned (.tuple #[.float .f32 r, .float .f32 s, .bool b]) ∧ Below w.heap.size w w'
theorem fail_2b {v v' : Nat} {b : Bool} (hb : b = false) (hv : v = 0) (hv' : v' = 0) {w w' : World} (h : Below w.heap.size w w') : Ret2B v v' b w (.returned (.tuple #[.float .f32 0, .float .f32 0, .bool false])) w' :=
  ⟨0, 0, by rw [hv]; exact cn_zero, by rw [hv']; exact cn_zero, by rw [hb], h⟩
/-- What a list of levels is. -/
theorem RetOB.lev {T : TypeId} {xs : List Nat} {ok : Bool} {w : World} {e : Ending} {w' : World} (h : RetOB T xs ok w e w') :
    ∃ A cap rs, e = .returned (.tuple #[.slice A rs.length cap, .bool ok]) ∧ FSl w' A rs.length rs ∧ cnl rs = xs ∧ Below w.heap.size w w' := by
  obtain ⟨v, rs, rfl, ho, hx, hb⟩ := h
  obtain ⟨A, cap, rfl, hs, _⟩ := ho.sl
  exact ⟨A, cap, rs, rfl, hs, hx, hb⟩

set_option maxHeartbeats 1500000 in
set_option maxRecDepth 100000 in
theorem specDl_any (a : Option Addr) (len cap : Nat) (zs : List Nat) (s : Nat) (w : World) (h : FSl w a len zs) (hm : len ≤ 1048576) :
    Calls Try.prog 23 #[.slice a len cap, .float .f32 s] w (Ret2B (dlV zs s) (dlS zs s) (dlB zs s) w) := by
  have H := Lib.hid h
  have HL := Lib.hid h.1
  clear h
  cases hq : lvB zs s
  · have HQ := Lib.hid hq
    have hB : dlB zs s = false := dl_no (by unfold dl0; rw [hq]; rfl)
    have HB := Lib.hid hB
    have HV := Lib.hid (dl_bad hB)
    clear hB
    clear hq
    go_enter Try.func23, Try.ntmps23
    go_wp2_with fail
    refine (specLv_any _ _ _ _ _ _ H.out hm).mono ?_
    intro e w1 hR
    obtain ⟨A1, c1, r1, rfl, hs1, hx1, hb1⟩ := hR.lev
    clear hR
    have B1 := Lib.hid hb1
    have S1 := Lib.hid hs1
    have X1 := Lib.hid hx1
    clear hs1 hx1 hb1
    rw [HQ.out]
    have hm1 : r1.length ≤ 1048576 := by rw [← cnl_len, X1.out]; exact lvR_len ..
    go_wp2_with fail
    refine (specLv_any _ _ _ _ _ _ S1.out hm1).mono ?_
    intro e w2 hR
    obtain ⟨A2, c2, r2, rfl, hs2, hx2, hb2⟩ := hR.lev
    clear hR
    have B2 := Lib.hid (B1.out.trans (hb2.mono B1.out.size))
    have S2 := Lib.hid hs2
    have S3 := Lib.hid (FSl.below S1.out hb2)
    have X2 := Lib.hid (show cnl r2 = lvR (lvR zs s) s by rw [hx2, ← X1.out, lvR_cnl])
    clear hs2 hx2 hb2
    go_wp2_with fail
    go_ret3
    exact fail_2b HB.out HV.out.1 HV.out.2 (B2.out)
  · have HQ := Lib.hid hq
    obtain ⟨hser, hLR⟩ := lvB_t hq
    have HLR := Lib.hid hLR
    obtain ⟨hs1, hs2, -⟩ := serB_t hser
    rw [HL.out] at hs1 hs2
    cases ht : lvB (lvR zs s) s
    · have HT := Lib.hid ht
      have hB : dlB zs s = false := dl_no (by unfold dl0; rw [hq, ht]; rfl)
      have HB := Lib.hid hB
      have HV := Lib.hid (dl_bad hB)
      clear hB
      clear hq ht
      go_enter Try.func23, Try.ntmps23
      go_wp2_with fail
      refine (specLv_any _ _ _ _ _ _ H.out hm).mono ?_
      intro e w1 hR
      obtain ⟨A1, c1, r1, rfl, hs1, hx1, hb1⟩ := hR.lev
      clear hR
      have B1 := Lib.hid hb1
      have S1 := Lib.hid hs1
      have X1 := Lib.hid hx1
      clear hs1 hx1 hb1
      rw [HQ.out]
      have hm1 : r1.length ≤ 1048576 := by rw [← cnl_len, X1.out]; exact lvR_len ..
      go_wp2_with fail
      refine (specLv_any _ _ _ _ _ _ S1.out hm1).mono ?_
      intro e w2 hR
      obtain ⟨A2, c2, r2, rfl, hs2, hx2, hb2⟩ := hR.lev
      clear hR
      have B2 := Lib.hid (B1.out.trans (hb2.mono B1.out.size))
      have S2 := Lib.hid hs2
      have S3 := Lib.hid (FSl.below S1.out hb2)
      have X2 := Lib.hid (show cnl r2 = lvR (lvR zs s) s by rw [hx2, ← X1.out, lvR_cnl])
      clear hs2 hx2 hb2
      rw [show lvB r1 s = lvB (lvR zs s) s by rw [← X1.out, lvB_cnl], HT.out]
      go_wp2_with fail
      go_ret3
      exact fail_2b HB.out HV.out.1 HV.out.2 (B2.out)
    · have HT := Lib.hid ht
      cases ho : (FloatKind.format .f32).order s 1065353216 == some .eq
      · skip
        have h0 : dl0 zs s = true := by unfold dl0 oneB; rw [hq, ht, ho]; rfl
        have HLL := Lib.hid (show lvR (lvR zs s) s = lvL (lvL zs s) s by rw [(lvB_t ht).2, hLR])
        clear hq ht
        obtain ⟨j, hj⟩ : ∃ j : Nat, len = j + 1 := ⟨len - 1, by omega⟩
        have HJ := Lib.hid hj
        clear hj
        cases hl : fin .f32 (dlW (dlA zs s) (dlC zs s))
        · have HLv := Lib.hid hl
          have hB : dlB zs s = false := by unfold dlB; rw [h0, hl]; rfl
          have HB := Lib.hid hB
          have HV := Lib.hid (dl_bad hB)
          clear hB
          clear hl h0
          go_enter Try.func23, Try.ntmps23
          go_wp2_with fail
          refine (specLv_any _ _ _ _ _ _ H.out hm).mono ?_
          intro e w1 hR
          obtain ⟨A1, c1, r1, rfl, hs1, hx1, hb1⟩ := hR.lev
          clear hR
          have B1 := Lib.hid hb1
          have S1 := Lib.hid hs1
          have X1 := Lib.hid hx1
          clear hs1 hx1 hb1
          rw [HQ.out]
          have hm1 : r1.length ≤ 1048576 := by rw [← cnl_len, X1.out]; exact lvR_len ..
          go_wp2_with fail
          refine (specLv_any _ _ _ _ _ _ S1.out hm1).mono ?_
          intro e w2 hR
          obtain ⟨A2, c2, r2, rfl, hs2, hx2, hb2⟩ := hR.lev
          clear hR
          have B2 := Lib.hid (B1.out.trans (hb2.mono B1.out.size))
          have S2 := Lib.hid hs2
          have S3 := Lib.hid (FSl.below S1.out hb2)
          have X2 := Lib.hid (show cnl r2 = lvR (lvR zs s) s by rw [hx2, ← X1.out, lvR_cnl])
          clear hs2 hx2 hb2
          rw [show lvB r1 s = lvB (lvR zs s) s by rw [← X1.out, lvB_cnl], HT.out]
          have hj := HJ.out
          have hl1 : r1.length = len := by rw [← cnl_len, X1.out, HLR.out, lvL_len, HL.out]
          have hl2 : r2.length = len := by rw [← cnl_len, X2.out, HLL.out, lvL_len, lvL_len, HL.out]
          rw [hl1] at S3
          rw [hl2] at S2
          skip
          obtain ⟨b1, o1, rfl, -, hc1⟩ := S3.out.at (by omega)
          obtain ⟨b2, o2, rfl, -, hc2⟩ := S2.out.at (by omega)
          have k1 := hc1 j (by omega)
          have k2 := hc2 j (by omega)
          have hA0 : cn .f32 (r1.getD j 0) = dlA zs s := by rw [← cnl_at (by omega), X1.out, HLR.out]; exact dlA_at (by rw [HL.out, hj])
          have hC0 : cn .f32 (r2.getD j 0) = dlC zs s := by rw [← cnl_at (by omega), X2.out, HLL.out]; exact dlC_at (by rw [HL.out, hj])
          generalize r1.getD j 0 = x1 at *
          generalize r2.getD j 0 = x2 at *
          have HA := Lib.hid hA0
          have HC := Lib.hid hC0
          have hw1 : IntKind.i64.wrap ((r1.length : Int) - 1) = (j : Int) := by rw [IntKind.wrap_i64]; omega
          have hw2 : IntKind.i64.wrap ((r2.length : Int) - 1) = (j : Int) := by rw [IntKind.wrap_i64]; omega
          have hw3 : IntKind.i64.wrap ((len : Int) - 1) = (j : Int) := by rw [IntKind.wrap_i64]; omega
          have q0 : (0 : Int) ≤ (j : Int) := by omega
          have q1 : (j : Int) < (r1.length : Int) := by omega
          have q2 : (j : Int) < (r2.length : Int) := by omega
          have q3 : j < r1.length := by omega
          have q4 : j < r2.length := by omega
          clear hc1 hc2 hA0 hC0 hl1 hl2 hj hs1 hs2
          go_wp2_with fail
          refine (l01Fin_is _ (by rw [dlW_step, HA.out, HC.out]) HLv.out).mono ?_
          rintro e w' ⟨m1, rfl, rfl⟩
          go_wp2_with fail
          go_ret3
          exact fail_2b HB.out HV.out.1 HV.out.2 (below_drewN B2.out _)
        · have HLv := Lib.hid hl
          cases hz : fin .f32 (dlZ (cn .f32 s) (dlA zs s) (dlC zs s))
          · have HZv := Lib.hid hz
            have hB : dlB zs s = false := by unfold dlB; rw [h0, hl, hz]; rfl
            have HB := Lib.hid hB
            have HV := Lib.hid (dl_bad hB)
            clear hB
            clear hl hz h0
            go_enter Try.func23, Try.ntmps23
            go_wp2_with fail
            refine (specLv_any _ _ _ _ _ _ H.out hm).mono ?_
            intro e w1 hR
            obtain ⟨A1, c1, r1, rfl, hs1, hx1, hb1⟩ := hR.lev
            clear hR
            have B1 := Lib.hid hb1
            have S1 := Lib.hid hs1
            have X1 := Lib.hid hx1
            clear hs1 hx1 hb1
            rw [HQ.out]
            have hm1 : r1.length ≤ 1048576 := by rw [← cnl_len, X1.out]; exact lvR_len ..
            go_wp2_with fail
            refine (specLv_any _ _ _ _ _ _ S1.out hm1).mono ?_
            intro e w2 hR
            obtain ⟨A2, c2, r2, rfl, hs2, hx2, hb2⟩ := hR.lev
            clear hR
            have B2 := Lib.hid (B1.out.trans (hb2.mono B1.out.size))
            have S2 := Lib.hid hs2
            have S3 := Lib.hid (FSl.below S1.out hb2)
            have X2 := Lib.hid (show cnl r2 = lvR (lvR zs s) s by rw [hx2, ← X1.out, lvR_cnl])
            clear hs2 hx2 hb2
            rw [show lvB r1 s = lvB (lvR zs s) s by rw [← X1.out, lvB_cnl], HT.out]
            have hj := HJ.out
            have hl1 : r1.length = len := by rw [← cnl_len, X1.out, HLR.out, lvL_len, HL.out]
            have hl2 : r2.length = len := by rw [← cnl_len, X2.out, HLL.out, lvL_len, lvL_len, HL.out]
            rw [hl1] at S3
            rw [hl2] at S2
            skip
            obtain ⟨b1, o1, rfl, -, hc1⟩ := S3.out.at (by omega)
            obtain ⟨b2, o2, rfl, -, hc2⟩ := S2.out.at (by omega)
            have k1 := hc1 j (by omega)
            have k2 := hc2 j (by omega)
            have hA0 : cn .f32 (r1.getD j 0) = dlA zs s := by rw [← cnl_at (by omega), X1.out, HLR.out]; exact dlA_at (by rw [HL.out, hj])
            have hC0 : cn .f32 (r2.getD j 0) = dlC zs s := by rw [← cnl_at (by omega), X2.out, HLL.out]; exact dlC_at (by rw [HL.out, hj])
            generalize r1.getD j 0 = x1 at *
            generalize r2.getD j 0 = x2 at *
            have HA := Lib.hid hA0
            have HC := Lib.hid hC0
            have hw1 : IntKind.i64.wrap ((r1.length : Int) - 1) = (j : Int) := by rw [IntKind.wrap_i64]; omega
            have hw2 : IntKind.i64.wrap ((r2.length : Int) - 1) = (j : Int) := by rw [IntKind.wrap_i64]; omega
            have hw3 : IntKind.i64.wrap ((len : Int) - 1) = (j : Int) := by rw [IntKind.wrap_i64]; omega
            have q0 : (0 : Int) ≤ (j : Int) := by omega
            have q1 : (j : Int) < (r1.length : Int) := by omega
            have q2 : (j : Int) < (r2.length : Int) := by omega
            have q3 : j < r1.length := by omega
            have q4 : j < r2.length := by omega
            clear hc1 hc2 hA0 hC0 hl1 hl2 hj hs1 hs2
            go_wp2_with fail
            refine (l01Fin_is _ (by rw [dlW_step, HA.out, HC.out]) HLv.out).mono ?_
            rintro e w' ⟨m1, rfl, rfl⟩
            go_wp2_with fail
            refine (l01Fin_is _ (by rw [dlZ_step, HA.out, HC.out]) HZv.out).mono ?_
            rintro e w' ⟨m2, rfl, rfl⟩
            go_wp2_with fail
            go_ret3
            exact fail_2b HB.out HV.out.1 HV.out.2 (below_drewN B2.out _)
          · have HZv := Lib.hid hz
            have hB : dlB zs s = true := by unfold dlB; rw [h0, hl, hz]; rfl
            have HB := Lib.hid hB
            have HV := Lib.hid (dl_good hB)
            clear hl hz h0 hB
            go_enter Try.func23, Try.ntmps23
            go_wp2_with fail
            refine (specLv_any _ _ _ _ _ _ H.out hm).mono ?_
            intro e w1 hR
            obtain ⟨A1, c1, r1, rfl, hs1, hx1, hb1⟩ := hR.lev
            clear hR
            have B1 := Lib.hid hb1
            have S1 := Lib.hid hs1
            have X1 := Lib.hid hx1
            clear hs1 hx1 hb1
            rw [HQ.out]
            have hm1 : r1.length ≤ 1048576 := by rw [← cnl_len, X1.out]; exact lvR_len ..
            go_wp2_with fail
            refine (specLv_any _ _ _ _ _ _ S1.out hm1).mono ?_
            intro e w2 hR
            obtain ⟨A2, c2, r2, rfl, hs2, hx2, hb2⟩ := hR.lev
            clear hR
            have B2 := Lib.hid (B1.out.trans (hb2.mono B1.out.size))
            have S2 := Lib.hid hs2
            have S3 := Lib.hid (FSl.below S1.out hb2)
            have X2 := Lib.hid (show cnl r2 = lvR (lvR zs s) s by rw [hx2, ← X1.out, lvR_cnl])
            clear hs2 hx2 hb2
            rw [show lvB r1 s = lvB (lvR zs s) s by rw [← X1.out, lvB_cnl], HT.out]
            have hj := HJ.out
            have hl1 : r1.length = len := by rw [← cnl_len, X1.out, HLR.out, lvL_len, HL.out]
            have hl2 : r2.length = len := by rw [← cnl_len, X2.out, HLL.out, lvL_len, lvL_len, HL.out]
            rw [hl1] at S3
            rw [hl2] at S2
            skip
            obtain ⟨b1, o1, rfl, -, hc1⟩ := S3.out.at (by omega)
            obtain ⟨b2, o2, rfl, -, hc2⟩ := S2.out.at (by omega)
            have k1 := hc1 j (by omega)
            have k2 := hc2 j (by omega)
            have hA0 : cn .f32 (r1.getD j 0) = dlA zs s := by rw [← cnl_at (by omega), X1.out, HLR.out]; exact dlA_at (by rw [HL.out, hj])
            have hC0 : cn .f32 (r2.getD j 0) = dlC zs s := by rw [← cnl_at (by omega), X2.out, HLL.out]; exact dlC_at (by rw [HL.out, hj])
            generalize r1.getD j 0 = x1 at *
            generalize r2.getD j 0 = x2 at *
            have HA := Lib.hid hA0
            have HC := Lib.hid hC0
            have hw1 : IntKind.i64.wrap ((r1.length : Int) - 1) = (j : Int) := by rw [IntKind.wrap_i64]; omega
            have hw2 : IntKind.i64.wrap ((r2.length : Int) - 1) = (j : Int) := by rw [IntKind.wrap_i64]; omega
            have hw3 : IntKind.i64.wrap ((len : Int) - 1) = (j : Int) := by rw [IntKind.wrap_i64]; omega
            have q0 : (0 : Int) ≤ (j : Int) := by omega
            have q1 : (j : Int) < (r1.length : Int) := by omega
            have q2 : (j : Int) < (r2.length : Int) := by omega
            have q3 : j < r1.length := by omega
            have q4 : j < r2.length := by omega
            clear hc1 hc2 hA0 hC0 hl1 hl2 hj hs1 hs2
            go_wp2_with fail
            refine (l01Fin_is _ (by rw [dlW_step, HA.out, HC.out]) HLv.out).mono ?_
            rintro e w' ⟨m1, rfl, rfl⟩
            go_wp2_with fail
            refine (l01Fin_is _ (by rw [dlZ_step, HA.out, HC.out]) HZv.out).mono ?_
            rintro e w' ⟨m2, rfl, rfl⟩
            go_wp2_with fail
            go_ret3
            refine ⟨_, _, ?_, ?_, (by rw [HB.out]; rfl), below_drewN B2.out _⟩
            · rw [HV.out.1, dlW_step, HA.out, HC.out]
            · rw [HV.out.2, dlZ_step, HA.out, HC.out]
      · skip
        have hB : dlB zs s = false := dl_no (by unfold dl0 oneB; rw [hq, ht, ho]; rfl)
        have HB := Lib.hid hB
        have HV := Lib.hid (dl_bad hB)
        clear hB
        clear hq ht
        go_enter Try.func23, Try.ntmps23
        go_wp2_with fail
        refine (specLv_any _ _ _ _ _ _ H.out hm).mono ?_
        intro e w1 hR
        obtain ⟨A1, c1, r1, rfl, hs1, hx1, hb1⟩ := hR.lev
        clear hR
        have B1 := Lib.hid hb1
        have S1 := Lib.hid hs1
        have X1 := Lib.hid hx1
        clear hs1 hx1 hb1
        rw [HQ.out]
        have hm1 : r1.length ≤ 1048576 := by rw [← cnl_len, X1.out]; exact lvR_len ..
        go_wp2_with fail
        refine (specLv_any _ _ _ _ _ _ S1.out hm1).mono ?_
        intro e w2 hR
        obtain ⟨A2, c2, r2, rfl, hs2, hx2, hb2⟩ := hR.lev
        clear hR
        have B2 := Lib.hid (B1.out.trans (hb2.mono B1.out.size))
        have S2 := Lib.hid hs2
        have S3 := Lib.hid (FSl.below S1.out hb2)
        have X2 := Lib.hid (show cnl r2 = lvR (lvR zs s) s by rw [hx2, ← X1.out, lvR_cnl])
        clear hs2 hx2 hb2
        rw [show lvB r1 s = lvB (lvR zs s) s by rw [← X1.out, lvB_cnl], HT.out]
        go_wp2_with fail
        go_ret3
        exact fail_2b HB.out HV.out.1 HV.out.2 (B2.out)

set_option maxHeartbeats 1500000 in
set_option maxRecDepth 100000 in
theorem implDl_any (a : Option Addr) (len cap : Nat) (zs : List Nat) (s : Nat) (w : World) (h : FSl w a len zs) (hm : len ≤ 1048576) :
    Calls Try.prog 24 #[.slice a len cap, .float .f32 s] w (Ret2B (dlV zs s) (dlS zs s) (dlB zs s) w) := by
  have H := Lib.hid h
  have HL := Lib.hid h.1
  clear h
  cases hq : lvB zs s
  · have HQ := Lib.hid hq
    have hB : dlB zs s = false := dl_no (by unfold dl0; rw [hq]; rfl)
    have HB := Lib.hid hB
    have HV := Lib.hid (dl_bad hB)
    clear hB
    clear hq
    go_enter Try.func24, Try.ntmps24
    go_wp2_with fail
    refine (implLv_any _ _ _ _ _ _ H.out hm).mono ?_
    intro e w1 hR
    obtain ⟨A1, c1, r1, rfl, hs1, hx1, hb1⟩ := hR.lev
    clear hR
    have B1 := Lib.hid hb1
    have S1 := Lib.hid hs1
    have X1 := Lib.hid hx1
    clear hs1 hx1 hb1
    rw [HQ.out]
    go_wp2_with fail
    go_ret3
    exact fail_2b HB.out HV.out.1 HV.out.2 (B1.out)
  · have HQ := Lib.hid hq
    obtain ⟨hser, hLR⟩ := lvB_t hq
    have HLR := Lib.hid hLR
    obtain ⟨hs1, hs2, -⟩ := serB_t hser
    rw [HL.out] at hs1 hs2
    cases ho : (FloatKind.format .f32).order s 1065353216 == some .eq
    · cases ht : lvB (lvR zs s) s
      · have HT := Lib.hid ht
        have hB : dlB zs s = false := dl_no (by unfold dl0; rw [hq, ht]; rfl)
        have HB := Lib.hid hB
        have HV := Lib.hid (dl_bad hB)
        clear hB
        clear hq ht
        go_enter Try.func24, Try.ntmps24
        go_wp2_with fail
        refine (implLv_any _ _ _ _ _ _ H.out hm).mono ?_
        intro e w1 hR
        obtain ⟨A1, c1, r1, rfl, hs1, hx1, hb1⟩ := hR.lev
        clear hR
        have B1 := Lib.hid hb1
        have S1 := Lib.hid hs1
        have X1 := Lib.hid hx1
        clear hs1 hx1 hb1
        rw [HQ.out]
        have hm1 : r1.length ≤ 1048576 := by rw [← cnl_len, X1.out]; exact lvR_len ..
        go_wp2_with fail
        refine (implLv_any _ _ _ _ _ _ S1.out hm1).mono ?_
        intro e w2 hR
        obtain ⟨A2, c2, r2, rfl, hs2, hx2, hb2⟩ := hR.lev
        clear hR
        have B2 := Lib.hid (B1.out.trans (hb2.mono B1.out.size))
        have S2 := Lib.hid hs2
        have S3 := Lib.hid (FSl.below S1.out hb2)
        have X2 := Lib.hid (show cnl r2 = lvR (lvR zs s) s by rw [hx2, ← X1.out, lvR_cnl])
        clear hs2 hx2 hb2
        rw [show lvB r1 s = lvB (lvR zs s) s by rw [← X1.out, lvB_cnl], HT.out]
        go_wp2_with fail
        go_ret3
        exact fail_2b HB.out HV.out.1 HV.out.2 (B2.out)
      · have HT := Lib.hid ht
        have h0 : dl0 zs s = true := by unfold dl0 oneB; rw [hq, ht, ho]; rfl
        have HLL := Lib.hid (show lvR (lvR zs s) s = lvL (lvL zs s) s by rw [(lvB_t ht).2, hLR])
        clear hq ht
        obtain ⟨j, hj⟩ : ∃ j : Nat, len = j + 1 := ⟨len - 1, by omega⟩
        have HJ := Lib.hid hj
        clear hj
        cases hl : fin .f32 (dlW (dlA zs s) (dlC zs s))
        · have HLv := Lib.hid hl
          have hB : dlB zs s = false := by unfold dlB; rw [h0, hl]; rfl
          have HB := Lib.hid hB
          have HV := Lib.hid (dl_bad hB)
          clear hB
          clear hl h0
          go_enter Try.func24, Try.ntmps24
          go_wp2_with fail
          refine (implLv_any _ _ _ _ _ _ H.out hm).mono ?_
          intro e w1 hR
          obtain ⟨A1, c1, r1, rfl, hs1, hx1, hb1⟩ := hR.lev
          clear hR
          have B1 := Lib.hid hb1
          have S1 := Lib.hid hs1
          have X1 := Lib.hid hx1
          clear hs1 hx1 hb1
          rw [HQ.out]
          have hm1 : r1.length ≤ 1048576 := by rw [← cnl_len, X1.out]; exact lvR_len ..
          go_wp2_with fail
          refine (implLv_any _ _ _ _ _ _ S1.out hm1).mono ?_
          intro e w2 hR
          obtain ⟨A2, c2, r2, rfl, hs2, hx2, hb2⟩ := hR.lev
          clear hR
          have B2 := Lib.hid (B1.out.trans (hb2.mono B1.out.size))
          have S2 := Lib.hid hs2
          have S3 := Lib.hid (FSl.below S1.out hb2)
          have X2 := Lib.hid (show cnl r2 = lvR (lvR zs s) s by rw [hx2, ← X1.out, lvR_cnl])
          clear hs2 hx2 hb2
          rw [show lvB r1 s = lvB (lvR zs s) s by rw [← X1.out, lvB_cnl], HT.out]
          have hj := HJ.out
          have hl1 : r1.length = len := by rw [← cnl_len, X1.out, HLR.out, lvL_len, HL.out]
          have hl2 : r2.length = len := by rw [← cnl_len, X2.out, HLL.out, lvL_len, lvL_len, HL.out]
          rw [hl1] at S3
          rw [hl2] at S2
          skip
          obtain ⟨b1, o1, rfl, -, hc1⟩ := S3.out.at (by omega)
          obtain ⟨b2, o2, rfl, -, hc2⟩ := S2.out.at (by omega)
          have k1 := hc1 j (by omega)
          have k2 := hc2 j (by omega)
          have hA0 : cn .f32 (r1.getD j 0) = dlA zs s := by rw [← cnl_at (by omega), X1.out, HLR.out]; exact dlA_at (by rw [HL.out, hj])
          have hC0 : cn .f32 (r2.getD j 0) = dlC zs s := by rw [← cnl_at (by omega), X2.out, HLL.out]; exact dlC_at (by rw [HL.out, hj])
          generalize r1.getD j 0 = x1 at *
          generalize r2.getD j 0 = x2 at *
          have HA := Lib.hid hA0
          have HC := Lib.hid hC0
          have hw1 : IntKind.i64.wrap ((r1.length : Int) - 1) = (j : Int) := by rw [IntKind.wrap_i64]; omega
          have hw2 : IntKind.i64.wrap ((r2.length : Int) - 1) = (j : Int) := by rw [IntKind.wrap_i64]; omega
          have hw3 : IntKind.i64.wrap ((len : Int) - 1) = (j : Int) := by rw [IntKind.wrap_i64]; omega
          have q0 : (0 : Int) ≤ (j : Int) := by omega
          have q1 : (j : Int) < (r1.length : Int) := by omega
          have q2 : (j : Int) < (r2.length : Int) := by omega
          have q3 : j < r1.length := by omega
          have q4 : j < r2.length := by omega
          clear hc1 hc2 hA0 hC0 hl1 hl2 hj hs1 hs2
          go_wp2_with fail
          go_region
          go_wp2_with fail
          refine (isFin_is _ (by rw [dlW_step, HA.out, HC.out]) HLv.out).mono ?_
          rintro e w' ⟨m1, rfl, rfl⟩
          go_wp2_with fail
          go_ret3
          exact fail_2b HB.out HV.out.1 HV.out.2 (below_drewN B2.out _)
        · have HLv := Lib.hid hl
          cases hz : fin .f32 (dlZ (cn .f32 s) (dlA zs s) (dlC zs s))
          · have HZv := Lib.hid hz
            have hB : dlB zs s = false := by unfold dlB; rw [h0, hl, hz]; rfl
            have HB := Lib.hid hB
            have HV := Lib.hid (dl_bad hB)
            clear hB
            clear hl hz h0
            go_enter Try.func24, Try.ntmps24
            go_wp2_with fail
            refine (implLv_any _ _ _ _ _ _ H.out hm).mono ?_
            intro e w1 hR
            obtain ⟨A1, c1, r1, rfl, hs1, hx1, hb1⟩ := hR.lev
            clear hR
            have B1 := Lib.hid hb1
            have S1 := Lib.hid hs1
            have X1 := Lib.hid hx1
            clear hs1 hx1 hb1
            rw [HQ.out]
            have hm1 : r1.length ≤ 1048576 := by rw [← cnl_len, X1.out]; exact lvR_len ..
            go_wp2_with fail
            refine (implLv_any _ _ _ _ _ _ S1.out hm1).mono ?_
            intro e w2 hR
            obtain ⟨A2, c2, r2, rfl, hs2, hx2, hb2⟩ := hR.lev
            clear hR
            have B2 := Lib.hid (B1.out.trans (hb2.mono B1.out.size))
            have S2 := Lib.hid hs2
            have S3 := Lib.hid (FSl.below S1.out hb2)
            have X2 := Lib.hid (show cnl r2 = lvR (lvR zs s) s by rw [hx2, ← X1.out, lvR_cnl])
            clear hs2 hx2 hb2
            rw [show lvB r1 s = lvB (lvR zs s) s by rw [← X1.out, lvB_cnl], HT.out]
            have hj := HJ.out
            have hl1 : r1.length = len := by rw [← cnl_len, X1.out, HLR.out, lvL_len, HL.out]
            have hl2 : r2.length = len := by rw [← cnl_len, X2.out, HLL.out, lvL_len, lvL_len, HL.out]
            rw [hl1] at S3
            rw [hl2] at S2
            skip
            obtain ⟨b1, o1, rfl, -, hc1⟩ := S3.out.at (by omega)
            obtain ⟨b2, o2, rfl, -, hc2⟩ := S2.out.at (by omega)
            have k1 := hc1 j (by omega)
            have k2 := hc2 j (by omega)
            have hA0 : cn .f32 (r1.getD j 0) = dlA zs s := by rw [← cnl_at (by omega), X1.out, HLR.out]; exact dlA_at (by rw [HL.out, hj])
            have hC0 : cn .f32 (r2.getD j 0) = dlC zs s := by rw [← cnl_at (by omega), X2.out, HLL.out]; exact dlC_at (by rw [HL.out, hj])
            generalize r1.getD j 0 = x1 at *
            generalize r2.getD j 0 = x2 at *
            have HA := Lib.hid hA0
            have HC := Lib.hid hC0
            have hw1 : IntKind.i64.wrap ((r1.length : Int) - 1) = (j : Int) := by rw [IntKind.wrap_i64]; omega
            have hw2 : IntKind.i64.wrap ((r2.length : Int) - 1) = (j : Int) := by rw [IntKind.wrap_i64]; omega
            have hw3 : IntKind.i64.wrap ((len : Int) - 1) = (j : Int) := by rw [IntKind.wrap_i64]; omega
            have q0 : (0 : Int) ≤ (j : Int) := by omega
            have q1 : (j : Int) < (r1.length : Int) := by omega
            have q2 : (j : Int) < (r2.length : Int) := by omega
            have q3 : j < r1.length := by omega
            have q4 : j < r2.length := by omega
            clear hc1 hc2 hA0 hC0 hl1 hl2 hj hs1 hs2
            go_wp2_with fail
            go_region
            go_wp2_with fail
            refine (isFin_is _ (by rw [dlW_step, HA.out, HC.out]) HLv.out).mono ?_
            rintro e w' ⟨m1, rfl, rfl⟩
            go_wp2_with fail
            refine (isFin_is _ (by rw [dlZ_step, HA.out, HC.out]) HZv.out).mono ?_
            rintro e w' ⟨m2, rfl, rfl⟩
            go_wp2_with fail
            go_ret3
            exact fail_2b HB.out HV.out.1 HV.out.2 (below_drewN B2.out _)
          · have HZv := Lib.hid hz
            have hB : dlB zs s = true := by unfold dlB; rw [h0, hl, hz]; rfl
            have HB := Lib.hid hB
            have HV := Lib.hid (dl_good hB)
            clear hl hz h0 hB
            go_enter Try.func24, Try.ntmps24
            go_wp2_with fail
            refine (implLv_any _ _ _ _ _ _ H.out hm).mono ?_
            intro e w1 hR
            obtain ⟨A1, c1, r1, rfl, hs1, hx1, hb1⟩ := hR.lev
            clear hR
            have B1 := Lib.hid hb1
            have S1 := Lib.hid hs1
            have X1 := Lib.hid hx1
            clear hs1 hx1 hb1
            rw [HQ.out]
            have hm1 : r1.length ≤ 1048576 := by rw [← cnl_len, X1.out]; exact lvR_len ..
            go_wp2_with fail
            refine (implLv_any _ _ _ _ _ _ S1.out hm1).mono ?_
            intro e w2 hR
            obtain ⟨A2, c2, r2, rfl, hs2, hx2, hb2⟩ := hR.lev
            clear hR
            have B2 := Lib.hid (B1.out.trans (hb2.mono B1.out.size))
            have S2 := Lib.hid hs2
            have S3 := Lib.hid (FSl.below S1.out hb2)
            have X2 := Lib.hid (show cnl r2 = lvR (lvR zs s) s by rw [hx2, ← X1.out, lvR_cnl])
            clear hs2 hx2 hb2
            rw [show lvB r1 s = lvB (lvR zs s) s by rw [← X1.out, lvB_cnl], HT.out]
            have hj := HJ.out
            have hl1 : r1.length = len := by rw [← cnl_len, X1.out, HLR.out, lvL_len, HL.out]
            have hl2 : r2.length = len := by rw [← cnl_len, X2.out, HLL.out, lvL_len, lvL_len, HL.out]
            rw [hl1] at S3
            rw [hl2] at S2
            skip
            obtain ⟨b1, o1, rfl, -, hc1⟩ := S3.out.at (by omega)
            obtain ⟨b2, o2, rfl, -, hc2⟩ := S2.out.at (by omega)
            have k1 := hc1 j (by omega)
            have k2 := hc2 j (by omega)
            have hA0 : cn .f32 (r1.getD j 0) = dlA zs s := by rw [← cnl_at (by omega), X1.out, HLR.out]; exact dlA_at (by rw [HL.out, hj])
            have hC0 : cn .f32 (r2.getD j 0) = dlC zs s := by rw [← cnl_at (by omega), X2.out, HLL.out]; exact dlC_at (by rw [HL.out, hj])
            generalize r1.getD j 0 = x1 at *
            generalize r2.getD j 0 = x2 at *
            have HA := Lib.hid hA0
            have HC := Lib.hid hC0
            have hw1 : IntKind.i64.wrap ((r1.length : Int) - 1) = (j : Int) := by rw [IntKind.wrap_i64]; omega
            have hw2 : IntKind.i64.wrap ((r2.length : Int) - 1) = (j : Int) := by rw [IntKind.wrap_i64]; omega
            have hw3 : IntKind.i64.wrap ((len : Int) - 1) = (j : Int) := by rw [IntKind.wrap_i64]; omega
            have q0 : (0 : Int) ≤ (j : Int) := by omega
            have q1 : (j : Int) < (r1.length : Int) := by omega
            have q2 : (j : Int) < (r2.length : Int) := by omega
            have q3 : j < r1.length := by omega
            have q4 : j < r2.length := by omega
            clear hc1 hc2 hA0 hC0 hl1 hl2 hj hs1 hs2
            go_wp2_with fail
            go_region
            go_wp2_with fail
            refine (isFin_is _ (by rw [dlW_step, HA.out, HC.out]) HLv.out).mono ?_
            rintro e w' ⟨m1, rfl, rfl⟩
            go_wp2_with fail
            refine (isFin_is _ (by rw [dlZ_step, HA.out, HC.out]) HZv.out).mono ?_
            rintro e w' ⟨m2, rfl, rfl⟩
            go_wp2_with fail
            go_ret3
            refine ⟨_, _, ?_, ?_, (by rw [HB.out]; rfl), below_drewN B2.out _⟩
            · rw [HV.out.1, dlW_step, HA.out, HC.out]
            · rw [HV.out.2, dlZ_step, HA.out, HC.out]
    · skip
      have hB : dlB zs s = false := dl_no (by unfold dl0 oneB; rw [hq, ho]; rw [Bool.and_comm (lvB (lvR zs s) s)]; rfl)
      have HB := Lib.hid hB
      have HV := Lib.hid (dl_bad hB)
      clear hB
      clear hq
      go_enter Try.func24, Try.ntmps24
      go_wp2_with fail
      refine (implLv_any _ _ _ _ _ _ H.out hm).mono ?_
      intro e w1 hR
      obtain ⟨A1, c1, r1, rfl, hs1, hx1, hb1⟩ := hR.lev
      clear hR
      have B1 := Lib.hid hb1
      have S1 := Lib.hid hs1
      have X1 := Lib.hid hx1
      clear hs1 hx1 hb1
      rw [HQ.out]
      go_wp2_with fail
      go_ret3
      exact fail_2b HB.out HV.out.1 HV.out.2 (B1.out)
end Go.Proofs.Ytallegmkkbmelab
