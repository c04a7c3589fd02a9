/-
  ShockRun of the program.
-/
import Derived.Test.YtgddfhmddkhaeaaShkp
import Derived.Test.YtgddfhmddkhaeaaClz
import Derived.Deep.DeepCutAuto
namespace Go.Proofs.Ytgddfhmddkhaeaa
open Ieee Go.RowKit
set_option linter.unusedVariables false
theorem fsl3 (w : World) (x y z : Nat) (t : TypeId) : FSl (w.alloc (.cells #[.float .f32 x, .float .f32 y, .float .f32 z] t)) (some ⟨w.heap.size, 0, none⟩) 3 [x, y, z] := by
  refine ⟨rfl, .inr ⟨w.heap.size, 0, rfl, by simp, fun i hi => ?_⟩⟩
  rw [World.cell?_alloc_at _ _ _ _ rfl]
  match i, hi with
  | 0, _ => rfl
  | 1, _ => rfl
  | 2, _ => rfl
theorem shk_ge {x : Nat} (h : fin .f32 x = true) : ((FloatKind.format .f32).order x 0 == some Ordering.lt) = !geB x := by
  have hn := order_fin h (y := 0) (by decide +kernel)
  unfold geB
  cases ho : (FloatKind.format .f32).order x 0 with
  | none => exact absurd ho hn
  | some o => cases o <;> rfl
theorem shk_pos {x : Nat} (h : fin .f32 x = true) : ((FloatKind.format .f32).order x 0 == some Ordering.lt || (FloatKind.format .f32).order x 0 == some Ordering.eq) = !posB x := by
  have hn := order_fin h (y := 0) (by decide +kernel)
  unfold posB
  cases ho : (FloatKind.format .f32).order x 0 with
  | none => exact absurd ho hn
  | some o => cases o <;> rfl
theorem shk_num {x y : Nat} (hx : isN .f32 x = false) (hy : fin .f32 y = true) : (FloatKind.format .f32).order x y ≠ none := by
  obtain ⟨s', m', p', h2⟩ := fin_datum hy
  unfold Format.order
  rw [h2]
  have hr : ((FloatKind.format .f32).read x).isNaN = false := hx
  cases hd : (FloatKind.format .f32).read x with
  | number s m p => simp [Datum.order]
  | infinity s => simp [Datum.order]
  | nan s t => rw [hd] at hr; cases hr
theorem shk_addN {x y : Nat} (hx : fin .f32 x = true) (hy : fin .f32 y = true) : isN .f32 (aop .add .f32 x y) = false := by
  obtain ⟨s, m, p, h1⟩ := fin_datum hx
  obtain ⟨s', m', p', h2⟩ := fin_datum hy
  have hf : ∃ r, floatBits .add .f32 x y = some r := by
    show ∃ r, Option.map (FloatKind.format .f32).write (((FloatKind.format .f32).read x).sum ((FloatKind.format .f32).read y)) = some r
    rw [h1, h2]; exact ⟨_, rfl⟩
  obtain ⟨r, hf⟩ := hf
  unfold aop
  rw [hf]
  exact (floatBits_nan hf).2.2
/-- Two shares make less than 1. -/
def lt1B (s k : Nat) : Bool := (FloatKind.format .f32).order (aop .add .f32 s k) 1065353216 == some Ordering.lt
theorem lt1_lt (s k : Nat) (w : World) : ((FloatKind.format .f32).order (fopR .add .f32 s k w) 1065353216 == some Ordering.lt) = lt1B s k := by
  unfold lt1B
  rw [order_left .f32 (show cn .f32 (fopR .add .f32 s k w) = cn .f32 (aop .add .f32 s k) by rw [cn_fopR, cn_aop, aop_cn]) 1065353216]
theorem lt1_ge {s k : Nat} (hs : fin .f32 s = true) (hk : fin .f32 k = true) (w : World) : ((FloatKind.format .f32).order (fopR .add .f32 s k w) 1065353216 == some Ordering.gt || (FloatKind.format .f32).order (fopR .add .f32 s k w) 1065353216 == some Ordering.eq) = !lt1B s k := by
  unfold lt1B
  rw [order_left .f32 (show cn .f32 (fopR .add .f32 s k w) = cn .f32 (aop .add .f32 s k) by rw [cn_fopR, cn_aop, aop_cn]) 1065353216]
  have hn := shk_num (y := 1065353216) (shk_addN hs hk) (by decide +kernel)
  cases ho : (FloatKind.format .f32).order (aop .add .f32 s k) 1065353216 with
  | none => exact absurd ho hn
  | some o => cases o <;> rfl
def shkB (zs : List Nat) (b s k : Nat) : Bool := serB zs && (fins [b, s, k] && (posB b && (geB s && (geB k && lt1B s k))))
def shkOk (zs : List Nat) (b s k : Nat) : Bool := shkB zs b s k && (fins (tells (shH zs b s k) zs.length) && fin .f32 (shS zs b s k zs.length))
def shkL (zs : List Nat) (b s k : Nat) : List Nat := if shkOk zs b s k then tells (shH zs b s k) zs.length else []
def shkV (zs : List Nat) (b s k : Nat) : Nat := if shkOk zs b s k then shS zs b s k zs.length else 0
theorem shk_bad {zs : List Nat} {b s k : Nat} (h : shkB zs b s k = false) : shkOk zs b s k = false := by unfold shkOk; rw [h]; rfl
theorem shk_good {zs : List Nat} {b s k : Nat} (h : shkB zs b s k = true) : shkOk zs b s k = (fins (tells (shH zs b s k) zs.length) && fin .f32 (shS zs b s k zs.length)) := by unfold shkOk; rw [h]; rfl
theorem shkL_len (zs : List Nat) (b s k : Nat) : (shkL zs b s k).length ≤ 1048576 := by
  unfold shkL
  split
  · rename_i h
    unfold shkOk shkB at h
    have h1 := (serB_t (Bool.and_eq_true_iff.1 (Bool.and_eq_true_iff.1 h).1).1).2.1
    rw [tells_len]; omega
  · simp
theorem shk_fail {T : TypeId} {zs : List Nat} {b s k : Nat} {w w' : World} (h : shkOk zs b s k = false) (hb : Below w.heap.size w w') : RetL1F1 T (shkL zs b s k) (shkV zs b s k) (shkOk zs b s k) w (.returned (.tuple #[.slice none 0 0, .float .f32 0, .bool false])) w' :=
  fail_l1f1 T h (by unfold shkL; rw [h]; rfl) (by unfold shkV; rw [h]; rfl) hb
theorem fins3 {b s k : Nat} (h : fins [b, s, k] = true) : fin .f32 b = true ∧ fin .f32 s = true ∧ fin .f32 k = true := by
  unfold fins at h
  simp [Bool.and_eq_true] at h
  exact ⟨h.1, h.2.1, h.2.2⟩
set_option maxHeartbeats 1500000 in
set_option maxRecDepth 100000 in
theorem imShk_any (a : Option Addr) (n cap : Nat) (zs : List Nat) (b s k : Nat) (w : World) (h : FSl w a n zs) (hm : n ≤ 1048576) :
    Calls Try.prog 39 #[.slice a n cap, .float .f32 b, .float .f32 s, .float .f32 k] w (RetL1F1 22 (shkL zs b s k) (shkV zs b s k) (shkOk zs b s k) w) := by
  have hmf : ∀ (fn : Fn) (first cap : Array Value) (w : World), (Instr.makeFunc fn first cap).run Try.prog w = .ok (.func fn first cap) w := fun _ _ _ _ => rfl
  have b1 := (Below.refl w.heap.size w).alloc (Nat.le_refl _) (.cells #[.slice a n cap] 23)
  have b2 := b1.alloc (by simp) (.cells #[.float .f32 b] 22)
  have b3 := b2.alloc (by simp; omega) (.cells #[.float .f32 s] 22)
  have b4 := b3.alloc (by simp; omega) (.cells #[.float .f32 k] 22)
  have G := Lib.hid b4
  have HX := Lib.hid ((BoxI.start (cap := cap) (t := 23) h).keep (B := w.heap.size + 1) (by omega) ((((Below.refl _ _).alloc (by simp) (.cells #[.float .f32 b] 22)).alloc (by simp <;> omega) (.cells #[.float .f32 s] 22)).alloc (by simp <;> omega) (.cells #[.float .f32 k] 22)))
  have C1 := Lib.hid (((CIs.newAt (w.alloc (.cells #[.slice a n cap] 23)) [.float .f32 b] 22 (p := w.heap.size + 1) (by simp)).alloc (.cells #[.float .f32 s] 22)).alloc (.cells #[.float .f32 k] 22))
  have C2 := Lib.hid ((CIs.newAt ((w.alloc (.cells #[.slice a n cap] 23)).alloc (.cells #[.float .f32 b] 22)) [.float .f32 s] 22 (p := w.heap.size + 1 + 1) (by simp)).alloc (.cells #[.float .f32 k] 22))
  have C3 := Lib.hid (CIs.newAt (((w.alloc (.cells #[.slice a n cap] 23)).alloc (.cells #[.float .f32 b] 22)).alloc (.cells #[.float .f32 s] 22)) [.float .f32 k] 22 (p := w.heap.size + 1 + 1 + 1) (by simp))
  have H := Lib.hid (FSl.below h b4)
  have HL := Lib.hid h.1
  have hsz4 : ((((w.alloc (.cells #[.slice a n cap] 23)).alloc (.cells #[.float .f32 b] 22)).alloc (.cells #[.float .f32 s] 22)).alloc (.cells #[.float .f32 k] 22)).heap.size = w.heap.size + 1 + 1 + 1 + 1 := by simp
  clear h b1 b2 b3 b4
  have ca := HX.out.1
  have cb := (C1.out.2 0 (by simp)).1
  have cs := (C2.out.2 0 (by simp)).1
  have ck := (C3.out.2 0 (by simp)).1
  cases hs : serB zs
  · have HS := Lib.hid hs
    have HB := Lib.hid (shk_bad (show shkB zs b s k = false by unfold shkB; rw [hs]; rfl))
    clear hs
    go_enter Try.func39, Try.ntmps39
    go_wp2_with fail
    refine (implSeries_any _ _ _ zs _ H.out hm).mono ?_
    rw [HS.out]
    rintro e w' ⟨q0, rfl, rfl⟩
    go_wp2_with fail
    go_ret3
    exact shk_fail HB.out (below_drewN G.out _)
  have HS := Lib.hid hs
  cases hf : fins [b, s, k]
  · have HF := Lib.hid hf
    have HB := Lib.hid (shk_bad (show shkB zs b s k = false by unfold shkB; rw [hf]; simp))
    clear hs hf
    go_enter Try.func39, Try.ntmps39
    go_wp2_with fail
    refine (implSeries_any _ _ _ zs _ H.out hm).mono ?_
    rw [HS.out]
    rintro e w' ⟨q0, rfl, rfl⟩
    go_wp2_with fail
    refine (imFins_any _ _ _ [b, s, k] _ (by simpa [hsz4] using (fsl3 (((((w.alloc (.cells #[.slice a n cap] 23)).alloc (.cells #[.float .f32 b] 22)).alloc (.cells #[.float .f32 s] 22)).alloc (.cells #[.float .f32 k] 22)).drewN q0) b s k 22)) (by omega)).mono ?_
    rw [HF.out]
    rintro e w' ⟨q1, rfl, rfl⟩
    go_wp2_with fail
    go_ret3
    exact shk_fail HB.out (below_drewN ((below_drewN G.out q0).alloc (show w.heap.size ≤ ((((w.alloc (.cells #[.slice a n cap] 23)).alloc (.cells #[.float .f32 b] 22)).alloc (.cells #[.float .f32 s] 22)).alloc (.cells #[.float .f32 k] 22)).heap.size by omega) (.cells #[.float .f32 b, .float .f32 s, .float .f32 k] 22)) _)
  have HF := Lib.hid hf
  obtain ⟨fb, fs, fk⟩ := fins3 hf
  cases hp : posB b
  · have hle := shk_pos fb
    rw [hp] at hle
    have HB := Lib.hid (shk_bad (show shkB zs b s k = false by unfold shkB; rw [hp]; simp))
    clear hs hf hp fb fs fk
    go_enter Try.func39, Try.ntmps39
    go_wp2_with fail
    refine (implSeries_any _ _ _ zs _ H.out hm).mono ?_
    rw [HS.out]
    rintro e w' ⟨q0, rfl, rfl⟩
    go_wp2_with fail
    refine (imFins_any _ _ _ [b, s, k] _ (by simpa [hsz4] using (fsl3 (((((w.alloc (.cells #[.slice a n cap] 23)).alloc (.cells #[.float .f32 b] 22)).alloc (.cells #[.float .f32 s] 22)).alloc (.cells #[.float .f32 k] 22)).drewN q0) b s k 22)) (by omega)).mono ?_
    rw [HF.out]
    rintro e w' ⟨q1, rfl, rfl⟩
    go_wp2_with fail
    go_ret3
    exact shk_fail HB.out (below_drewN ((below_drewN G.out q0).alloc (show w.heap.size ≤ ((((w.alloc (.cells #[.slice a n cap] 23)).alloc (.cells #[.float .f32 b] 22)).alloc (.cells #[.float .f32 s] 22)).alloc (.cells #[.float .f32 k] 22)).heap.size by omega) (.cells #[.float .f32 b, .float .f32 s, .float .f32 k] 22)) _)
  have hle := shk_pos fb
  rw [hp] at hle
  cases hg : geB s
  · have hl1 := shk_ge fs
    rw [hg] at hl1
    have HB := Lib.hid (shk_bad (show shkB zs b s k = false by unfold shkB; rw [hg]; simp))
    clear hs hf hp hg fb fs fk
    go_enter Try.func39, Try.ntmps39
    go_wp2_with fail
    refine (implSeries_any _ _ _ zs _ H.out hm).mono ?_
    rw [HS.out]
    rintro e w' ⟨q0, rfl, rfl⟩
    go_wp2_with fail
    refine (imFins_any _ _ _ [b, s, k] _ (by simpa [hsz4] using (fsl3 (((((w.alloc (.cells #[.slice a n cap] 23)).alloc (.cells #[.float .f32 b] 22)).alloc (.cells #[.float .f32 s] 22)).alloc (.cells #[.float .f32 k] 22)).drewN q0) b s k 22)) (by omega)).mono ?_
    rw [HF.out]
    rintro e w' ⟨q1, rfl, rfl⟩
    go_wp2_with fail
    go_ret3
    exact shk_fail HB.out (below_drewN ((below_drewN G.out q0).alloc (show w.heap.size ≤ ((((w.alloc (.cells #[.slice a n cap] 23)).alloc (.cells #[.float .f32 b] 22)).alloc (.cells #[.float .f32 s] 22)).alloc (.cells #[.float .f32 k] 22)).heap.size by omega) (.cells #[.float .f32 b, .float .f32 s, .float .f32 k] 22)) _)
  have hl1 := shk_ge fs
  rw [hg] at hl1
  cases hh : geB k
  · have hl2 := shk_ge fk
    rw [hh] at hl2
    have HB := Lib.hid (shk_bad (show shkB zs b s k = false by unfold shkB; rw [hh]; simp))
    clear hs hf hp hg hh fb fs fk
    go_enter Try.func39, Try.ntmps39
    go_wp2_with fail
    refine (implSeries_any _ _ _ zs _ H.out hm).mono ?_
    rw [HS.out]
    rintro e w' ⟨q0, rfl, rfl⟩
    go_wp2_with fail
    refine (imFins_any _ _ _ [b, s, k] _ (by simpa [hsz4] using (fsl3 (((((w.alloc (.cells #[.slice a n cap] 23)).alloc (.cells #[.float .f32 b] 22)).alloc (.cells #[.float .f32 s] 22)).alloc (.cells #[.float .f32 k] 22)).drewN q0) b s k 22)) (by omega)).mono ?_
    rw [HF.out]
    rintro e w' ⟨q1, rfl, rfl⟩
    go_wp2_with fail
    go_ret3
    exact shk_fail HB.out (below_drewN ((below_drewN G.out q0).alloc (show w.heap.size ≤ ((((w.alloc (.cells #[.slice a n cap] 23)).alloc (.cells #[.float .f32 b] 22)).alloc (.cells #[.float .f32 s] 22)).alloc (.cells #[.float .f32 k] 22)).heap.size by omega) (.cells #[.float .f32 b, .float .f32 s, .float .f32 k] 22)) _)
  have hl2 := shk_ge fk
  rw [hh] at hl2
  have hl3 := lt1_ge fs fk
  cases h1 : lt1B s k
  · rw [h1] at hl3
    have HB := Lib.hid (shk_bad (show shkB zs b s k = false by unfold shkB; rw [h1]; simp))
    clear hs hf hp hg hh h1 fb fs fk
    go_enter Try.func39, Try.ntmps39
    go_wp2_with fail
    refine (implSeries_any _ _ _ zs _ H.out hm).mono ?_
    rw [HS.out]
    rintro e w' ⟨q0, rfl, rfl⟩
    go_wp2_with fail
    refine (imFins_any _ _ _ [b, s, k] _ (by simpa [hsz4] using (fsl3 (((((w.alloc (.cells #[.slice a n cap] 23)).alloc (.cells #[.float .f32 b] 22)).alloc (.cells #[.float .f32 s] 22)).alloc (.cells #[.float .f32 k] 22)).drewN q0) b s k 22)) (by omega)).mono ?_
    rw [HF.out]
    rintro e w' ⟨q1, rfl, rfl⟩
    go_wp2_with fail
    go_ret3
    exact shk_fail HB.out (below_drewN ((below_drewN G.out q0).alloc (show w.heap.size ≤ ((((w.alloc (.cells #[.slice a n cap] 23)).alloc (.cells #[.float .f32 b] 22)).alloc (.cells #[.float .f32 s] 22)).alloc (.cells #[.float .f32 k] 22)).heap.size by omega) (.cells #[.float .f32 b, .float .f32 s, .float .f32 k] 22)) _)
  rw [h1] at hl3
  have HB := Lib.hid (shk_good (show shkB zs b s k = true by unfold shkB; rw [hs, hf, hp, hg, hh, h1]; rfl))
  have hn0 : 0 < n := by have := (serB_t hs).1; have := HL.out; omega
  clear hs hf hp hg hh h1 fb fs fk
  go_enter Try.func39, Try.ntmps39
  go_wp2_with fail
  refine (implSeries_any _ _ _ zs _ H.out hm).mono ?_
  rw [HS.out]
  rintro e w' ⟨q0, rfl, rfl⟩
  go_wp2_with fail
  refine (imFins_any _ _ _ [b, s, k] _ (by simpa [hsz4] using (fsl3 (((((w.alloc (.cells #[.slice a n cap] 23)).alloc (.cells #[.float .f32 b] 22)).alloc (.cells #[.float .f32 s] 22)).alloc (.cells #[.float .f32 k] 22)).drewN q0) b s k 22)) (by omega)).mono ?_
  rw [HF.out]
  rintro e w' ⟨q1, rfl, rfl⟩
  have G5 := Lib.hid (below_drewN ((below_drewN G.out q0).alloc (show w.heap.size ≤ ((((w.alloc (.cells #[.slice a n cap] 23)).alloc (.cells #[.float .f32 b] 22)).alloc (.cells #[.float .f32 s] 22)).alloc (.cells #[.float .f32 k] 22)).heap.size by omega) (.cells #[.float .f32 b, .float .f32 s, .float .f32 k] 22)) q1)
  have b45 : Below (w.heap.size + 1 + 1 + 1 + 1) ((((w.alloc (.cells #[.slice a n cap] 23)).alloc (.cells #[.float .f32 b] 22)).alloc (.cells #[.float .f32 s] 22)).alloc (.cells #[.float .f32 k] 22)) (((((((w.alloc (.cells #[.slice a n cap] 23)).alloc (.cells #[.float .f32 b] 22)).alloc (.cells #[.float .f32 s] 22)).alloc (.cells #[.float .f32 k] 22)).drewN q0).alloc (.cells #[.float .f32 b, .float .f32 s, .float .f32 k] 22)).drewN q1) := below_drewN ((below_drewN (Below.refl _ _) q0).alloc (show w.heap.size + 1 + 1 + 1 + 1 ≤ ((((w.alloc (.cells #[.slice a n cap] 23)).alloc (.cells #[.float .f32 b] 22)).alloc (.cells #[.float .f32 s] 22)).alloc (.cells #[.float .f32 k] 22)).heap.size by omega) _) q1
  have hs5 : (((((((w.alloc (.cells #[.slice a n cap] 23)).alloc (.cells #[.float .f32 b] 22)).alloc (.cells #[.float .f32 s] 22)).alloc (.cells #[.float .f32 k] 22)).drewN q0).alloc (.cells #[.float .f32 b, .float .f32 s, .float .f32 k] 22)).drewN q1).heap.size = w.heap.size + 1 + 1 + 1 + 1 + 1 := by show ((((((w.alloc (.cells #[.slice a n cap] 23)).alloc (.cells #[.float .f32 b] 22)).alloc (.cells #[.float .f32 s] 22)).alloc (.cells #[.float .f32 k] 22)).drewN q0).alloc _).heap.size = _; rw [World.size_alloc]; show ((((w.alloc (.cells #[.slice a n cap] 23)).alloc (.cells #[.float .f32 b] 22)).alloc (.cells #[.float .f32 s] 22)).alloc (.cells #[.float .f32 k] 22)).heap.size + 1 = _; rw [hsz4]
  replace HX := Lib.hid (HX.out.keep (B := w.heap.size + 1 + 1 + 1 + 1) (by omega) b45)
  replace C1 := Lib.hid (C1.out.belowB b45 (by omega))
  replace C2 := Lib.hid (C2.out.belowB b45 (by omega))
  replace C3 := Lib.hid (C3.out.belowB b45 (by omega))
  clear b45 ca cb cs ck H G hsz4
  generalize ((((((w.alloc (.cells #[.slice a n cap] 23)).alloc (.cells #[.float .f32 b] 22)).alloc (.cells #[.float .f32 s] 22)).alloc (.cells #[.float .f32 k] 22)).drewN q0).alloc (.cells #[.float .f32 b, .float .f32 s, .float .f32 k] 22)).drewN q1 = W5 at *
  have cb := (C1.out.2 0 (by simp)).1
  have cs := (C2.out.2 0 (by simp)).1
  have ck := (C3.out.2 0 (by simp)).1
  have HH0 := Lib.hid (show ∀ w1 w2 w3, cn .f32 (fopR .quo .f32 b (fopR .sub .f32 (fopR .sub .f32 1065353216 s w1) k w2) w3) = shH zs b s k 0 from fun w1 w2 w3 => by rw [cn_fopR, cn_fopR, cn_fopR]; rfl)
  go_upto_region 3 with fail
  go_cut [11] (fun v11 wx => ∃ h0, v11 = .pointer (some ⟨(w.heap.size + 1 + 1 + 1 + 1 + 1), 0, none⟩) ∧ Hid (CIs wx (w.heap.size + 1 + 1 + 1 + 1 + 1) [.float .f32 h0]) ∧ Hid (h0 < 4294967296) ∧ Hid (cn .f32 h0 = shH zs b s k 0) ∧ Hid (Below (w.heap.size + 1 + 1 + 1 + 1 + 1) W5 wx) ∧ Hid (wx.heap.size = (w.heap.size + 1 + 1 + 1 + 1 + 1 + 1)))
  case first =>
    go_wp2_with fail
    go_meet
    case rel =>
      exact ⟨_, rfl, Lib.hid (CIs.newAt (W5.drewN _) [_] 22 (p := (w.heap.size + 1 + 1 + 1 + 1 + 1)) hs5.symm), Lib.hid (shk_lt ..), Lib.hid (HH0.out _ _ _), Lib.hid ((below_drewN (Below.refl _ _) _).alloc (Nat.le_of_eq hs5.symm) _), Lib.hid ((World.size_alloc _ _).trans (congrArg (· + 1) hs5))⟩
  case rest =>
    obtain ⟨h0, rfl, k1, k2, k3, k4, k5⟩ := hcut
    have hs6 := k5.out
    have al := (Below.refl wc.heap.size wc).alloc (Nat.le_refl _) (.cells #[.float .f32 0] 22)
    have CU := Lib.hid (CIs.newAt wc [.float .f32 0] 22 (p := (w.heap.size + 1 + 1 + 1 + 1 + 1 + 1)) hs6.symm)
    have HI6 := Lib.hid (show ShkI w.heap.size (w.heap.size + 1) (w.heap.size + 1 + 1) (w.heap.size + 1 + 1 + 1) (w.heap.size + 1 + 1 + 1 + 1 + 1) (w.heap.size + 1 + 1 + 1 + 1 + 1 + 1) a n cap zs b s k 0 (wc.alloc (.cells #[.float .f32 0] 22)) from
      ⟨((HX.out.keep (by omega) k4.out).keep (show w.heap.size < wc.heap.size by omega) al), (((C1.out.belowB k4.out (by omega)).below al).2 0 (by simp)).1, (((C2.out.belowB k4.out (by omega)).below al).2 0 (by simp)).1, (((C3.out.belowB k4.out (by omega)).below al).2 0 (by simp)).1,
        ⟨h0, ((k1.out.below al).2 0 (by simp)).1, ((k1.out.below al).2 0 (by simp)).2, k2.out, k3.out⟩, ⟨0, (CU.out.2 0 (by simp)).1, (CU.out.2 0 (by simp)).2, cn_zero⟩⟩)
    have G6 := Lib.hid ((G5.out.trans (k4.out.mono (by omega))).alloc (by omega) (.cells #[.float .f32 0] 22))
    have hs7 : (wc.alloc (.cells #[.float .f32 0] 22)).heap.size = (w.heap.size + 1 + 1 + 1 + 1 + 1 + 1) + 1 := by rw [World.size_alloc, hs6]
    have ca : wc.cell? ⟨w.heap.size, 0, none⟩ = some (.slice a n cap) := (HX.out.keep (by omega) k4.out).1
    clear k1 k2 k3 k4 k5 cb cs ck C1 C2 C3 HX HH0 G5 CU
    have ca2 : (wc.alloc (.cells #[.float .f32 0] 22)).cell? ⟨w.heap.size, 0, none⟩ = some (.slice a n cap) := HI6.out.1.1
    clear al ca
    go_wp2_with fail
    generalize hW6 : wc.alloc (.cells #[.float .f32 0] 22) = W6 at *
    refine (places2_any 89 #[.pointer (some ⟨w.heap.size, 0, none⟩), .pointer (some ⟨w.heap.size + 1, 0, none⟩), .pointer (some ⟨w.heap.size + 1 + 1, 0, none⟩), .pointer (some ⟨w.heap.size + 1 + 1 + 1, 0, none⟩), .pointer (some ⟨(w.heap.size + 1 + 1 + 1 + 1 + 1), 0, none⟩), .pointer (some ⟨(w.heap.size + 1 + 1 + 1 + 1 + 1 + 1), 0, none⟩)] (shH zs b s k) (ShkI w.heap.size (w.heap.size + 1) (w.heap.size + 1 + 1) (w.heap.size + 1 + 1 + 1) (w.heap.size + 1 + 1 + 1 + 1 + 1) (w.heap.size + 1 + 1 + 1 + 1 + 1 + 1) a n cap zs b s k) w.heap.size n W6 (enter_of Try.func89 (by kernel_rfl) rfl) hm (by omega)
      (fun wr hb => HI6.out.keep (B := W6.heap.size) (by omega) (by omega) (by omega) (by omega) (by omega) (by omega) hb)
      (fun i wr j v hs hI => hI.keep (B := W6.heap.size) (by omega) (by omega) (by omega) (by omega) (by omega) (by omega) ((Below.refl W6.heap.size wr).setCell (p := ⟨W6.heap.size, j, none⟩) (Nat.le_refl _) v))
      (fun i wr q hI => hI.keep (B := W6.heap.size) (by omega) (by omega) (by omega) (by omega) (by omega) (by omega) (below_drewN (Below.refl _ _) q))
      (fun i wr hi hs hI => if h0 : i = 0 then shk1_zero _ _ _ _ _ _ _ _ _ _ _ _ _ _ _ _ _ hI (by omega) (by omega) (by omega) (by omega) (by omega) (by omega) (by omega) hs hi hm h0 else shk1_pos _ _ _ _ _ _ _ _ _ _ _ _ _ _ _ _ _ hI (by omega) (by omega) (by omega) (by omega) (by omega) (by omega) (by omega) hs hi hm (by omega))).mono ?_
    rintro e w7 ⟨v, rs, rfl, ho, hx, hI, hb⟩
    have HB7 := Lib.hid (G6.out.trans hb)
    have HO := Lib.hid (ho.mono (show w.heap.size ≤ W6.heap.size by omega))
    have hLn := HL.out
    rw [hLn] at HB
    have HV := Lib.hid (show shkL zs b s k = (if shkOk zs b s k then tells (shH zs b s k) n else []) ∧ shkV zs b s k = (if shkOk zs b s k then shS zs b s k n else 0) by unfold shkL shkV; rw [hLn]; exact ⟨rfl, rfl⟩)
    clear hLn ho hb ca2
    cases hfin : fins (tells (shH zs b s k) n)
    · have HN := Lib.hid (show shkOk zs b s k = false by rw [HB.out, hfin]; rfl)
      clear hI hx hfin
      go_wp2_with fail
      go_ret3
      exact shk_fail HN.out HB7.out
    · obtain ⟨-, -, -, -, -, ⟨u, e1, -, e3⟩⟩ := hI hfin
      have HX := Lib.hid (show cnl rs = tells (shH zs b s k) n by rw [hx]; unfold lstR; rw [hfin]; rfl)
      have HFu := Lib.hid (show fin .f32 u = fin .f32 (shS zs b s k n) by rw [← e3, fin_congr (cn_cn .f32 u)])
      have HU := Lib.hid e3
      clear hx hI e3
      cases hfu : fin .f32 u
      · have HN := Lib.hid (show shkOk zs b s k = false by rw [HB.out, hfin, ← HFu.out, hfu]; rfl)
        have HF2 := Lib.hid hfu
        clear hfin hfu
        go_wp2_with fail
        refine (isFinite_any _ _).mono ?_
        rw [HF2.out]
        rintro e w' ⟨q9, rfl, rfl⟩
        go_wp2_with fail
        go_ret3
        exact shk_fail HN.out (below_drewN HB7.out _)
      · have HN := Lib.hid (show shkOk zs b s k = true by rw [HB.out, hfin, ← HFu.out, hfu]; rfl)
        have HF2 := Lib.hid hfu
        clear hfin hfu
        go_wp2_with fail
        refine (isFinite_any _ _).mono ?_
        rw [HF2.out]
        rintro e w' ⟨q9, rfl, rfl⟩
        go_wp2_with fail
        go_region
        all_goals
          go_wp2
          go_ret3
          exact ⟨v, rs, u, by rw [HN.out]; rfl, FOwn.drewN HO.out _, by rw [HV.out.1, HN.out]; exact HX.out, by rw [HV.out.2, HN.out]; exact HU.out, below_drewN HB7.out _⟩
end Go.Proofs.Ytgddfhmddkhaeaa
