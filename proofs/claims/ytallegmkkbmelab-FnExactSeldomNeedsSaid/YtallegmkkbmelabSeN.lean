/-
  SeldomNeeds, in both packages.
-/
import Derived.Test.YtallegmkkbmelabNed
namespace Go.Proofs.Ytallegmkkbmelab
open Ieee Go.RowKit
set_option linter.unusedVariables false

/-- Size, wait and the last need, behind j numbers from the first need k0 on. -/
def sdT (zs : List Nat) (s k0 : Nat) : Nat → Nat × Nat × Nat
  | 0 => (cn .f32 (zs.getD k0 0), cn .f32 (i2f ((k0 + 1 : Nat) : Int)), k0)
  | j + 1 => if ngt (zs.getD (k0 + 1 + j) 0) then (towW (sdT zs s k0 j).1 (cn .f32 (zs.getD (k0 + 1 + j) 0)) (cn .f32 s), towW (sdT zs s k0 j).2.1 (cn .f32 (i2f ((k0 + 1 + j - (sdT zs s k0 j).2.2 : Nat) : Int))) (cn .f32 s), k0 + 1 + j) else sdT zs s k0 j
theorem sd_last (zs : List Nat) (s k0 : Nat) : ∀ j, (sdT zs s k0 j).2.2 < k0 + 1 + j
  | 0 => by show k0 < _; omega
  | j + 1 => by
    have := sd_last zs s k0 j
    unfold sdT
    split
    · show k0 + 1 + j < _; omega
    · omega
theorem sd_yes {zs : List Nat} {s k0 j : Nat} (h : ngt (zs.getD (k0 + 1 + j) 0) = true) : sdT zs s k0 (j + 1) = (towW (sdT zs s k0 j).1 (cn .f32 (zs.getD (k0 + 1 + j) 0)) (cn .f32 s), towW (sdT zs s k0 j).2.1 (cn .f32 (i2f ((k0 + 1 + j - (sdT zs s k0 j).2.2 : Nat) : Int))) (cn .f32 s), k0 + 1 + j) := by
  show (if _ then _ else _) = _
  rw [if_pos h]
theorem sd_no {zs : List Nat} {s k0 j : Nat} (h : ngt (zs.getD (k0 + 1 + j) 0) = false) : sdT zs s k0 (j + 1) = sdT zs s k0 j := by
  show (if _ then _ else _) = _
  rw [if_neg (by rw [h]; simp)]
def sd0 (zs : List Nat) (s : Nat) : Bool := serB zs && (shB s && ndB zs)
def sdF (zs : List Nat) (s : Nat) : Nat × Nat × Nat := sdT zs s (fst zs zs.length).toNat (zs.length - ((fst zs zs.length).toNat + 1))
def sdW (zs : List Nat) (s : Nat) : Nat := aop .quo .f32 (sdF zs s).1 (sdF zs s).2.1
def sdB (zs : List Nat) (s : Nat) : Bool := sd0 zs s && fin .f32 (sdW zs s)
def sdV (zs : List Nat) (s : Nat) : Nat := if sdB zs s then sdW zs s else 0
theorem sd_bad {zs : List Nat} {s : Nat} (h : sd0 zs s = false) : sdB zs s = false ∧ sdV zs s = 0 := by
  have : sdB zs s = false := by unfold sdB; rw [h]; rfl
  exact ⟨this, by unfold sdV; rw [this]; rfl⟩
theorem cn_one : cn .f32 1065353216 = 1065353216 := by decide +kernel

set_option maxHeartbeats 2000000 in
theorem specSd_any (a : Option Addr) (len cap : Nat) (zs : List Nat) (s : Nat) (w : World) (h : FSl w a len zs) (hm : len ≤ 1048576) :
    Calls Try.prog 25 #[.slice a len cap, .float .f32 s] w (RetNB (sdV zs s) (sdB zs s) w) := by
  have H := Lib.hid h
  have HL := Lib.hid h.1
  clear h
  cases h0 : serB zs
  · have HS := Lib.hid h0
    have HB := Lib.hid (sd_bad (zs := zs) (s := s) (by unfold sd0; rw [h0]; simp))
    clear h0
    go_enter Try.func25, Try.ntmps25
    go_wp2_with fail
    refine (specSeries_any _ _ _ _ _ H.out hm).mono ?_
    rw [HS.out]
    rintro e w' ⟨m, rfl, rfl⟩
    go_wp2_with fail
    go_ret2
    exact ⟨0, by rw [HB.out.2]; exact cn_zero, by rw [HB.out.1]; rfl, below_drewN (Below.refl _ _) _⟩
  · skip
    cases h1 : shB s
    · have HS := Lib.hid h0
      have HA := Lib.hid h1
      have HB := Lib.hid (sd_bad (zs := zs) (s := s) (by unfold sd0; rw [h0, h1]; simp))
      clear h0 h1
      go_enter Try.func25, Try.ntmps25
      go_wp2_with fail
      refine (specSeries_any _ _ _ _ _ H.out hm).mono ?_
      rw [HS.out]
      rintro e w' ⟨m, rfl, rfl⟩
      go_wp2_with fail
      refine (spSh_any _ _).mono ?_
      rw [HA.out]
      rintro e w' ⟨rfl, rfl⟩
      go_wp2_with fail
      go_ret2
      exact ⟨0, by rw [HB.out.2]; exact cn_zero, by rw [HB.out.1]; rfl, below_drewN (Below.refl _ _) _⟩
    · skip
      cases h2 : ndB zs
      · have HS := Lib.hid h0
        have HA := Lib.hid h1
        have HN := Lib.hid h2
        have HF := Lib.hid (serB_t h0).2.2
        have HB := Lib.hid (sd_bad (zs := zs) (s := s) (by unfold sd0; rw [h0, h1, h2]; simp))
        clear h0 h1 h2
        go_enter Try.func25, Try.ntmps25
        go_wp2_with fail
        refine (specSeries_any _ _ _ _ _ H.out hm).mono ?_
        rw [HS.out]
        rintro e w' ⟨m, rfl, rfl⟩
        go_wp2_with fail
        refine (spSh_any _ _).mono ?_
        rw [HA.out]
        rintro e w' ⟨rfl, rfl⟩
        go_wp2_with fail
        refine (needs_any _ _ _ _ _ (FSl.drewN H.out _) hm HF.out).mono ?_
        rw [HN.out]
        rintro e w' ⟨v, m2, rfl, hv, rfl⟩
        go_wp2_with fail
        go_ret2
        exact ⟨0, by rw [HB.out.2]; exact cn_zero, by rw [HB.out.1]; rfl, below_drewN (Below.refl _ _) _⟩
      · skip
        have HS := Lib.hid h0
        have HA := Lib.hid h1
        have HN := Lib.hid h2
        have HF := Lib.hid (serB_t h0).2.2
        have h96 := (serB_t h0).2.1
        rw [HL.out] at h96
        have HB := Lib.hid (show sdB zs s = fin .f32 (sdW zs s) by unfold sdB sd0; rw [h0, h1, h2]; rfl)
        obtain ⟨-, k0, hk0, hkl⟩ := ndB_t h2
        rw [HL.out] at hkl hk0
        have HK := Lib.hid hk0
        clear h0 h1 h2 hk0
        go_enter Try.func25, Try.ntmps25
        go_wp2_with fail
        refine (specSeries_any _ _ _ _ _ H.out hm).mono ?_
        rw [HS.out]
        rintro e w' ⟨m, rfl, rfl⟩
        go_wp2_with fail
        refine (spSh_any _ _).mono ?_
        rw [HA.out]
        rintro e w' ⟨rfl, rfl⟩
        go_wp2_with fail
        refine (needs_any _ _ _ _ _ (FSl.drewN H.out _) hm HF.out).mono ?_
        rw [HN.out]
        rintro e w' ⟨v, m2, rfl, hv, rfl⟩
        obtain rfl : v = (k0 : Int) := by rw [hv (by trivial), HL.out, HK.out]
        clear hv
        obtain ⟨b, off, rfl, hb, hc⟩ := H.out.at (by omega)
        have hck := hc k0 hkl
        have hw1 : IntKind.i64.wrap ((k0 : Int) + 1) = ((k0 + 1 : Nat) : Int) := by rw [IntKind.wrap_i64]; omega
        have q1 : (k0 : Int) < (len : Int) := by omega
        have q0 : (0 : Int) ≤ (k0 : Int) := by omega
        obtain ⟨z0, hz0⟩ : ∃ z, zs.getD k0 0 = z := ⟨_, rfl⟩
        rw [hz0] at hck
        have HZ0 := Lib.hid hz0
        clear hz0 hc
        go_wp2_with fail
        clear hck
        go_loopw [8, 9, 10, 11] (fun x y l i wr => ∃ j n rx ry : Nat, k0 + 1 + j ≤ len ∧ i = .int .i64 ((k0 + 1 + j : Nat) : Int) ∧ l = .int .i64 (((sdT zs s k0 j).2.2 : Nat) : Int) ∧ x = .float .f32 rx ∧ y = .float .f32 ry ∧ wr = w.drewN n ∧ Hid (cn .f32 rx = (sdT zs s k0 j).1) ∧ Hid (cn .f32 ry = (sdT zs s k0 j).2.1)) (fun _ _ _ i _ => len - (intOf i).toNat)
        case atStart => exact ⟨0, _, z0, _, by omega, by first | rfl | go_num, rfl, rfl, rfl, rfl, Lib.hid (by rw [← HZ0.out]; rfl), Lib.hid rfl⟩
        case round =>
          obtain ⟨j, n, rx, ry, hj, rfl, rfl, rfl, rfl, rfl, hx, hy⟩ := hrel
          obtain ⟨i, hi⟩ : ∃ i, i = k0 + 1 + j := ⟨_, rfl⟩
          rw [← hi] at hj ⊢
          by_cases hlt : i < len
          · obtain ⟨b', off', e', _, hc'⟩ := H.out.at (by omega)
            injection e' with e'; injection e' with e1 e2
            subst e1 e2
            have hck := hc' i hlt
            have hl := sd_last zs s k0 j
            rw [← hi] at hl
            obtain ⟨l, hle⟩ : ∃ l, l = (sdT zs s k0 j).2.2 := ⟨_, rfl⟩
            rw [← hle] at hl ⊢
            have hw2 : IntKind.i64.wrap ((i : Int) - (l : Int)) = ((i - l : Nat) : Int) := by rw [IntKind.wrap_i64]; omega
            have q2 : (i : Int) < (len : Int) := by omega
            cases hg : ngt (zs.getD i 0)
            · have ho : ((FloatKind.format .f32).order (zs.getD i 0) 0 == some .gt) = false := hg
              have HS2 := Lib.hid (show sdT zs s k0 (j + 1) = sdT zs s k0 j from sd_no (by rw [← hi]; exact hg))
              have HI := Lib.hid hi
              have HLe := Lib.hid hle
              generalize zs.getD i 0 = z at *
              clear hg hc' hi hle hl
              go_wp2_with fail
              go_roundw
              case rel => exact ⟨j + 1, n, rx, ry, by have := HI.out; omega, by rw [HI.out]; go_num, by rw [HS2.out, HLe.out], rfl, rfl, rfl, Lib.hid (by rw [HS2.out]; exact hx.out), Lib.hid (by rw [HS2.out]; exact hy.out)⟩
              case measure => simp [intOf]; omega
            · have ho : ((FloatKind.format .f32).order (zs.getD i 0) 0 == some .gt) = true := hg
              have HS2 := Lib.hid (show sdT zs s k0 (j + 1) = (towW (sdT zs s k0 j).1 (cn .f32 (zs.getD i 0)) (cn .f32 s), towW (sdT zs s k0 j).2.1 (cn .f32 (i2f ((i - l : Nat) : Int))) (cn .f32 s), i) from by rw [sd_yes (by rw [← hi]; exact hg), ← hi, ← hle])
              have HI := Lib.hid hi
              generalize zs.getD i 0 = z at *
              clear hg hc' hi hle hl
              go_wp2_with fail
              go_roundw
              case rel => exact ⟨j + 1, _, _, _, by have := HI.out; omega, by rw [HI.out]; go_num, by rw [HS2.out], rfl, rfl, rfl, Lib.hid (by rw [HS2.out, tow_step, hx.out]), Lib.hid (by rw [HS2.out, tow_step, hy.out]; rfl)⟩
              case measure => simp [intOf]; omega
          · have hF := Lib.hid (show sdF zs s = sdT zs s k0 j by unfold sdF; rw [HL.out, HK.out]; congr 1; simp; omega)
            have HW := Lib.hid (show ∀ w1, cn .f32 (fopR .quo .f32 rx ry w1) = sdW zs s from fun w1 => by unfold sdW; rw [cn_fopR, hx.out, hy.out, hF.out])
            clear hi
            go_wp2_with fail
            refine (specNumber_any _ _).mono ?_
            rintro e w' ⟨r, m3, hr, rfl, rfl⟩
            have hq := res_word (HW.out _) HB.out hr
            have HQ := Lib.hid hq
            clear hr hq
            go_wp2_with fail
            go_ret2
            exact ⟨r, HQ.out.1, by rw [← HQ.out.2]; rfl, below_drewN (Below.refl _ _) _⟩

set_option maxHeartbeats 2000000 in
theorem implSd_any (a : Option Addr) (len cap : Nat) (zs : List Nat) (s : Nat) (w : World) (h : FSl w a len zs) (hm : len ≤ 1048576) :
    Calls Try.prog 26 #[.slice a len cap, .float .f32 s] w (RetNB (sdV zs s) (sdB zs s) w) := by
  have H := Lib.hid h
  have HL := Lib.hid h.1
  clear h
  cases h0 : serB zs
  · have HS := Lib.hid h0
    have HB := Lib.hid (sd_bad (zs := zs) (s := s) (by unfold sd0; rw [h0]; simp))
    clear h0
    go_enter Try.func26, Try.ntmps26
    go_wp2_with fail
    refine (firstN_any _ _ _ _ _ H.out hm).mono ?_
    rw [HS.out, Bool.false_and]
    rintro e w' ⟨v, m, rfl, hv, rfl⟩
    go_wp2_with fail
    go_ret2
    exact ⟨0, by rw [HB.out.2]; exact cn_zero, by rw [HB.out.1]; rfl, below_drewN (Below.refl _ _) _⟩
  · skip
    cases h1 : ndB zs
    · have HS := Lib.hid h0
      have HN := Lib.hid h1
      have HB := Lib.hid (sd_bad (zs := zs) (s := s) (by unfold sd0; rw [h0, h1]; simp))
      clear h0 h1
      go_enter Try.func26, Try.ntmps26
      go_wp2_with fail
      refine (firstN_any _ _ _ _ _ H.out hm).mono ?_
      rw [HS.out, HN.out, Bool.true_and]
      rintro e w' ⟨v, m, rfl, hv, rfl⟩
      go_wp2_with fail
      go_ret2
      exact ⟨0, by rw [HB.out.2]; exact cn_zero, by rw [HB.out.1]; rfl, below_drewN (Below.refl _ _) _⟩
    · skip
      cases h2 : shB s
      · have HS := Lib.hid h0
        have HN := Lib.hid h1
        have HA := Lib.hid h2
        have HB := Lib.hid (sd_bad (zs := zs) (s := s) (by unfold sd0; rw [h0, h1, h2]; simp))
        clear h0 h1 h2
        go_enter Try.func26, Try.ntmps26
        go_wp2_with fail
        refine (firstN_any _ _ _ _ _ H.out hm).mono ?_
        rw [HS.out, HN.out, Bool.true_and]
        rintro e w' ⟨v, m, rfl, hv, rfl⟩
        go_wp2_with fail
        refine (imSh_any _ _).mono ?_
        rw [HA.out]
        rintro e w' ⟨rfl, rfl⟩
        go_wp2_with fail
        go_ret2
        exact ⟨0, by rw [HB.out.2]; exact cn_zero, by rw [HB.out.1]; rfl, below_drewN (Below.refl _ _) _⟩
      · skip
        have HS := Lib.hid h0
        have HN := Lib.hid h1
        have HA := Lib.hid h2
        have HF := Lib.hid (serB_t h0).2.2
        have h96 := (serB_t h0).2.1
        rw [HL.out] at h96
        have HB := Lib.hid (show sdB zs s = fin .f32 (sdW zs s) by unfold sdB sd0; rw [h0, h1, h2]; rfl)
        obtain ⟨-, k0, hk0, hkl⟩ := ndB_t h1
        rw [HL.out] at hkl hk0
        have HK := Lib.hid hk0
        clear h0 h1 h2 hk0
        go_enter Try.func26, Try.ntmps26
        go_wp2_with fail
        refine (firstN_any _ _ _ _ _ H.out hm).mono ?_
        rw [HS.out, HN.out, Bool.true_and]
        rintro e w' ⟨v, m, rfl, hv, rfl⟩
        obtain rfl : v = (k0 : Int) := by rw [hv (by first | rfl | trivial), HL.out, HK.out]
        clear hv
        go_wp2_with fail
        refine (imSh_any _ _).mono ?_
        rw [HA.out]
        rintro e w' ⟨rfl, rfl⟩
        obtain ⟨b, off, rfl, hb, hc⟩ := H.out.at (by omega)
        have hck := hc k0 hkl
        have hw1 : IntKind.i64.wrap ((k0 : Int) + 1) = ((k0 + 1 : Nat) : Int) := by rw [IntKind.wrap_i64]; omega
        have q1 : (k0 : Int) < (len : Int) := by omega
        have q0 : (0 : Int) ≤ (k0 : Int) := by omega
        obtain ⟨z0, hz0⟩ : ∃ z, zs.getD k0 0 = z := ⟨_, rfl⟩
        rw [hz0] at hck
        have HZ0 := Lib.hid hz0
        clear hz0 hc
        go_wp2_with fail
        clear hck
        go_loopw [6, 8, 9, 10] (fun l x y i wr => ∃ j n rx ry : Nat, k0 + 1 + j ≤ len ∧ i = .int .i64 ((k0 + 1 + j : Nat) : Int) ∧ l = .int .i64 (((sdT zs s k0 j).2.2 : Nat) : Int) ∧ x = .float .f32 rx ∧ y = .float .f32 ry ∧ wr = w.drewN n ∧ Hid (cn .f32 rx = (sdT zs s k0 j).1) ∧ Hid (cn .f32 ry = (sdT zs s k0 j).2.1)) (fun _ _ _ i _ => len - (intOf i).toNat)
        case atStart => exact ⟨0, _, z0, _, by omega, by first | rfl | go_num, rfl, rfl, rfl, rfl, Lib.hid (by rw [← HZ0.out]; rfl), Lib.hid rfl⟩
        case round =>
          obtain ⟨j, n, rx, ry, hj, rfl, rfl, rfl, rfl, rfl, hx, hy⟩ := hrel
          obtain ⟨i, hi⟩ : ∃ i, i = k0 + 1 + j := ⟨_, rfl⟩
          rw [← hi] at hj ⊢
          by_cases hlt : i < len
          · obtain ⟨b', off', e', _, hc'⟩ := H.out.at (by omega)
            injection e' with e'; injection e' with e1 e2
            subst e1 e2
            have hck := hc' i hlt
            have hl := sd_last zs s k0 j
            rw [← hi] at hl
            obtain ⟨l, hle⟩ : ∃ l, l = (sdT zs s k0 j).2.2 := ⟨_, rfl⟩
            rw [← hle] at hl ⊢
            have hw2 : IntKind.i64.wrap ((i : Int) - (l : Int)) = ((i - l : Nat) : Int) := by rw [IntKind.wrap_i64]; omega
            have q2 : (i : Int) < (len : Int) := by omega
            cases hg : ngt (zs.getD i 0)
            · have ho : ((FloatKind.format .f32).order (zs.getD i 0) 0 == some .gt) = false := hg
              have HS2 := Lib.hid (show sdT zs s k0 (j + 1) = sdT zs s k0 j from sd_no (by rw [← hi]; exact hg))
              have HI := Lib.hid hi
              have HLe := Lib.hid hle
              generalize zs.getD i 0 = z at *
              clear hg hc' hi hle hl
              go_wp2_with fail
              go_roundw
              case rel => exact ⟨j + 1, n, rx, ry, by have := HI.out; omega, by rw [HI.out]; go_num, by rw [HS2.out, HLe.out], rfl, rfl, rfl, Lib.hid (by rw [HS2.out]; exact hx.out), Lib.hid (by rw [HS2.out]; exact hy.out)⟩
              case measure => simp [intOf]; omega
            · have ho : ((FloatKind.format .f32).order (zs.getD i 0) 0 == some .gt) = true := hg
              have HS2 := Lib.hid (show sdT zs s k0 (j + 1) = (towW (sdT zs s k0 j).1 (cn .f32 (zs.getD i 0)) (cn .f32 s), towW (sdT zs s k0 j).2.1 (cn .f32 (i2f ((i - l : Nat) : Int))) (cn .f32 s), i) from by rw [sd_yes (by rw [← hi]; exact hg), ← hi, ← hle])
              have HI := Lib.hid hi
              generalize zs.getD i 0 = z at *
              clear hg hc' hi hle hl
              go_wp2_with fail
              refine (towards_any _ _ _ _).mono ?_
              rintro e w' ⟨r1, n1, hr1, rfl, rfl⟩
              go_wp2_with fail
              refine (towards_any _ _ _ _).mono ?_
              rintro e w' ⟨r2, n2, hr2, rfl, rfl⟩
              have HR1 := Lib.hid hr1
              have HR2 := Lib.hid hr2
              clear hr1 hr2
              go_wp2_with fail
              go_roundw
              case rel => exact ⟨j + 1, _, _, _, by have := HI.out; omega, by rw [HI.out]; go_num, by rw [HS2.out], rfl, rfl, rfl, Lib.hid (by rw [HS2.out, HR1.out, hx.out]), Lib.hid (by rw [HS2.out, HR2.out, hy.out]; rfl)⟩
              case measure => simp [intOf]; omega
          · have hF := Lib.hid (show sdF zs s = sdT zs s k0 j by unfold sdF; rw [HL.out, HK.out]; congr 1; simp; omega)
            have HW := Lib.hid (show ∀ w1, cn .f32 (fopR .quo .f32 rx ry w1) = sdW zs s from fun w1 => by unfold sdW; rw [cn_fopR, hx.out, hy.out, hF.out])
            clear hi
            go_wp2_with fail
            refine (implOnly_any _ _).mono ?_
            rintro e w' ⟨r, m3, hr, rfl, rfl⟩
            have hq := res_word (HW.out _) HB.out hr
            have HQ := Lib.hid hq
            clear hr hq
            go_wp2_with fail
            go_ret2
            exact ⟨r, HQ.out.1, by rw [← HQ.out.2]; rfl, below_drewN (Below.refl _ _) _⟩
end Go.Proofs.Ytallegmkkbmelab
