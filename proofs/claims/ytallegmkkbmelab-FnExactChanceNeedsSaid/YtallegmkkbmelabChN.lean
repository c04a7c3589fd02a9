/-
  ChanceNeeds, in both packages.
-/
import Derived.Test.YtallegmkkbmelabSeN
namespace Go.Proofs.Ytallegmkkbmelab
open Ieee Go.RowKit
set_option linter.unusedVariables false

/-- Size and likely, behind j numbers from the first need k0 on. -/
def chT (zs : List Nat) (s c k0 : Nat) : Nat → Nat × Nat
  | 0 => (cn .f32 (zs.getD k0 0), aop .quo .f32 1065353216 (cn .f32 (i2f ((k0 + 1 : Nat) : Int))))
  | j + 1 => if ngt (zs.getD (k0 + 1 + j) 0) then (towW (chT zs s c k0 j).1 (cn .f32 (zs.getD (k0 + 1 + j) 0)) (cn .f32 s), towW (chT zs s c k0 j).2 1065353216 (cn .f32 c)) else ((chT zs s c k0 j).1, towW (chT zs s c k0 j).2 0 (cn .f32 c))
theorem ch_yes {zs : List Nat} {s c k0 j : Nat} (h : ngt (zs.getD (k0 + 1 + j) 0) = true) : chT zs s c k0 (j + 1) = (towW (chT zs s c k0 j).1 (cn .f32 (zs.getD (k0 + 1 + j) 0)) (cn .f32 s), towW (chT zs s c k0 j).2 1065353216 (cn .f32 c)) := by
  show (if _ then _ else _) = _
  rw [if_pos h]
theorem ch_no {zs : List Nat} {s c k0 j : Nat} (h : ngt (zs.getD (k0 + 1 + j) 0) = false) : chT zs s c k0 (j + 1) = ((chT zs s c k0 j).1, towW (chT zs s c k0 j).2 0 (cn .f32 c)) := by
  show (if _ then _ else _) = _
  rw [if_neg (by rw [h]; simp)]
def ch0 (zs : List Nat) (s c : Nat) : Bool := serB zs && (shB s && (shB c && ndB zs))
def chF (zs : List Nat) (s c : Nat) : Nat × Nat := chT zs s c (fst zs zs.length).toNat (zs.length - ((fst zs zs.length).toNat + 1))
def chW (zs : List Nat) (s c : Nat) : Nat := aop .mul .f32 (chF zs s c).1 (chF zs s c).2
def chB (zs : List Nat) (s c : Nat) : Bool := ch0 zs s c && fin .f32 (chW zs s c)
def chV (zs : List Nat) (s c : Nat) : Nat := if chB zs s c then chW zs s c else 0
theorem ch_bad {zs : List Nat} {s c : Nat} (h : ch0 zs s c = false) : chB zs s c = false ∧ chV zs s c = 0 := by
  have : chB zs s c = false := by unfold chB; rw [h]; rfl
  exact ⟨this, by unfold chV; rw [this]; rfl⟩

set_option maxHeartbeats 2000000 in
theorem specCh_any (a : Option Addr) (len cap : Nat) (zs : List Nat) (s c : Nat) (w : World) (h : FSl w a len zs) (hm : len ≤ 1048576) (hlc : len ≤ cap) :
    Calls Try.prog 27 #[.slice a len cap, .float .f32 s, .float .f32 c] w (RetNB (chV zs s c) (chB zs s c) w) := by
  have H := Lib.hid h
  have HL := Lib.hid h.1
  clear h
  cases h0 : serB zs
  · have HS := Lib.hid h0
    have HB := Lib.hid (ch_bad (zs := zs) (s := s) (c := c) (by unfold ch0; rw [h0]; simp))
    clear h0
    go_enter Try.func27, Try.ntmps27
    go_wp2_with fail
    refine (specSeries_any _ _ _ _ _ H.out hm).mono ?_
    rw [HS.out]
    rintro e w' ⟨m, rfl, rfl⟩
    go_wp2_with fail
    go_ret2
    exact ⟨0, by rw [HB.out.2]; exact cn_zero, by rw [HB.out.1]; rfl, below_drewN (Below.refl _ _) _⟩
  · skip
    cases h1 : shB s
    · have HS := Lib.hid h0
      have HA := Lib.hid h1
      have HB := Lib.hid (ch_bad (zs := zs) (s := s) (c := c) (by unfold ch0; rw [h0, h1]; simp))
      clear h0 h1
      go_enter Try.func27, Try.ntmps27
      go_wp2_with fail
      refine (specSeries_any _ _ _ _ _ H.out hm).mono ?_
      rw [HS.out]
      rintro e w' ⟨m, rfl, rfl⟩
      go_wp2_with fail
      refine (spSh_any _ _).mono ?_
      rw [HA.out]
      rintro e w' ⟨rfl, rfl⟩
      go_wp2_with fail
      go_ret2
      exact ⟨0, by rw [HB.out.2]; exact cn_zero, by rw [HB.out.1]; rfl, below_drewN (Below.refl _ _) _⟩
    · skip
      cases h2 : shB c
      · have HS := Lib.hid h0
        have HA := Lib.hid h1
        have HC := Lib.hid h2
        have HB := Lib.hid (ch_bad (zs := zs) (s := s) (c := c) (by unfold ch0; rw [h0, h1, h2]; simp))
        clear h0 h1 h2
        go_enter Try.func27, Try.ntmps27
        go_wp2_with fail
        refine (specSeries_any _ _ _ _ _ H.out hm).mono ?_
        rw [HS.out]
        rintro e w' ⟨m, rfl, rfl⟩
        go_wp2_with fail
        refine (spSh_any _ _).mono ?_
        rw [HA.out]
        rintro e w' ⟨rfl, rfl⟩
        go_wp2_with fail
        refine (spSh_any _ _).mono ?_
        rw [HC.out]
        rintro e w' ⟨rfl, rfl⟩
        go_wp2_with fail
        go_ret2
        exact ⟨0, by rw [HB.out.2]; exact cn_zero, by rw [HB.out.1]; rfl, below_drewN (Below.refl _ _) _⟩
      · skip
        cases h3 : ndB zs
        · have HS := Lib.hid h0
          have HA := Lib.hid h1
          have HC := Lib.hid h2
          have HN := Lib.hid h3
          have HF := Lib.hid (serB_t h0).2.2
          have HB := Lib.hid (ch_bad (zs := zs) (s := s) (c := c) (by unfold ch0; rw [h0, h1, h2, h3]; simp))
          clear h0 h1 h2 h3
          go_enter Try.func27, Try.ntmps27
          go_wp2_with fail
          refine (specSeries_any _ _ _ _ _ H.out hm).mono ?_
          rw [HS.out]
          rintro e w' ⟨m, rfl, rfl⟩
          go_wp2_with fail
          refine (spSh_any _ _).mono ?_
          rw [HA.out]
          rintro e w' ⟨rfl, rfl⟩
          go_wp2_with fail
          refine (spSh_any _ _).mono ?_
          rw [HC.out]
          rintro e w' ⟨rfl, rfl⟩
          go_wp2_with fail
          refine (needs_any _ _ _ _ _ (FSl.drewN H.out _) hm HF.out).mono ?_
          rw [HN.out]
          rintro e w' ⟨v, m2, rfl, hv, rfl⟩
          go_wp2_with fail
          go_ret2
          exact ⟨0, by rw [HB.out.2]; exact cn_zero, by rw [HB.out.1]; rfl, below_drewN (Below.refl _ _) _⟩
        · skip
          have HS := Lib.hid h0
          have HA := Lib.hid h1
          have HC := Lib.hid h2
          have HN := Lib.hid h3
          have HF := Lib.hid (serB_t h0).2.2
          have h96 := (serB_t h0).2.1
          rw [HL.out] at h96
          have HB := Lib.hid (show chB zs s c = fin .f32 (chW zs s c) by unfold chB ch0; rw [h0, h1, h2, h3]; rfl)
          obtain ⟨-, k0, hk0, hkl⟩ := ndB_t h3
          rw [HL.out] at hkl hk0
          have HK := Lib.hid hk0
          clear h0 h1 h2 h3 hk0
          go_enter Try.func27, Try.ntmps27
          go_wp2_with fail
          refine (specSeries_any _ _ _ _ _ H.out hm).mono ?_
          rw [HS.out]
          rintro e w' ⟨m, rfl, rfl⟩
          go_wp2_with fail
          refine (spSh_any _ _).mono ?_
          rw [HA.out]
          rintro e w' ⟨rfl, rfl⟩
          go_wp2_with fail
          refine (spSh_any _ _).mono ?_
          rw [HC.out]
          rintro e w' ⟨rfl, rfl⟩
          go_wp2_with fail
          refine (needs_any _ _ _ _ _ (FSl.drewN H.out _) hm HF.out).mono ?_
          rw [HN.out]
          rintro e w' ⟨v, m2, rfl, hv, rfl⟩
          obtain rfl : v = (k0 : Int) := by rw [hv (by first | rfl | trivial), HL.out, HK.out]
          clear hv
          obtain ⟨b, off, rfl, hb, hc⟩ := H.out.at (by omega)
          have hck := hc k0 hkl
          have hw1 : IntKind.i64.wrap ((k0 : Int) + 1) = ((k0 + 1 : Nat) : Int) := by rw [IntKind.wrap_i64]; omega
          have q1 : (k0 : Int) < (len : Int) := by omega
          have q0 : (0 : Int) ≤ (k0 : Int) := by omega
          obtain ⟨z0, hz0⟩ : ∃ z, zs.getD k0 0 = z := ⟨_, rfl⟩
          rw [hz0] at hck
          have HZ0 := Lib.hid hz0
          clear hz0 hc
          go_wp2_with fail
          clear hck
          go_loopw [10, 11, 12, 13] (fun x y i t wr => ∃ j n rx ry : Nat, k0 + 1 + j ≤ len ∧ i = .int .i64 ((k0 + 1 + j : Nat) : Int) ∧ x = .float .f32 rx ∧ y = .float .f32 ry ∧ wr = w.drewN n ∧ Hid (cn .f32 rx = (chT zs s c k0 j).1) ∧ Hid (cn .f32 ry = (chT zs s c k0 j).2)) (fun _ _ i _ _ => len - (intOf i).toNat)
          case atStart => exact ⟨0, _, z0, _, by omega, by first | rfl | go_num, rfl, rfl, rfl, Lib.hid (by rw [← HZ0.out]; rfl), Lib.hid (by rw [cn_fopR, cn_one]; rfl)⟩
          case round =>
            obtain ⟨j, n, rx, ry, hj, rfl, rfl, rfl, rfl, hx, hy⟩ := hrel
            obtain ⟨i, hi⟩ : ∃ i, i = k0 + 1 + j := ⟨_, rfl⟩
            rw [← hi] at hj ⊢
            by_cases hlt : i < len
            · obtain ⟨b', off', e', _, hc'⟩ := H.out.at (by omega)
              injection e' with e'; injection e' with e1 e2
              subst e1 e2
              have hck := hc' i hlt
              have q2 : (i : Int) < (len : Int) := by omega
              cases hg : ngt (zs.getD i 0)
              · have ho : ((FloatKind.format .f32).order (zs.getD i 0) 0 == some .gt) = false := hg
                have HS2 := Lib.hid (show chT zs s c k0 (j + 1) = ((chT zs s c k0 j).1, towW (chT zs s c k0 j).2 0 (cn .f32 c)) from ch_no (by rw [← hi]; exact hg))
                have HI := Lib.hid hi
                generalize zs.getD i 0 = z at *
                clear hg hc' hi
                go_wp2_with fail
                go_roundw
                case rel => exact ⟨j + 1, _, rx, _, by have := HI.out; omega, by rw [HI.out]; go_num, rfl, rfl, rfl, Lib.hid (by rw [HS2.out]; exact hx.out), Lib.hid (by rw [HS2.out, tow_step, hy.out, cn_zero])⟩
                case measure => simp [intOf]; omega
              · have ho : ((FloatKind.format .f32).order (zs.getD i 0) 0 == some .gt) = true := hg
                have HS2 := Lib.hid (show chT zs s c k0 (j + 1) = (towW (chT zs s c k0 j).1 (cn .f32 (zs.getD i 0)) (cn .f32 s), towW (chT zs s c k0 j).2 1065353216 (cn .f32 c)) from by rw [ch_yes (by rw [← hi]; exact hg), ← hi])
                have HI := Lib.hid hi
                generalize zs.getD i 0 = z at *
                clear hg hc' hi
                go_wp2_with fail
                go_roundw
                case rel => exact ⟨j + 1, _, _, _, by have := HI.out; omega, by rw [HI.out]; go_num, rfl, rfl, rfl, Lib.hid (by rw [HS2.out, tow_step, hx.out]), Lib.hid (by rw [HS2.out, tow_step, hy.out, cn_one])⟩
                case measure => simp [intOf]; omega
            · have hF := Lib.hid (show chF zs s c = chT zs s c k0 j by unfold chF; rw [HL.out, HK.out]; congr 1; simp; omega)
              have HW := Lib.hid (show ∀ w1, cn .f32 (fopR .mul .f32 rx ry w1) = chW zs s c from fun w1 => by unfold chW; rw [cn_fopR, hx.out, hy.out, hF.out])
              clear hi
              go_wp2_with fail
              refine (specNumber_any _ _).mono ?_
              rintro e w' ⟨r, m3, hr, rfl, rfl⟩
              have hq := res_word (HW.out _) HB.out hr
              have HQ := Lib.hid hq
              clear hr hq
              go_wp2_with fail
              go_ret2
              exact ⟨r, HQ.out.1, by rw [← HQ.out.2]; rfl, below_drewN (Below.refl _ _) _⟩

set_option maxHeartbeats 2000000 in
theorem implCh_any (a : Option Addr) (len cap : Nat) (zs : List Nat) (s c : Nat) (w : World) (h : FSl w a len zs) (hm : len ≤ 1048576) (hlc : len ≤ cap) :
    Calls Try.prog 28 #[.slice a len cap, .float .f32 s, .float .f32 c] w (RetNB (chV zs s c) (chB zs s c) w) := by
  have H := Lib.hid h
  have HL := Lib.hid h.1
  clear h
  cases h0 : serB zs
  · have HS := Lib.hid h0
    have HB := Lib.hid (ch_bad (zs := zs) (s := s) (c := c) (by unfold ch0; rw [h0]; simp))
    clear h0
    go_enter Try.func28, Try.ntmps28
    go_wp2_with fail
    refine (firstN_any _ _ _ _ _ H.out hm).mono ?_
    rw [HS.out, Bool.false_and]
    rintro e w' ⟨v, m, rfl, hv, rfl⟩
    go_wp2_with fail
    go_ret2
    exact ⟨0, by rw [HB.out.2]; exact cn_zero, by rw [HB.out.1]; rfl, below_drewN (Below.refl _ _) _⟩
  · skip
    cases h1 : ndB zs
    · have HS := Lib.hid h0
      have HN := Lib.hid h1
      have HB := Lib.hid (ch_bad (zs := zs) (s := s) (c := c) (by unfold ch0; rw [h0, h1]; simp))
      clear h0 h1
      go_enter Try.func28, Try.ntmps28
      go_wp2_with fail
      refine (firstN_any _ _ _ _ _ H.out hm).mono ?_
      rw [HS.out, HN.out, Bool.true_and]
      rintro e w' ⟨v, m, rfl, hv, rfl⟩
      go_wp2_with fail
      go_ret2
      exact ⟨0, by rw [HB.out.2]; exact cn_zero, by rw [HB.out.1]; rfl, below_drewN (Below.refl _ _) _⟩
    · skip
      cases h2 : shB s
      · have HS := Lib.hid h0
        have HN := Lib.hid h1
        have HA := Lib.hid h2
        have HB := Lib.hid (ch_bad (zs := zs) (s := s) (c := c) (by unfold ch0; rw [h0, h1, h2]; simp))
        clear h0 h1 h2
        go_enter Try.func28, Try.ntmps28
        go_wp2_with fail
        refine (firstN_any _ _ _ _ _ H.out hm).mono ?_
        rw [HS.out, HN.out, Bool.true_and]
        rintro e w' ⟨v, m, rfl, hv, rfl⟩
        go_wp2_with fail
        refine (imSh_any _ _).mono ?_
        rw [HA.out]
        rintro e w' ⟨rfl, rfl⟩
        go_wp2_with fail
        go_ret2
        exact ⟨0, by rw [HB.out.2]; exact cn_zero, by rw [HB.out.1]; rfl, below_drewN (Below.refl _ _) _⟩
      · skip
        cases h3 : shB c
        · have HS := Lib.hid h0
          have HN := Lib.hid h1
          have HA := Lib.hid h2
          have HC := Lib.hid h3
          have HB := Lib.hid (ch_bad (zs := zs) (s := s) (c := c) (by unfold ch0; rw [h0, h1, h2, h3]; simp))
          clear h0 h1 h2 h3
          go_enter Try.func28, Try.ntmps28
          go_wp2_with fail
          refine (firstN_any _ _ _ _ _ H.out hm).mono ?_
          rw [HS.out, HN.out, Bool.true_and]
          rintro e w' ⟨v, m, rfl, hv, rfl⟩
          go_wp2_with fail
          refine (imSh_any _ _).mono ?_
          rw [HA.out]
          rintro e w' ⟨rfl, rfl⟩
          go_wp2_with fail
          refine (imSh_any _ _).mono ?_
          rw [HC.out]
          rintro e w' ⟨rfl, rfl⟩
          go_wp2_with fail
          go_ret2
          exact ⟨0, by rw [HB.out.2]; exact cn_zero, by rw [HB.out.1]; rfl, below_drewN (Below.refl _ _) _⟩
        · skip
          have HS := Lib.hid h0
          have HN := Lib.hid h1
          have HA := Lib.hid h2
          have HC := Lib.hid h3
          have HF := Lib.hid (serB_t h0).2.2
          have h96 := (serB_t h0).2.1
          rw [HL.out] at h96
          have HB := Lib.hid (show chB zs s c = fin .f32 (chW zs s c) by unfold chB ch0; rw [h0, h1, h2, h3]; rfl)
          obtain ⟨-, k0, hk0, hkl⟩ := ndB_t h1
          rw [HL.out] at hkl hk0
          have HK := Lib.hid hk0
          clear h0 h1 h2 h3 hk0
          go_enter Try.func28, Try.ntmps28
          go_wp2_with fail
          refine (firstN_any _ _ _ _ _ H.out hm).mono ?_
          rw [HS.out, HN.out, Bool.true_and]
          rintro e w' ⟨v, m, rfl, hv, rfl⟩
          obtain rfl : v = (k0 : Int) := by rw [hv (by first | rfl | trivial), HL.out, HK.out]
          clear hv
          go_wp2_with fail
          refine (imSh_any _ _).mono ?_
          rw [HA.out]
          rintro e w' ⟨rfl, rfl⟩
          go_wp2_with fail
          refine (imSh_any _ _).mono ?_
          rw [HC.out]
          rintro e w' ⟨rfl, rfl⟩
          obtain ⟨b, off, rfl, hb, hc⟩ := H.out.at (by omega)
          have hck := hc k0 hkl
          have hw1 : IntKind.i64.wrap ((k0 : Int) + 1) = ((k0 + 1 : Nat) : Int) := by rw [IntKind.wrap_i64]; omega
          have q1 : (k0 : Int) < (len : Int) := by omega
          have q0 : (0 : Int) ≤ (k0 : Int) := by omega
          obtain ⟨z0, hz0⟩ : ∃ z, zs.getD k0 0 = z := ⟨_, rfl⟩
          rw [hz0] at hck
          have HZ0 := Lib.hid hz0
          clear hz0 hc
          have q2 : (0 : Int) ≤ ((k0 + 1 : Nat) : Int) := by omega
          have q3 : ((k0 + 1 : Nat) : Int) ≤ (len : Int) := by omega
          have q4 : (len : Int) ≤ (cap : Int) := by omega
          go_wp2_with fail
          all_goals
            clear hck
            go_loopw [10, 11, 13, 14, 45] (fun x y x0 t i wr => ∃ j n rx ry : Nat, k0 + 1 + j ≤ len ∧ i = .int .i64 (j : Int) ∧ x = .float .f32 rx ∧ y = .float .f32 ry ∧ wr = w.drewN n ∧ Hid (cn .f32 rx = (chT zs s c k0 j).1) ∧ Hid (cn .f32 ry = (chT zs s c k0 j).2)) (fun _ _ _ _ i _ => len - (intOf i).toNat)
            case atStart => exact ⟨0, _, z0, _, by omega, rfl, rfl, rfl, rfl, Lib.hid (by rw [← HZ0.out]; rfl), Lib.hid (by rw [cn_fopR, cn_one]; rfl)⟩
            case round =>
              obtain ⟨j, n, rx, ry, hj, rfl, rfl, rfl, rfl, hx, hy⟩ := hrel
              by_cases hlt : k0 + 1 + j < len
              · first
                  | (exfalso; omega)
                  | (obtain ⟨b', off', e', _, hc'⟩ := H.out.at (by omega)
                     injection e' with e'; injection e' with e1 e2
                     subst e1 e2
                     have hck := hc' (k0 + 1 + j) hlt
                     rw [← Nat.add_assoc] at hck
                     have q5 : (j : Int) < ((len - (k0 + 1) : Nat) : Int) := by omega
                     cases hg : ngt (zs.getD (k0 + 1 + j) 0)
                     · have ho : ((FloatKind.format .f32).order (zs.getD (k0 + 1 + j) 0) 0 == some .gt) = false := hg
                       have HS2 := Lib.hid (show chT zs s c k0 (j + 1) = ((chT zs s c k0 j).1, towW (chT zs s c k0 j).2 0 (cn .f32 c)) from ch_no hg)
                       generalize zs.getD (k0 + 1 + j) 0 = z at *
                       clear hg hc'
                       go_wp2_with fail
                       refine (towards_any _ _ _ _).mono ?_
                       rintro e w' ⟨r2, n2, hr2, rfl, rfl⟩
                       have HR2 := Lib.hid hr2
                       clear hr2
                       go_wp2_with fail
                       go_roundw
                       case rel => exact ⟨j + 1, _, rx, _, by omega, by go_num, rfl, rfl, rfl, Lib.hid (by rw [HS2.out]; exact hx.out), Lib.hid (by rw [HS2.out, HR2.out, hy.out, cn_zero])⟩
                       case measure => simp [intOf]; omega
                     · have ho : ((FloatKind.format .f32).order (zs.getD (k0 + 1 + j) 0) 0 == some .gt) = true := hg
                       have HS2 := Lib.hid (show chT zs s c k0 (j + 1) = (towW (chT zs s c k0 j).1 (cn .f32 (zs.getD (k0 + 1 + j) 0)) (cn .f32 s), towW (chT zs s c k0 j).2 1065353216 (cn .f32 c)) from ch_yes hg)
                       generalize zs.getD (k0 + 1 + j) 0 = z at *
                       clear hg hc'
                       go_wp2_with fail
                       refine (towards_any _ _ _ _).mono ?_
                       rintro e w' ⟨r1, n1, hr1, rfl, rfl⟩
                       have HR1 := Lib.hid hr1
                       clear hr1
                       go_wp2_with fail
                       refine (towards_any _ _ _ _).mono ?_
                       rintro e w' ⟨r2, n2, hr2, rfl, rfl⟩
                       have HR2 := Lib.hid hr2
                       clear hr2
                       go_wp2_with fail
                       go_roundw
                       case rel => exact ⟨j + 1, _, _, _, by omega, by go_num, rfl, rfl, rfl, Lib.hid (by rw [HS2.out, HR1.out, hx.out]), Lib.hid (by rw [HS2.out, HR2.out, hy.out, cn_one])⟩
                       case measure => simp [intOf]; omega)
              · have hF := Lib.hid (show chF zs s c = chT zs s c k0 j by unfold chF; rw [HL.out, HK.out]; congr 1; simp; omega)
                have HW := Lib.hid (show ∀ w1, cn .f32 (fopR .mul .f32 rx ry w1) = chW zs s c from fun w1 => by unfold chW; rw [cn_fopR, hx.out, hy.out, hF.out])
                have q6 : ¬ (j : Int) < ((len - (k0 + 1) : Nat) : Int) := by omega
                go_wp2_with fail
                refine (implOnly_any _ _).mono ?_
                rintro e w' ⟨r, m3, hr, rfl, rfl⟩
                have hq := res_word (HW.out _) HB.out hr
                have HQ := Lib.hid hq
                clear hr hq
                go_wp2_with fail
                go_ret2
                exact ⟨r, HQ.out.1, by rw [← HQ.out.2]; rfl, below_drewN (Below.refl _ _) _⟩
end Go.Proofs.Ytallegmkkbmelab
