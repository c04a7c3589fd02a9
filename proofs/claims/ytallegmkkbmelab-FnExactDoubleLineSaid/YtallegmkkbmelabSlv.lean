/-
  SimpleLevels, in both packages.
-/
import Derived.Test.YtallegmkkbmelabCTow
import Derived.Test.YtallegmkkbmelabPus
import Derived.Deep.QuietTactic
import Derived.BigQuiet
import Derived.Deep.RegionHeld3
namespace Go.Proofs.Ytallegmkkbmelab
open Ieee Go.RowKit
set_option linter.unusedVariables false

set_option maxHeartbeats 2000000 in
set_option maxRecDepth 100000 in
theorem levels_any (a : Option Addr) (len cap : Nat) (zs : List Nat) (s : Nat) (w : World) (h : FSl w a len zs) (h1 : 1 ≤ len) (h96 : len ≤ 96) :
    Calls Try.prog 75 #[.slice a len cap, .float .f32 s] w fun e w' => ∃ v rs, e = .returned v ∧ FOwn 28 w.heap.size w' v rs ∧ cnl rs = lvL zs s ∧ rs.length = len ∧ Below w.heap.size w w' := by
  obtain ⟨i0, hi, hz0, hz1, hz2⟩ := info_parts Try.infoR
  have H := Lib.hid h
  have HL := Lib.hid h.1
  obtain ⟨b, off, rfl, hb, hc⟩ := h.at (by omega)
  have hc0 := hc 0 (by omega)
  rw [Nat.add_zero] at hc0
  have HO0 := Lib.hid (FOwn.one 28 w (zs.getD 0 0))
  have HR0 := Lib.hid (show cnl [zs.getD 0 0] = tells (lvT zs s) 1 from rfl)
  have HB0 := Lib.hid ((Below.refl w.heap.size w).alloc (Nat.le_refl _) (.cells #[.float .f32 (zs.getD 0 0)] 28))
  generalize zs.getD 0 0 = z0 at *
  clear h hc
  go_enter Try.func75, Try.ntmps75
  go_wp2
  clear hc0
  go_loopw [5, 6] (fun v i wr => ∃ (k : Nat) (rs : List Nat), 1 ≤ k ∧ k ≤ len ∧ i = .int .i64 k ∧ Hid (rs.length = k) ∧ Hid (FOwn 28 w.heap.size wr v rs) ∧ Hid (cnl rs = tells (lvT zs s) k) ∧ Hid (Below w.heap.size w wr)) (fun _ i _ => len - (intOf i).toNat)
  case atStart => exact ⟨1, [z0], Nat.le_refl _, h1, rfl, Lib.hid rfl, HO0, HR0, HB0⟩
  case round =>
    rename_i wr
    obtain ⟨k, rs, hk1, hk, rfl, hrl, hown, hrs, hbel⟩ := hrel
    by_cases hlt : k < len
    · obtain ⟨b', off', e', hb', hc'⟩ := H.out.at (by omega)
      injection e' with e'; injection e' with e1 e2
      subst e1 e2
      obtain ⟨j, hj⟩ : ∃ j, k = j + 1 := ⟨k - 1, by omega⟩
      have hck := hc' k hlt
      rw [← hbel.out.cell (p := ⟨b, off + k, none⟩) hb'] at hck
      have hjr : j < rs.length := by have := hrl.out; omega
      have hrk : rs.length ≤ 1048576 := by have := hrl.out; omega
      obtain ⟨A, cp, he, hsl, hfz⟩ := hown.out.sl
      obtain ⟨b2, rfl, _⟩ := hfz j hjr
      have hck2 : wr.cell? ⟨b2, j, none⟩ = some (.float .f32 (rs.getD j 0)) := by
        obtain ⟨b3, o3, e3, _, hc3⟩ := hsl.at (by omega)
        injection e3 with e3; injection e3 with e4 e5
        subst e4 e5
        have := hc3 j hjr
        rwa [Nat.zero_add] at this
      subst he
      have hsz := hbel.out.size
      have hy0 : cn .f32 (rs.getD j 0) = lvT zs s j := by rw [← cnl_at hjr, hrs.out, tells_at _ (by omega)]
      obtain ⟨z, hz⟩ : ∃ z, zs.getD k 0 = z := ⟨_, rfl⟩
      obtain ⟨y, hy⟩ : ∃ y, rs.getD j 0 = y := ⟨_, rfl⟩
      rw [hz] at hck
      rw [hy] at hck2 hy0
      have HSt := Lib.hid (show ∀ w1 w2 w3, cnl (rs ++ [fopR .add .f32 y (fopR .mul .f32 s (fopR .sub .f32 z y w1) w2) w3]) = tells (lvT zs s) (k + 1) from fun w1 w2 w3 => by
        rw [tells_succ]
        exact cnl_snoc hrs.out (by rw [hj]; exact lv_step hy0 (by rw [← hj]; exact hz) w1 w2 w3))
      have HRl := Lib.hid hrl.out
      have hsub : IntKind.i64.wrap ((k : Int) - 1) = (j : Int) := by rw [IntKind.wrap_i64]; omega
      have hjl : (j : Int) < (rs.length : Int) := by omega
      have hkl2 : (k : Int) < (len : Int) := by omega
      have hj0 : (0 : Int) ≤ (j : Int) := by omega
      have hd5 : decide (j < rs.length) = true := decide_eq_true hjr
      clear hz hy hy0 hsl hfz hrs hc' hb'
      have hb96 : w.heap.size ≤ wr.heap.size + 1 := by omega
      have h3 : rs.length + 1 ≤ maxLen := by unfold maxLen; omega
      have h4 : (rs.length + 1) * 4 ≤ 140737488355328 := by omega
      clear hrl hj
      go_wp2
      go_region_law ((refine step_append_lies _ (by rfl) _ _ 22 (by rfl) w.heap.size 28 i0 (.float .f32 0) 1 4 Try.underlying22 hi hz0 hz1 hz2 rfl (by decide) _ _ _ (by rfl) (own_at hown.out (by rfl) _) ⟨wr.heap.size, 0, none⟩ 1 1 [_] (by rfl) (by rfl) (one_new (by rfl)) (by simp [Value.oneCell']) (by omega) h3 h4 (by simp; exact hb96) _ (by rfl) ?_; intro gg cc w1 hown1 hgrow hat hlt1))
      all_goals
        have R := push_at (rs := rs) hown.out ((below_drewN hbel.out _).alloc (by exact hsz) _) (by simp; exact hb96) hown1 hgrow
        have hR := Lib.hid R
        clear R hown1 hgrow hown hbel hck hck2 hat hlt1
        go_wp2
        go_roundw
        case rel =>
          refine ⟨k + 1, _, by omega, by omega, by go_num, ?_, Lib.hid hR.out.1, Lib.hid (HSt.out _ _ _), Lib.hid hR.out.2⟩
          exact Lib.hid (by rw [List.length_append, HRl.out]; rfl)
        case measure => simp [intOf]; omega
    · have hkl : k = len := by omega
      subst hkl
      have HF := Lib.hid (show cnl rs = lvL zs s by unfold lvL; rw [hrs.out, HL.out])
      clear hrs
      go_wp2
      go_ret
      exact ⟨_, rs, rfl, hown.out, HF.out, hrl.out, hbel.out⟩

set_option maxRecDepth 100000 in
theorem specLv_any (a : Option Addr) (len cap : Nat) (zs : List Nat) (s : Nat) (w : World) (h : FSl w a len zs) (hm : len ≤ 1048576) :
    Calls Try.prog 51 #[.slice a len cap, .float .f32 s] w (RetOB 28 (lvR zs s) (lvB zs s) w) := by
  have H := Lib.hid h
  have HL := Lib.hid h.1
  clear h
  cases hs : serB zs
  · have HS := Lib.hid hs
    have HB := Lib.hid (lv_bad (s := s) (zs := zs) (by rw [hs]; rfl))
    clear hs
    go_enter Try.func51, Try.ntmps51
    go_wp2_with fail
    refine (specSeries_any _ _ _ _ _ H.out hm).mono ?_
    rw [HS.out]
    rintro e w' ⟨m, rfl, rfl⟩
    go_wp2_with fail
    go_ret2
    exact fail_ob _ HB.out.1 HB.out.2 (below_drewN (Below.refl _ _) _)
  · cases hh : shB s
    · have HS := Lib.hid hs
      have HH := Lib.hid hh
      have HB := Lib.hid (lv_bad (s := s) (zs := zs) (by rw [hs, hh]; rfl))
      clear hs hh
      go_enter Try.func51, Try.ntmps51
      go_wp2_with fail
      refine (specSeries_any _ _ _ _ _ H.out hm).mono ?_
      rw [HS.out]
      rintro e w' ⟨m, rfl, rfl⟩
      go_wp2_with fail
      refine (spSh_any _ _).mono ?_
      rw [HH.out]
      rintro e w' ⟨rfl, rfl⟩
      go_wp2_with fail
      go_ret2
      exact fail_ob _ HB.out.1 HB.out.2 (below_drewN (Below.refl _ _) _)
    · have HS := Lib.hid hs
      have HH := Lib.hid hh
      have HB := Lib.hid (lv_good hs hh)
      obtain ⟨hs1, hs2, -⟩ := serB_t hs
      rw [HL.out] at hs1 hs2
      clear hs hh
      go_enter Try.func51, Try.ntmps51
      go_wp2_with fail
      refine (specSeries_any _ _ _ _ _ H.out hm).mono ?_
      rw [HS.out]
      rintro e w' ⟨m, rfl, rfl⟩
      go_wp2_with fail
      refine (spSh_any _ _).mono ?_
      rw [HH.out]
      rintro e w' ⟨rfl, rfl⟩
      go_wp2_with fail
      refine (levels_any _ _ _ _ _ _ (FSl.drewN H.out _) hs1 hs2).mono ?_
      rintro e w1 ⟨v, rs, rfl, ho, hx, hrl, hb⟩
      obtain ⟨A, cp, rfl, hsl, _⟩ := ho.sl
      have HSL := Lib.hid hsl
      have HO := Lib.hid (show FOwn 28 w.heap.size w1 _ rs from ho)
      have HX := Lib.hid hx
      have HBl := Lib.hid ((below_drewN (Below.refl w.heap.size w) m).trans hb)
      have hrk : rs.length ≤ 1048576 := by omega
      clear hsl ho hx hb hrl
      go_wp2_with fail
      refine (specList_any 28 _ _ rs (lvL zs s) _ w _ rfl HSL.out HX.out hrk HO.out HBl.out).mono ?_
      rintro e w2 ⟨v, rs', rfl, ho, hx', hb'⟩
      have HO2 := Lib.hid ho
      have HX2 := Lib.hid hx'
      have HB2 := Lib.hid hb'
      clear ho hx' hb'
      go_wp2
      go_ret2
      exact ⟨v, rs', by rw [HB.out.1]; rfl, HO2.out, HX2.out.trans HB.out.2.symm, HB2.out⟩

end Go.Proofs.Ytallegmkkbmelab
