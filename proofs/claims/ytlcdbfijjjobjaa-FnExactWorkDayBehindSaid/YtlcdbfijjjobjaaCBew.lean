/-
  WorkDayBehind, in both packages: the whole functions.
-/
import Derived.Test.YtlcdbfijjjobjaaCBeh
namespace Go.Proofs.Ytlcdbfijjjobjaa
open Go.RowKit
set_option linter.unusedVariables false

def behB (zs : List Int) (n0 c : Int) : Bool := dayB n0 && (decide (1 ≤ c ∧ c ≤ 1000) && feaB zs)
/-- What is returned. -/
def RetB (zs : List Int) (n0 c : Int) (w : World) (e : Ending) (w' : World) : Prop := ∃ (x : Int) (ok : Bool) (m : Nat), e = RetI x ok ∧ behP zs n0 c x ok ∧ w.drewN m = w'
theorem fea_len {zs : List Int} (h : feaB zs = true) : zs.length ≤ 32 := by unfold feaB at h; exact of_decide_eq_true (Bool.and_eq_true _ _ ▸ h).1
theorem wk_succ (zs : List Int) (n0 : Int) (k : Nat) : wk zs n0 (k + 1) = wk zs n0 k + (if isWork zs (n0 + k + 1) then 1 else 0) := rfl

set_option maxHeartbeats 2000000 in
theorem specBeh_yes (n0 c : Int) (a : Option Addr) (len cap : Nat) (zs : List Int) (w : World) (h : ISl w a len zs) (hm : len ≤ 1048576) (hb : behB zs n0 c = true) :
    Calls Try.prog 35 #[.int .i64 n0, .int .i64 c, .slice a len cap] w (RetB zs n0 c w) := by
  have H := Lib.hid h
  have HL := Lib.hid h.1
  clear h
  unfold behB at hb
  have hd := (Bool.and_eq_true _ _ ▸ hb).1
  have hb2 := (Bool.and_eq_true _ _ ▸ hb).2
  obtain ⟨hc1, hc2⟩ := of_decide_eq_true (Bool.and_eq_true _ _ ▸ hb2).1
  have hz := (Bool.and_eq_true _ _ ▸ hb2).2
  have hl := fea_len hz
  obtain ⟨n1, n2⟩ := dayB_t hd
  have HD := Lib.hid hd
  have HZ := Lib.hid hz
  clear hb hb2 hd hz
  go_enter Try.func35, Try.ntmps35
  go_wp2_with fail
  refine (specIsDay_any _ _).mono ?_
  rw [HD.out]
  rintro e w' ⟨rfl, rfl⟩
  go_wp2_with fail
  refine (in_yes _ _ _ _ hc1 hc2).mono ?_
  rintro e w' ⟨rfl, rfl⟩
  go_wp2_with fail
  refine (specFea_any _ _ _ _ _ H.out hm).mono ?_
  rw [HZ.out]
  rintro e w' ⟨m, rfl, rfl⟩
  go_wp2
  go_loop [0, 1] (fun n q => ∃ k : Nat, n = .int .i64 (n0 + k) ∧ q = .int .i64 (c - wk zs n0 k) ∧ wk zs n0 k ≤ c ∧ Hid (∀ j, j < k → wk zs n0 j < c)) (fun n _ => (n0 + 2000 - intOf n).toNat)
  case atStart => exact ⟨0, by simp, by unfold wk; simp, by unfold wk; omega, Lib.hid (fun j hj => by omega)⟩
  case round =>
    obtain ⟨k, rfl, rfl, hk, hmin⟩ := hrel
    have hk2 := wk_k zs n0 k hl (by omega)
    obtain ⟨b1, b2⟩ := wk_bd zs n0 k
    by_cases hlt : wk zs n0 k < c
    · have HS := Lib.hid (wk_succ zs n0 k)
      have hm2 := Lib.hid (show ∀ j, j < k + 1 → wk zs n0 j < c from fun j hj => by
        by_cases e : j = k
        · rw [e]; exact hlt
        · exact hmin.out j (by omega))
      cases hw : isWork zs (n0 + k + 1)
      · have HW := Lib.hid hw
        have HE := Lib.hid (show wk zs n0 (k + 1) = wk zs n0 k by rw [HS.out, hw]; simp)
        clear hw hmin
        go_wp2_with (go_at_call 60; refine (work_any _ _ _ _ _ _ (ISl.drewN H.out m) hm (by omega) (by omega)).mono ?_; rw [HW.out]; rintro e w' ⟨rfl, rfl⟩)
        go_round
        case rel => exact ⟨k + 1, by go_num, by rw [HE.out], by rw [HE.out]; exact hk, hm2⟩
        case measure => simp [intOf]; omega
      · have HW := Lib.hid hw
        have HE := Lib.hid (show wk zs n0 (k + 1) = wk zs n0 k + 1 by rw [HS.out, hw]; simp)
        clear hw hmin
        go_wp2_with (go_at_call 60; refine (work_any _ _ _ _ _ _ (ISl.drewN H.out m) hm (by omega) (by omega)).mono ?_; rw [HW.out]; rintro e w' ⟨rfl, rfl⟩)
        go_round
        case rel => exact ⟨k + 1, by go_num, by rw [HE.out, Int.sub_sub], by rw [HE.out]; omega, hm2⟩
        case measure => simp [intOf]; omega
    · have HE := Lib.hid (show wk zs n0 k = c by omega)
      have hq : c - wk zs n0 k ≤ 0 := by omega
      cases hdd : dayB (n0 + k)
      · have HDD := Lib.hid hdd
        have hno := dayB_f hdd
        have HP := Lib.hid (show behP zs n0 c 0 false from Or.inr ⟨rfl, rfl, fun j hj => hmin.out j (by omega)⟩)
        clear hdd hno
        go_wp2_with (go_at_call 51; refine (specIsDay_any _ _).mono ?_; rw [HDD.out]; rintro e w' ⟨rfl, rfl⟩)
        go_ret2
        exact ⟨0, false, m, rfl, HP.out, rfl⟩
      · have HDD := Lib.hid hdd
        have hyes := dayB_t hdd
        have HP := Lib.hid (show behP zs n0 c (n0 + k) true from Or.inl ⟨rfl, k, rfl, HE.out, hmin.out, hyes.2⟩)
        clear hdd hyes
        go_wp2_with (go_at_call 51; refine (specIsDay_any _ _).mono ?_; rw [HDD.out]; rintro e w' ⟨rfl, rfl⟩)
        go_ret2
        exact ⟨n0 + k, true, m, rfl, HP.out, rfl⟩

set_option maxHeartbeats 2000000 in
theorem implBeh_yes (n0 c : Int) (a : Option Addr) (len cap : Nat) (zs : List Int) (w : World) (h : ISl w a len zs) (hm : len ≤ 1048576) (hb : behB zs n0 c = true) :
    Calls Try.prog 36 #[.int .i64 n0, .int .i64 c, .slice a len cap] w (RetB zs n0 c w) := by
  have H := Lib.hid h
  have HL := Lib.hid h.1
  clear h
  unfold behB at hb
  have hd := (Bool.and_eq_true _ _ ▸ hb).1
  have hb2 := (Bool.and_eq_true _ _ ▸ hb).2
  obtain ⟨hc1, hc2⟩ := of_decide_eq_true (Bool.and_eq_true _ _ ▸ hb2).1
  have hz := (Bool.and_eq_true _ _ ▸ hb2).2
  obtain ⟨n1, n2⟩ := dayB_t hd
  have HD := Lib.hid hd
  have HZ := Lib.hid hz
  have g1 : decide (c < 1) = false := decide_eq_false (by omega)
  have g2 : decide (1000 < c) = false := decide_eq_false (by omega)
  clear hb hb2 hd hz
  go_enter Try.func36, Try.ntmps36
  go_wp2_with fail
  refine (implIsDay_any _ _).mono ?_
  rw [HD.out]
  rintro e w' ⟨rfl, rfl⟩
  go_wp2_with fail
  refine (implFea_any _ _ _ _ _ H.out hm).mono ?_
  rw [HZ.out]
  rintro e w' ⟨m, rfl, rfl⟩
  go_wp2
  go_loop [1, 8] (fun q n => ∃ k : Nat, n = .int .i64 (n0 + k + 1) ∧ n0 + k ≤ 73048 ∧ q = .int .i64 (c - wk zs n0 k) ∧ wk zs n0 k < c ∧ Hid (∀ j, j < k → wk zs n0 j < c)) (fun _ n => (73050 - intOf n).toNat)
  case atStart => exact ⟨0, by simp, by simp; omega, by unfold wk; simp, by unfold wk; omega, Lib.hid (fun j hj => by omega)⟩
  case round =>
    obtain ⟨k, rfl, hk3, rfl, hk, hmin⟩ := hrel
    obtain ⟨b1, b2⟩ := wk_bd zs n0 k
    have hm2 := Lib.hid (show ∀ j, j < k + 1 → wk zs n0 j < c from fun j hj => by
      by_cases e : j = k
      · rw [e]; exact hk
      · exact hmin.out j (by omega))
    have HS := Lib.hid (wk_succ zs n0 k)
    cases hdd : dayB (n0 + k + 1)
    · have HDD := Lib.hid hdd
      have hno := dayB_f hdd
      have HP := Lib.hid (show behP zs n0 c 0 false from Or.inr ⟨rfl, rfl, fun j hj => hm2.out j (by omega)⟩)
      clear hdd hno
      go_wp2_with (go_at_call 53; refine (implIsDay_any _ _).mono ?_; rw [HDD.out]; rintro e w' ⟨rfl, rfl⟩)
      go_ret2
      exact ⟨0, false, m, rfl, HP.out, rfl⟩
    · have HDD := Lib.hid hdd
      have hyes := dayB_t hdd
      clear hdd
      cases hwk : wkB (n0 + k + 1)
      · have HW := Lib.hid hwk
        have HE := Lib.hid (show wk zs n0 (k + 1) = wk zs n0 k by rw [HS.out]; unfold isWork; rw [hwk]; simp)
        clear hwk hmin
        go_wp2_with (first | (go_at_call 53; refine (implIsDay_any _ _).mono ?_; rw [HDD.out]; rintro e w' ⟨rfl, rfl⟩) | (go_at_call 59; refine (wkend_any _ _ HDD.out).mono ?_; rw [HW.out]; rintro e w' ⟨rfl, rfl⟩))
        go_round
        case rel => exact ⟨k + 1, by go_num, by omega, by rw [HE.out], by rw [HE.out]; exact hk, hm2⟩
        case measure => simp [intOf]; omega
      · cases hin : decide ((n0 + k + 1) ∈ zs)
        · have HW := Lib.hid hwk
          have HN := Lib.hid hin
          have HE := Lib.hid (show wk zs n0 (k + 1) = wk zs n0 k + 1 by rw [HS.out]; unfold isWork; rw [hwk, hin]; simp)
          by_cases hlast : wk zs n0 k + 1 = c
          · have HP := Lib.hid (show behP zs n0 c (n0 + k + 1) true from Or.inl ⟨rfl, k + 1, by omega, by rw [HE.out, hlast], hm2.out, by have := hyes.2; omega⟩)
            have hz0 : (c - wk zs n0 k - 1 == 0) = true := by rw [beq_iff_eq]; omega
            clear hwk hin hmin hlast
            go_wp2_with (first | (go_at_call 53; refine (implIsDay_any _ _).mono ?_; rw [HDD.out]; rintro e w' ⟨rfl, rfl⟩) | (go_at_call 59; refine (wkend_any _ _ HDD.out).mono ?_; rw [HW.out]; rintro e w' ⟨rfl, rfl⟩) | (go_at_call 61; refine (contains_any _ _ _ _ _ _ (ISl.drewN H.out m) hm).mono ?_; rw [HN.out]; rintro e w' ⟨rfl, rfl⟩))
            go_ret2
            exact ⟨n0 + k + 1, true, m, rfl, HP.out, rfl⟩
          · have hz0 : (c - wk zs n0 k - 1 == 0) = false := by rw [beq_eq_false_iff_ne]; omega
            have hlt : wk zs n0 k + 1 < c := by omega
            clear hwk hin hmin hlast
            go_wp2_with (first | (go_at_call 53; refine (implIsDay_any _ _).mono ?_; rw [HDD.out]; rintro e w' ⟨rfl, rfl⟩) | (go_at_call 59; refine (wkend_any _ _ HDD.out).mono ?_; rw [HW.out]; rintro e w' ⟨rfl, rfl⟩) | (go_at_call 61; refine (contains_any _ _ _ _ _ _ (ISl.drewN H.out m) hm).mono ?_; rw [HN.out]; rintro e w' ⟨rfl, rfl⟩))
            go_round
            case rel => exact ⟨k + 1, by go_num, by omega, by rw [HE.out, Int.sub_sub], by rw [HE.out]; exact hlt, hm2⟩
            case measure => simp [intOf]; omega
        · have HW := Lib.hid hwk
          have HN := Lib.hid hin
          have HE := Lib.hid (show wk zs n0 (k + 1) = wk zs n0 k by rw [HS.out]; unfold isWork; rw [hwk, hin]; simp)
          clear hwk hin hmin
          go_wp2_with (first | (go_at_call 53; refine (implIsDay_any _ _).mono ?_; rw [HDD.out]; rintro e w' ⟨rfl, rfl⟩) | (go_at_call 59; refine (wkend_any _ _ HDD.out).mono ?_; rw [HW.out]; rintro e w' ⟨rfl, rfl⟩) | (go_at_call 61; refine (contains_any _ _ _ _ _ _ (ISl.drewN H.out m) hm).mono ?_; rw [HN.out]; rintro e w' ⟨rfl, rfl⟩))
          go_round
          case rel => exact ⟨k + 1, by go_num, by omega, by rw [HE.out], by rw [HE.out]; exact hk, hm2⟩
          case measure => simp [intOf]; omega
end Go.Proofs.Ytlcdbfijjjobjaa
