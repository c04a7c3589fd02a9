/-
  WorkDays of the model.
-/
import Derived.Test.YtlcdbfijjjobjaaCWor
namespace Go.Proofs.Ytlcdbfijjjobjaa
open Go.RowKit
set_option linter.unusedVariables false

set_option maxHeartbeats 2000000 in
theorem specWor_any (f t : Int) (a : Option Addr) (len cap : Nat) (zs : List Int) (w : World) (h : ISl w a len zs) (hm : len ≤ 1048576) :
    Calls Try.prog 31 #[.int .i64 f, .int .i64 t, .slice a len cap] w (RetIV (worR f t zs) (worB f t zs) w) := by
  have H := Lib.hid h
  have HL := Lib.hid h.1
  clear h
  cases hf : dayB f
  · have HF := Lib.hid hf
    have HB := Lib.hid (show worB f t zs = false by unfold worB; rw [hf]; rfl)
    clear hf
    go_enter Try.func31, Try.ntmps31
    go_wp2_with (go_at_call 51; refine (specIsDay_any _ _).mono ?_; rw [HF.out]; rintro e w' ⟨rfl, rfl⟩)
    go_ret2
    exact ⟨0, by rw [wor_no HB.out, HB.out]; rfl, rfl⟩
  · cases ht : dayB t
    · have HF := Lib.hid hf
      have HT := Lib.hid ht
      have HB := Lib.hid (show worB f t zs = false by unfold worB; rw [hf, ht]; rfl)
      clear hf ht
      go_enter Try.func31, Try.ntmps31
      go_wp2_with fail
      refine (specIsDay_any _ _).mono ?_
      rw [HF.out]
      rintro e w' ⟨rfl, rfl⟩
      go_wp2_with fail
      refine (specIsDay_any _ _).mono ?_
      rw [HT.out]
      rintro e w' ⟨rfl, rfl⟩
      go_wp2
      go_ret2
      exact ⟨0, by rw [wor_no HB.out, HB.out]; rfl, rfl⟩
    · obtain ⟨f1, f2⟩ := dayB_t hf
      obtain ⟨t1, t2⟩ := dayB_t ht
      by_cases hft : f ≤ t
      · cases hz : feaB zs
        · have HF := Lib.hid hf
          have HT := Lib.hid ht
          have HZ := Lib.hid hz
          have HB := Lib.hid (show worB f t zs = false by unfold worB; rw [hz, Bool.and_false, Bool.and_false, Bool.and_false])
          have hd : decide (t < f) = false := decide_eq_false (by omega)
          clear hf ht hz
          go_enter Try.func31, Try.ntmps31
          go_wp2_with fail
          refine (specIsDay_any _ _).mono ?_
          rw [HF.out]
          rintro e w' ⟨rfl, rfl⟩
          go_wp2_with fail
          refine (specIsDay_any _ _).mono ?_
          rw [HT.out]
          rintro e w' ⟨rfl, rfl⟩
          go_wp2_with fail
          refine (specFea_any _ _ _ _ _ H.out hm).mono ?_
          rw [HZ.out]
          rintro e w' ⟨m, rfl, rfl⟩
          go_wp2
          go_ret2
          exact ⟨m, by rw [wor_no HB.out, HB.out]; rfl, rfl⟩
        · have HF := Lib.hid hf
          have HT := Lib.hid ht
          have HZ := Lib.hid hz
          have HB := Lib.hid (show worB f t zs = true by unfold worB; rw [hf, ht, hz, decide_eq_true hft]; rfl)
          have HR := Lib.hid (show worR f t zs = wbZ (t + 1) - wbZ f - hits f t zs len by unfold worR; rw [HB.out, HL.out]; rfl)
          have hd : decide (t < f) = false := decide_eq_false (by omega)
          have hfl : len ≤ 32 := by unfold feaB at hz; have := of_decide_eq_true (Bool.and_eq_true _ _ ▸ hz).1; rw [HL.out] at this; exact this
          have HAt := Lib.hid (show feaTo zs len = true by unfold feaB at hz; have := (Bool.and_eq_true _ _ ▸ hz).2; rw [HL.out] at this; exact this)
          have b1 := wbZ_bd f f1 (by omega)
          have b2 := wbZ_bd (t + 1) (by omega) (by omega)
          clear hf ht hz
          go_enter Try.func31, Try.ntmps31
          go_wp2_with fail
          refine (specIsDay_any _ _).mono ?_
          rw [HF.out]
          rintro e w' ⟨rfl, rfl⟩
          go_wp2_with fail
          refine (specIsDay_any _ _).mono ?_
          rw [HT.out]
          rintro e w' ⟨rfl, rfl⟩
          go_wp2_with fail
          refine (specFea_any _ _ _ _ _ H.out hm).mono ?_
          rw [HZ.out]
          rintro e w' ⟨m, rfl, rfl⟩
          have hw5 := Lib.hid (show wbZ (f + 7 * ((t - f) / 7)) - wbZ f = 5 * ((t - f) / 7) by rw [wbZ_week]; omega)
          go_wp2
          go_loopw [9, 10] (fun c i wr => ∃ x : Int, f + 7 * ((t - f) / 7) ≤ x ∧ x ≤ t + 1 ∧ i = .int .i64 x ∧ c = .int .i64 (wbZ x - wbZ f) ∧ wr = w.drewN m) (fun _ i _ => (t + 1 - intOf i).toNat)
          case atStart => exact ⟨_, by omega, by omega, rfl, by rw [hw5.out], rfl⟩
          case round =>
            obtain ⟨x, hx1, hx2, rfl, rfl, rfl⟩ := hrel
            have b5 := wbZ_bd x (by omega) (by omega)
            by_cases hxt : x ≤ t
            · have HS := Lib.hid (wbZ_succ x)
              by_cases h5 : wdZ x < 5
              · have HX := Lib.hid (show wbZ (x + 1) - wbZ f = wbZ x - wbZ f + 1 by rw [HS.out, if_pos h5]; omega)
                have hd5 : decide (wdZ x < 5) = true := decide_eq_true h5
                go_wp2_with (go_at_call 54; refine (specWd_any _ _ (by omega) (by omega)).mono ?_; rintro e w' ⟨rfl, rfl⟩)
                go_roundw
                case rel => exact ⟨x + 1, by omega, by omega, rfl, by rw [HX.out], trivial⟩
                case measure => simp [intOf]; omega
              · have HX := Lib.hid (show wbZ (x + 1) - wbZ f = wbZ x - wbZ f by rw [HS.out, if_neg h5]; omega)
                have hd5 : decide (wdZ x < 5) = false := decide_eq_false h5
                go_wp2_with (go_at_call 54; refine (specWd_any _ _ (by omega) (by omega)).mono ?_; rintro e w' ⟨rfl, rfl⟩)
                go_roundw
                case rel => exact ⟨x + 1, by omega, by omega, rfl, by rw [HX.out], trivial⟩
                case measure => simp [intOf]; omega
            · obtain rfl : x = t + 1 := by omega
              go_wp2
              go_loopw [9, 11] (fun c i wr => ∃ k n : Nat, k ≤ len ∧ i = .int .i64 k ∧ c = .int .i64 (wbZ (t + 1) - wbZ f - hits f t zs k) ∧ wr = w.drewN n) (fun _ i _ => len - (intOf i).toNat)
              case atStart => exact ⟨0, m, Nat.zero_le _, rfl, by unfold hits; rw [Int.sub_zero], rfl⟩
              case round =>
                obtain ⟨k, n, hk, rfl, rfl, rfl⟩ := hrel
                obtain ⟨b3, b4⟩ := hits_bd f t zs k
                by_cases hlt : k < len
                · obtain ⟨b, off, rfl, hb, hc⟩ := H.out.at (by omega)
                  have hck := hc k hlt
                  have hday : dayB (zs.getD k 0) = true := by
                    have := feaTo_at HAt.out hlt
                    unfold feaAt at this
                    exact (Bool.and_eq_true _ _ ▸ this).1
                  obtain ⟨z1, z2⟩ := dayB_t hday
                  have HS := Lib.hid (show hits f t zs (k + 1) = hits f t zs k + (if hitB f t (zs.getD k 0) then 1 else 0) from rfl)
                  clear hc hb H hday
                  generalize zs.getD k 0 = z at *
                  by_cases g1 : f ≤ z ∧ z ≤ t
                  · by_cases h5 : wdZ z < 5
                    · have HH := Lib.hid (show hits f t zs (k + 1) = hits f t zs k + 1 by rw [HS.out]; unfold hitB wkB; rw [decide_eq_true g1.1, decide_eq_true g1.2, decide_eq_true h5]; rfl)
                      have hd5 : decide (wdZ z < 5) = true := decide_eq_true h5
                      go_wp2_with (first | (go_at_call 47; refine (in_yes _ _ _ _ g1.1 g1.2).mono ?_; rintro e w' ⟨rfl, rfl⟩) | (go_at_call 54; refine (specWd_any _ _ (by omega) (by omega)).mono ?_; rintro e w' ⟨rfl, rfl⟩))
                      go_roundw
                      case rel => exact ⟨k + 1, _, by omega, by go_num, by rw [HH.out, Int.sub_sub], rfl⟩
                      case measure => simp [intOf]; omega
                    · have HH := Lib.hid (show hits f t zs (k + 1) = hits f t zs k by rw [HS.out]; unfold hitB wkB; rw [decide_eq_false h5]; simp)
                      have hd5 : decide (wdZ z < 5) = false := decide_eq_false h5
                      go_wp2_with (first | (go_at_call 47; refine (in_yes _ _ _ _ g1.1 g1.2).mono ?_; rintro e w' ⟨rfl, rfl⟩) | (go_at_call 54; refine (specWd_any _ _ (by omega) (by omega)).mono ?_; rintro e w' ⟨rfl, rfl⟩))
                      go_roundw
                      case rel => exact ⟨k + 1, _, by omega, by go_num, by rw [HH.out], rfl⟩
                      case measure => simp [intOf]; omega
                  · have HH := Lib.hid (show hits f t zs (k + 1) = hits f t zs k by
                      rw [HS.out]
                      unfold hitB
                      have : (decide (f ≤ z) && decide (z ≤ t)) = false := by rw [← Bool.decide_and]; exact decide_eq_false g1
                      rw [this]; simp)
                    have g2 : z < f ∨ t < z := by omega
                    clear g1
                    go_wp2_with (go_at_call 47; refine (in_no _ _ _ _ g2).mono ?_; rintro e w' ⟨rfl, rfl⟩)
                    go_roundw
                    case rel => exact ⟨k + 1, _, by omega, by go_num, by rw [HH.out], rfl⟩
                    case measure => simp [intOf]; omega
                · obtain rfl : k = len := by omega
                  go_wp2
                  go_ret2
                  exact ⟨n, by unfold RetI; rw [HB.out, HR.out]; rfl, rfl⟩
      · have HF := Lib.hid hf
        have HT := Lib.hid ht
        have HB := Lib.hid (show worB f t zs = false by unfold worB; rw [decide_eq_false hft, Bool.false_and, Bool.and_false, Bool.and_false])
        have hd : decide (t < f) = true := decide_eq_true (by omega)
        clear hf ht
        go_enter Try.func31, Try.ntmps31
        go_wp2_with fail
        refine (specIsDay_any _ _).mono ?_
        rw [HF.out]
        rintro e w' ⟨rfl, rfl⟩
        go_wp2_with fail
        refine (specIsDay_any _ _).mono ?_
        rw [HT.out]
        rintro e w' ⟨rfl, rfl⟩
        go_wp2
        go_ret2
        exact ⟨0, by rw [wor_no HB.out, HB.out]; rfl, rfl⟩
end Go.Proofs.Ytlcdbfijjjobjaa
