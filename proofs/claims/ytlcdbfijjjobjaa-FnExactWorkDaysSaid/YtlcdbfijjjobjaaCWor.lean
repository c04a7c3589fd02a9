/-
  WorkDays, in both packages.
-/
import Derived.Test.YtlcdbfijjjobjaaCFea
namespace Go.Proofs.Ytlcdbfijjjobjaa
open Go.RowKit
set_option linter.unusedVariables false

/-- A feast that takes a work day from from to to. -/
def hitB (f t x : Int) : Bool := decide (f ≤ x) && decide (x ≤ t) && wkB x
def hits (f t : Int) (zs : List Int) : Nat → Int
  | 0 => 0
  | k + 1 => hits f t zs k + (if hitB f t (zs.getD k 0) then 1 else 0)
theorem hits_bd (f t : Int) (zs : List Int) (k : Nat) : 0 ≤ hits f t zs k ∧ hits f t zs k ≤ k := by
  induction k with
  | zero => exact ⟨Int.le_refl _, Int.le_refl _⟩
  | succ k ih => unfold hits; split <;> omega
def worB (f t : Int) (zs : List Int) : Bool := dayB f && (dayB t && (decide (f ≤ t) && feaB zs))
def worR (f t : Int) (zs : List Int) : Int := if worB f t zs then wbZ (t + 1) - wbZ f - hits f t zs zs.length else 0
theorem wor_no {f t : Int} {zs : List Int} (h : worB f t zs = false) : worR f t zs = 0 := by unfold worR; rw [h]; rfl
def RetIV (x : Int) (ok : Bool) (w : World) (e : Ending) (w' : World) : Prop := ∃ n, e = RetI x ok ∧ w.drewN n = w'

set_option maxHeartbeats 2000000 in
theorem implWor_any (f t : Int) (a : Option Addr) (len cap : Nat) (zs : List Int) (w : World) (h : ISl w a len zs) (hm : len ≤ 1048576) :
    Calls Try.prog 33 #[.int .i64 f, .int .i64 t, .slice a len cap] w (RetIV (worR f t zs) (worB f t zs) w) := by
  have H := Lib.hid h
  have HL := Lib.hid h.1
  clear h
  cases hf : dayB f
  · have HF := Lib.hid hf
    have HB := Lib.hid (show worB f t zs = false by unfold worB; rw [hf]; rfl)
    clear hf
    go_enter Try.func33, Try.ntmps33
    go_wp2_with (go_at_call 53; refine (implIsDay_any _ _).mono ?_; rw [HF.out]; rintro e w' ⟨rfl, rfl⟩)
    go_ret2
    exact ⟨0, by rw [wor_no HB.out, HB.out]; rfl, rfl⟩
  · cases ht : dayB t
    · have HF := Lib.hid hf
      have HT := Lib.hid ht
      have HB := Lib.hid (show worB f t zs = false by unfold worB; rw [hf, ht]; rfl)
      clear hf ht
      go_enter Try.func33, Try.ntmps33
      go_wp2_with fail
      refine (implIsDay_any _ _).mono ?_
      rw [HF.out]
      rintro e w' ⟨rfl, rfl⟩
      go_wp2_with fail
      refine (implIsDay_any _ _).mono ?_
      rw [HT.out]
      rintro e w' ⟨rfl, rfl⟩
      go_wp2
      go_ret2
      exact ⟨0, by rw [wor_no HB.out, HB.out]; rfl, rfl⟩
    · obtain ⟨f1, f2⟩ := dayB_t hf
      obtain ⟨t1, t2⟩ := dayB_t ht
      by_cases hft : f ≤ t
      · cases hz : feaB zs
        · have HF := Lib.hid hf
          have HT := Lib.hid ht
          have HZ := Lib.hid hz
          have HB := Lib.hid (show worB f t zs = false by unfold worB; rw [hz, Bool.and_false, Bool.and_false, Bool.and_false])
          have hd : decide (t < f) = false := decide_eq_false (by omega)
          clear hf ht hz
          go_enter Try.func33, Try.ntmps33
          go_wp2_with fail
          refine (implIsDay_any _ _).mono ?_
          rw [HF.out]
          rintro e w' ⟨rfl, rfl⟩
          go_wp2_with fail
          refine (implIsDay_any _ _).mono ?_
          rw [HT.out]
          rintro e w' ⟨rfl, rfl⟩
          go_wp2_with fail
          refine (implFea_any _ _ _ _ _ H.out hm).mono ?_
          rw [HZ.out]
          rintro e w' ⟨m, rfl, rfl⟩
          go_wp2
          go_ret2
          exact ⟨m, by rw [wor_no HB.out, HB.out]; rfl, rfl⟩
        · have HF := Lib.hid hf
          have HT := Lib.hid ht
          have HZ := Lib.hid hz
          have HB := Lib.hid (show worB f t zs = true by unfold worB; rw [hf, ht, hz, decide_eq_true hft]; rfl)
          have HR := Lib.hid (show worR f t zs = wbZ (t + 1) - wbZ f - hits f t zs len by unfold worR; rw [HB.out, HL.out]; rfl)
          have hd : decide (t < f) = false := decide_eq_false (by omega)
          have hfl : len ≤ 32 := by unfold feaB at hz; have := of_decide_eq_true (Bool.and_eq_true _ _ ▸ hz).1; rw [HL.out] at this; exact this
          have HAt := Lib.hid (show feaTo zs len = true by unfold feaB at hz; have := (Bool.and_eq_true _ _ ▸ hz).2; rw [HL.out] at this; exact this)
          have b1 := wbZ_bd f f1 (by omega)
          have b2 := wbZ_bd (t + 1) (by omega) (by omega)
          clear hf ht hz
          go_enter Try.func33, Try.ntmps33
          go_wp2_with fail
          refine (implIsDay_any _ _).mono ?_
          rw [HF.out]
          rintro e w' ⟨rfl, rfl⟩
          go_wp2_with fail
          refine (implIsDay_any _ _).mono ?_
          rw [HT.out]
          rintro e w' ⟨rfl, rfl⟩
          go_wp2_with fail
          refine (implFea_any _ _ _ _ _ H.out hm).mono ?_
          rw [HZ.out]
          rintro e w' ⟨m, rfl, rfl⟩
          go_wp2_with fail
          refine (wbBefore_any _ _ (by omega) (by omega)).mono ?_
          rintro e w' ⟨rfl, rfl⟩
          go_wp2_with fail
          refine (wbBefore_any _ _ (by omega) (by omega)).mono ?_
          rintro e w' ⟨rfl, rfl⟩
          go_wp2
          go_loopw [8, 10, 37] (fun c x i wr => ∃ k n : Nat, k ≤ len ∧ i = .int .i64 k ∧ c = .int .i64 (wbZ (t + 1) - wbZ f - hits f t zs k) ∧ wr = w.drewN n) (fun _ _ i _ => len - (intOf i).toNat)
          case atStart => exact ⟨0, m, Nat.zero_le _, rfl, by unfold hits; rw [Int.sub_zero], rfl⟩
          case round =>
            obtain ⟨k, n, hk, rfl, rfl, rfl⟩ := hrel
            obtain ⟨b3, b4⟩ := hits_bd f t zs k
            by_cases hlt : k < len
            · obtain ⟨b, off, rfl, hb, hc⟩ := H.out.at (by omega)
              have hck := hc k hlt
              have hday : dayB (zs.getD k 0) = true := by
                have := feaTo_at HAt.out hlt
                unfold feaAt at this
                exact (Bool.and_eq_true _ _ ▸ this).1
              have HD := Lib.hid hday
              have HS := Lib.hid (show hits f t zs (k + 1) = hits f t zs k + (if hitB f t (zs.getD k 0) then 1 else 0) from rfl)
              clear hc hb H hday
              generalize zs.getD k 0 = z at *
              by_cases g1 : f ≤ z
              · by_cases g2 : z ≤ t
                · cases hw : wkB z
                  · have HW := Lib.hid hw
                    have HH := Lib.hid (show hits f t zs (k + 1) = hits f t zs k by rw [HS.out]; unfold hitB; rw [hw]; simp)
                    have hd1 : decide (f ≤ z) = true := decide_eq_true g1
                    have hd2 : decide (z ≤ t) = true := decide_eq_true g2
                    clear hw
                    go_wp2_with (go_at_call 59; refine (wkend_any _ _ HD.out).mono ?_; rw [HW.out]; rintro e w' ⟨rfl, rfl⟩)
                    go_roundw
                    case rel => exact ⟨k + 1, _, by omega, by go_num, by rw [HH.out], rfl⟩
                    case measure => simp [intOf]; omega
                  · have HW := Lib.hid hw
                    have HH := Lib.hid (show hits f t zs (k + 1) = hits f t zs k + 1 by rw [HS.out]; unfold hitB; rw [hw, decide_eq_true g1, decide_eq_true g2]; rfl)
                    have hd1 : decide (f ≤ z) = true := decide_eq_true g1
                    have hd2 : decide (z ≤ t) = true := decide_eq_true g2
                    clear hw
                    go_wp2_with (go_at_call 59; refine (wkend_any _ _ HD.out).mono ?_; rw [HW.out]; rintro e w' ⟨rfl, rfl⟩)
                    go_roundw
                    case rel => exact ⟨k + 1, _, by omega, by go_num, by rw [HH.out, Int.sub_sub], rfl⟩
                    case measure => simp [intOf]; omega
                · have HH := Lib.hid (show hits f t zs (k + 1) = hits f t zs k by rw [HS.out]; unfold hitB; rw [decide_eq_false g2]; simp)
                  have hd1 : decide (f ≤ z) = true := decide_eq_true g1
                  have hd2 : decide (z ≤ t) = false := decide_eq_false g2
                  go_wp2
                  go_roundw
                  case rel => exact ⟨k + 1, _, by omega, by go_num, by rw [HH.out], rfl⟩
                  case measure => simp [intOf]; omega
              · have HH := Lib.hid (show hits f t zs (k + 1) = hits f t zs k by rw [HS.out]; unfold hitB; rw [decide_eq_false g1]; simp)
                have hd1 : decide (f ≤ z) = false := decide_eq_false g1
                go_wp2
                go_roundw
                case rel => exact ⟨k + 1, _, by omega, by go_num, by rw [HH.out], rfl⟩
                case measure => simp [intOf]; omega
            · obtain rfl : k = len := by omega
              go_wp2
              go_ret2
              exact ⟨n, by unfold RetI; rw [HB.out, HR.out]; rfl, rfl⟩
      · have HF := Lib.hid hf
        have HT := Lib.hid ht
        have HB := Lib.hid (show worB f t zs = false by unfold worB; rw [decide_eq_false hft, Bool.false_and, Bool.and_false, Bool.and_false])
        have hd : decide (t < f) = true := decide_eq_true (by omega)
        clear hf ht
        go_enter Try.func33, Try.ntmps33
        go_wp2_with fail
        refine (implIsDay_any _ _).mono ?_
        rw [HF.out]
        rintro e w' ⟨rfl, rfl⟩
        go_wp2_with fail
        refine (implIsDay_any _ _).mono ?_
        rw [HT.out]
        rintro e w' ⟨rfl, rfl⟩
        go_wp2
        go_ret2
        exact ⟨0, by rw [wor_no HB.out, HB.out]; rfl, rfl⟩
end Go.Proofs.Ytlcdbfijjjobjaa
