/-
  Sums of the products of numbers and those a lag later, in both packages; lags of a series; lists that are finite or none in chapter 3's model.
-/
import Derived.Test.YtopgegciejmhaaaCDly
import Derived.Test.YtopgegciejmhaaaCDoi
import Derived.Test.YtopgegciejmhaaaCIn
import Derived.Deep.RegionHeld3
namespace Go.Proofs.Ytopgegciejmhaaa
open Ieee Go.RowKit
set_option linter.unusedVariables false

theorem dly_none {xs ys : List Nat} {p q : Nat} : dly xs ys p q 0 = 0 := rfl
set_option maxRecDepth 100000 in
theorem specDel_any (a a' : Option Addr) (n cap cap' : Nat) (xs ys : List Nat) (p q : Nat) (lag : Int) (w : World) (h : FSl w a n xs) (h' : FSl w a' n ys) (hn : n ≤ 96) (hpq : p = 0 ∨ q = 0) (hp : p ≤ n) (hq : q ≤ n) (hl : lag = (q : Int) - p) :
    Calls Try.prog 125 #[.slice a n cap, .slice a' n cap', .int .i64 lag] w (RetF .f32 (dly xs ys p q (n - p - q)) w) := by
  have H := Lib.hid h
  have H' := Lib.hid h'
  have HPQ := Lib.hid hpq
  have HLg := Lib.hid hl
  clear h h' hpq hl
  go_enter Try.func125, Try.ntmps125
  go_wp2
  go_loopw [7, 8, 11] (fun s z i wr => ∃ k m r : Nat, k ≤ n ∧ i = .int .i64 k ∧ s = .float .f32 r ∧ wr = w.drewN m ∧ Hid (cn .f32 r = dly xs ys p q (min (k - p) (n - p - q)))) (fun _ _ i _ => n - (intOf i).toNat)
  case atStart => exact ⟨0, 0, 0, Nat.zero_le _, rfl, rfl, rfl, Lib.hid (by rw [show min (0 - p) (n - p - q) = 0 by omega]; exact cn_zero)⟩
  case round =>
    obtain ⟨k, m, r, hk, rfl, rfl, rfl, hr⟩ := hrel
    by_cases hlt : k < n
    · have hw : IntKind.i64.wrap ((k : Int) + lag) = (k : Int) + lag := IntWalk.i64_in _ (by have := HLg.out; omega)
      have hv : wrap64 ((k : Int) + lag) = (k : Int) + lag := by have := HLg.out; unfold wrap64; omega
      by_cases h1 : p ≤ k
      · obtain ⟨j, hj⟩ : ∃ j : Nat, (k : Int) + lag = (j : Int) := ⟨k + q - p, by have := HLg.out; omega⟩
        replace hw := hw.trans hj
        replace hv := hv.trans hj
        have hd1 : decide ((0 : Int) ≤ (j : Int)) = true := decide_eq_true (by omega)
        have hjk : j + p = k + q := by have := HLg.out; omega
        by_cases h2 : j < n
        · have hd2 : decide ((j : Int) < (n : Int)) = true := decide_eq_true (by omega)
          obtain ⟨b, off, rfl, hb, hc⟩ := H.out.at (by omega)
          obtain ⟨b', off', rfl, hb', hc'⟩ := H'.out.at (by omega)
          have hck := hc k hlt
          have hck' := hc' j h2
          have hr' : cn .f32 r = dly xs ys p q (k - p) := by rw [hr.out, Nat.min_eq_left (by have := HPQ.out; omega)]
          have e2 : min (k + 1 - p) (n - p - q) = (k - p) + 1 := by have := HPQ.out; omega
          have hstep := Lib.hid (fun w1 w2 => dly_step hr' (x := xs.getD k 0) (y := ys.getD j 0) (by congr 1; omega) (by congr 1; omega) w1 w2)
          rw [← e2] at hstep
          generalize xs.getD k 0 = x at *
          generalize ys.getD j 0 = y at *
          have hj2 : (j : Int) < (n : Int) := by omega
          have hj0 : (0 : Int) ≤ (j : Int) := by omega
          have hk0 : (0 : Int) ≤ (k : Int) := by omega
          have hk2 : (k : Int) < (n : Int) := by omega
          clear hc hc' hb hb' H H' hr hr' hj HPQ e2 hjk HLg
          go_wp2
          go_region
          all_goals
            go_wp2
            go_roundw
            case rel => exact ⟨k + 1, _, _, by omega, by go_num, rfl, rfl, Lib.hid (hstep.out _ _)⟩
            case measure => simp [intOf]; omega
        · have hd2 : decide ((j : Int) < (n : Int)) = false := decide_eq_false (by omega)
          have hr' := Lib.hid (show cn .f32 r = dly xs ys p q (min (k + 1 - p) (n - p - q)) by rw [hr.out]; congr 1; have := HPQ.out; omega)
          clear H H' hr hj HPQ hjk HLg
          go_wp2
          go_roundw
          case rel => exact ⟨k + 1, _, _, by omega, by go_num, rfl, rfl, hr'⟩
          case measure => simp [intOf]; omega
      · have hd1 : decide ((0 : Int) ≤ (k : Int) + lag) = false := decide_eq_false (by have := HPQ.out; have := HLg.out; omega)
        have hr' := Lib.hid (show cn .f32 r = dly xs ys p q (min (k + 1 - p) (n - p - q)) by rw [hr.out]; congr 1; omega)
        clear H H' hr HPQ HLg
        go_wp2
        go_roundw
        case rel => exact ⟨k + 1, _, _, by omega, by go_num, rfl, rfl, hr'⟩
        case measure => simp [intOf]; omega
    · have e : k = n := by omega
      subst e
      have hr' := Lib.hid (show cn .f32 r = dly xs ys p q (k - p - q) by rw [hr.out]; congr 1; omega)
      clear H H' hr
      go_wp2
      go_ret
      exact ⟨r, m, hr'.out, rfl, rfl⟩
end Go.Proofs.Ytopgegciejmhaaa
