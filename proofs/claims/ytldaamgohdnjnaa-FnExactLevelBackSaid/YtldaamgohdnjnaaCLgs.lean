/-
  The logarithm: the model's walk at positive numbers.
-/
import Derived.Test.YtldaamgohdnjnaaCLog
namespace Go.Proofs.Ytldaamgohdnjnaa
open Ieee Go.RowKit
set_option linter.unusedVariables false
set_option maxHeartbeats 2000000 in
theorem specLog_any (r : Nat) (w : World) (h : rng r) :
    Calls Try.prog 165 #[.float .f64 r] w fun e w' => e = .returned (.float .f64 (lnW r)) ∧ w = w' := by
  obtain ⟨hr1, hr2⟩ := h
  have hdz : ∀ w : World, w.drewN 0 = w := fun w => rfl
  have hN : isN .f64 r = false := by
    rw [isN_iff]; exact decide_eq_false (by show ¬ double.infRung < r % double.signWeight; rw [d_sign, d_inf]; omega)
  have o1 : (FloatKind.format .f64).order r r = some Ordering.eq := by rw [order_self, hN]; rfl
  have o2 : (FloatKind.format .f64).order r 0 = some Ordering.gt := by
    rw [pos_order (by omega) (by omega)]; simp only [compare, compareOfLessAndEq]; rw [if_neg (by omega), if_neg (by omega)]
  have o3 : (FloatKind.format .f64).order r 9218868437227405311 = some Ordering.lt := by
    rw [pos_order (by omega) (by omega)]; simp only [compare, compareOfLessAndEq]; rw [if_pos (by omega)]
  clear hN
  go_enter Try.func165, Try.ntmps165
  go_wp2
  clear o1 o2 o3
  go_loop [0, 3] (fun x e => ∃ (Y : Nat) (z : Int), x = .float .f64 Y ∧ e = .int .i64 z ∧ Hid ((Y : Int) = r - z * 4503599627370496 ∧ 3936146074321813504 ≤ Y ∧ Y < 5183643171103440896 ∧ 0 ≤ z ∧ z ≤ 130)) (fun x _ => fltOf' x)
  case atStart => exact ⟨r, 0, rfl, rfl, Lib.hid ⟨by omega, hr1, hr2, by omega, by omega⟩⟩
  case round =>
    obtain ⟨Y, z, rfl, rfl, hI⟩ := hrel
    obtain ⟨i1, i2, i3, i4, i5⟩ := hI.out
    have t1 := pos_ge (x := Y) (y := 4609434218613702656) (by omega) (by omega)
    by_cases hlt : 4609434218613702656 ≤ Y
    · rw [decide_eq_true hlt] at t1
      have c1 := fun w => fopR_some (quo_two (r := Y) (by omega) (by omega)) w
      have c1n := fopN_some (quo_two (r := Y) (by omega) (by omega))
      have hn := Lib.hid (show ((Y - 4503599627370496 : Nat) : Int) = r - (z + 1) * 4503599627370496 ∧ 3936146074321813504 ≤ Y - 4503599627370496 ∧ Y - 4503599627370496 < 5183643171103440896 ∧ 0 ≤ z + 1 ∧ z + 1 ≤ 130 from ⟨by omega, by omega, by omega, by omega, by omega⟩)
      have hm := Lib.hid (fltDn_lt (Nat.sub_lt (show 0 < Y by omega) (show 0 < 4503599627370496 by omega)))
      clear i1 i2 i3 hI hlt hr1 hr2
      go_wp2
      go_round
      case rel => exact ⟨_, _, rfl, rfl, hn⟩
      case measure => exact hm.out
    · rw [decide_eq_false hlt] at t1
      have hge := Lib.hid hlt
      clear i1 i2 i3 i4 i5 hlt
      go_wp2
      go_loop [0, 3] (fun x e => ∃ (Y : Nat) (z : Int), x = .float .f64 Y ∧ e = .int .i64 z ∧ Hid ((Y : Int) = r - z * 4503599627370496 ∧ 3936146074321813504 ≤ Y ∧ Y < 4609434218613702656 ∧ -149 ≤ z ∧ z ≤ 130)) (fun x _ => fltUp x)
      case atStart => exact ⟨Y, z, rfl, rfl, Lib.hid ⟨hI.out.1, hI.out.2.1, by have := hge.out; omega, by have := hI.out.2.2.2.1; omega, hI.out.2.2.2.2⟩⟩
      case round =>
        clear hI hge t1
        obtain ⟨Y, z, rfl, rfl, hI⟩ := hrel
        obtain ⟨i1, i2, i3, i4, i5⟩ := hI.out
        have t1 := pos_lt (x := Y) (y := 4604930618986332160) (by omega) (by omega)
        by_cases hlt : Y < 4604930618986332160
        · rw [decide_eq_true hlt] at t1
          have t1' := eq_of_beq t1
          have c1 := fun w => fopR_some (mul_two (r := Y) (by omega) (by omega)) w
          have c1n := fopN_some (mul_two (r := Y) (by omega) (by omega))
          have hn := Lib.hid (show ((Y + 4503599627370496 : Nat) : Int) = r - (z - 1) * 4503599627370496 ∧ 3936146074321813504 ≤ Y + 4503599627370496 ∧ Y + 4503599627370496 < 4609434218613702656 ∧ -149 ≤ z - 1 ∧ z - 1 ≤ 130 from ⟨by omega, by omega, by omega, by omega, by omega⟩)
          have hm := Lib.hid (fltUp_lt hlt)
          clear i1 i2 i3 hI t1 hlt hr1 hr2
          go_wp2
          go_round
          case rel => exact ⟨_, _, rfl, rfl, hn⟩
          case measure => exact hm.out
        · rw [decide_eq_false hlt] at t1
          have hmid : mid Y := ⟨by unfold w75; omega, i3⟩
          obtain ⟨e1, e2⟩ := lred_of i1 hmid.1 hmid.2
          have hv : lnW r = aop .add .f64 (lnSQ2 Y) (lnE z) := by unfold lnW; rw [e1, e2]
          have a1 := fun w => fopR_ex (mid_sub hmid) w
          have a1n := fopN_ex (mid_sub hmid)
          have a2 := fun w => fopR_ex (mid_add_bd hmid) w
          have a2n := fopN_ex (mid_add_bd hmid)
          have a3 : ∀ w, fopR .quo .f64 (aop .sub .f64 Y one64) (aop .add .f64 Y one64) w = lnS Y := fun w => fopR_ex (lnS_bd hmid) w
          have a3n : fopN .quo .f64 (aop .sub .f64 Y one64) (aop .add .f64 Y one64) = 0 := fopN_ex (lnS_bd hmid)
          have a4 : ∀ w, fopR .mul .f64 (lnS Y) (lnS Y) w = lnU Y := fun w => fopR_ex (lnU_bd hmid) w
          have a4n : fopN .mul .f64 (lnS Y) (lnS Y) = 0 := fopN_ex (lnU_bd hmid)
          have a5 : ∀ w, fopR .mul .f64 (lnS Y) (lnTo (lnU Y) 13) w = lnSQ Y := fun w => fopR_ex (lnSQ_bd hmid) w
          have a5n : fopN .mul .f64 (lnS Y) (lnTo (lnU Y) 13) = 0 := fopN_ex (lnSQ_bd hmid)
          have a6 : ∀ w, fopR .mul .f64 4611686018427387904 (lnSQ Y) w = lnSQ2 Y := fun w => fopR_ex (lnSQ2_bd hmid) w
          have a6n : fopN .mul .f64 4611686018427387904 (lnSQ Y) = 0 := fopN_ex (lnSQ2_bd hmid)
          have hzb := lnE_bd (e := z) (by omega) (by omega)
          have a7 : ∀ w, fopR .mul .f64 (floatOfInt .f64 z) 4604418534313441775 w = lnE z := fun w => fopR_ex hzb w
          have a7n : fopN .mul .f64 (floatOfInt .f64 z) 4604418534313441775 = 0 := fopN_ex hzb
          have hsum : bd (aop .add .f64 (lnSQ2 Y) (lnE z)) 9 := bd_add (lnSQ2_bd hmid) hzb (by omega) (by omega) (by omega)
          have a8 : ∀ w, fopR .add .f64 (lnSQ2 Y) (lnE z) w = lnW r := fun w => by rw [hv]; exact fopR_ex hsum w
          have a8n : fopN .add .f64 (lnSQ2 Y) (lnE z) = 0 := fopN_ex hsum
          have o1 : one64 = 4607182418800017408 := rfl
          rw [o1] at a1 a1n a2 a2n a3 a3n
          have hU := Lib.hid (lnU_bd hmid)
          clear i1 i2 i3 hI hlt hmid hv e1 e2 hsum hzb o1 hr1 hr2
          generalize lnS Y = S at *
          generalize lnU Y = u at *
          generalize lnSQ Y = sq at *
          generalize lnSQ2 Y = sq2 at *
          generalize lnE z = le at *
          generalize hlw : lnW r = lw at *
          have Hlw := Lib.hid hlw
          clear hlw
          go_wp2
          clear a1 a1n a2 a2n a3 a3n a4 a4n t1
          go_loop [6, 7] (fun q k => ∃ i : Nat, i ≤ 13 ∧ k = .int .i64 (25 - 2 * (i : Int)) ∧ q = .float .f64 (lnTo u i)) (fun _ k => (intOf k + 1).toNat)
          case atStart => exact ⟨0, by omega, rfl, rfl⟩
          case round =>
            obtain ⟨i, hi, rfl, rfl⟩ := hrel
            by_cases hlt : i < 13
            · have hb := lnTo_bd hU.out i hi
              have hk : floatOfInt .f64 (25 - 2 * (i : Int)) = ks i := rfl
              have q1 := fun w => fopR_ex (inv_bd hlt) w
              have q1n := fopN_ex (inv_bd hlt)
              have o1 : one64 = 4607182418800017408 := rfl
              rw [o1] at q1 q1n
              have q2 := fun w => fopR_ex (ln_mul hU.out hb) w
              have q2n := fopN_ex (ln_mul hU.out hb)
              have q3 : ∀ w, fopR .add .f64 (aop .quo .f64 4607182418800017408 (ks i)) (aop .mul .f64 u (lnTo u i)) w = lnTo u (i + 1) := fun w => fopR_ex (ln_step hU.out hb hlt) w
              have q3n : fopN .add .f64 (aop .quo .f64 4607182418800017408 (ks i)) (aop .mul .f64 u (lnTo u i)) = 0 := fopN_ex (ln_step hU.out hb hlt)
              have e8 := Lib.hid (show 25 - 2 * (i : Int) - 2 = 25 - 2 * ((i + 1 : Nat) : Int) by omega)
              clear hb o1
              go_wp2
              go_round
              case rel => exact ⟨i + 1, by omega, congrArg (Value.int .i64) e8.out, rfl⟩
              case measure => simp [intOf]; omega
            · have e : i = 13 := by omega
              subst e
              clear hlt
              go_wp2
              go_ret
              exact ⟨ret_w64 Hlw.out.symm, rfl⟩
end Go.Proofs.Ytldaamgohdnjnaa
