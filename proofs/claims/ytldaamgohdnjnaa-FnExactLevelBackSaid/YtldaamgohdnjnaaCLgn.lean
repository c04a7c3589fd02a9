/-
  LogNumber on both sides.
-/
import Derived.Test.YtldaamgohdnjnaaCLgs
import Derived.Test.YtldaamgohdnjnaaCSit
namespace Go.Proofs.Ytldaamgohdnjnaa
open Ieee Go.RowKit
set_option linter.unusedVariables false

theorem nan_rung32 (x : Nat) : isN .f32 x = decide (2139095040 < x % 2147483648) := by
  rw [isN_iff, show (FloatKind.format .f32).signWeight = 2147483648 from s_sign, show (FloatKind.format .f32).infRung = 2139095040 from s_inf]
/-- What a 32-bit number is to the logarithm. -/
inductive LogKind (x : Nat) : Prop where
  | nan (h : isN .f32 x = true)
  | neg (h : isN .f32 x = false) (o : (FloatKind.format .f64).order (awide x) 0 = some Ordering.lt) (q : x / 2147483648 % 2 = 1)
  | zero (h : isN .f32 x = false) (o : (FloatKind.format .f64).order (awide x) 0 = some Ordering.eq) (q : x % 2147483648 = 0)
  | inf (h : isN .f32 x = false) (e : awide x = 9218868437227405312) (e2 : cn .f32 x = 2139095040) (q : x % 2147483648 = 2139095040)
  | pos (h : isN .f32 x = false) (r : rng (awide x))
theorem logKind (x : Nat) (hx : x < 4294967296) : LogKind x := by
  cases hN : isN .f32 x
  · obtain ⟨h0, h1, h2, h3, h4, h5⟩ := awide_rung x hN
    have hN2 := hN
    rw [nan_rung32] at hN2
    have hr := of_decide_eq_false hN2
    have hN64 : isN .f64 (awide x) = false := by rw [isN_awide]; exact hN
    have hsg : awide x / 9223372036854775808 % 2 = x / 2147483648 % 2 := by
      have a1 : awide x / 9223372036854775808 % 2 < 2 := Nat.mod_lt _ (by omega)
      have a2 : x / 2147483648 % 2 < 2 := Nat.mod_lt _ (by omega)
      generalize awide x / 9223372036854775808 % 2 = a at *
      generalize x / 2147483648 % 2 = b at *
      by_cases c : a = 1
      · rw [c] at h0; have := eq_of_beq h0.symm; omega
      · have e : (a == 1) = false := beq_eq_false_iff_ne.2 c
        rw [e] at h0
        have := beq_eq_false_iff_ne.1 h0.symm
        omega
    by_cases hz : x % 2147483648 = 0
    · refine .zero hN ?_ hz
      rw [order64 _ _ hN64 (by decide +kernel), h3 hz]
      simp [compare, compareOfLessAndEq]
    · have hpos : 0 < awide x % 9223372036854775808 := by
        by_cases a : x % 2147483648 < 8388608
        · exact (h4 a (by omega)).1
        · by_cases b : x % 2147483648 = 2139095040
          · rw [h5 b]; omega
          · rw [h2 (by omega) (by omega)]; omega
      by_cases hs : x / 2147483648 % 2 = 1
      · refine .neg hN ?_ hs
        rw [order64 _ _ hN64 (by decide +kernel), if_pos (by omega)]
        simp only [compare, compareOfLessAndEq]
        rw [if_pos (by simp; omega)]
      · have hlow : awide x % 9223372036854775808 = awide x := by
          rw [Nat.mod_eq_of_lt]; omega
        by_cases hi : x % 2147483648 = 2139095040
        · refine .inf hN (by rw [← hlow]; exact h5 hi) (by rw [cn_num hN]; omega) hi
        · refine .pos hN ⟨?_, ?_⟩
          · rcases single_read x with ⟨s, m, p, hrd, hm, hp, hp2, _⟩ | ⟨s, hrd⟩ | ⟨s, t, hrd⟩
            · have haw : awide x = double.nearest s m p := by unfold awide; rw [hN, if_neg (by simp), hrd]; rfl
              have hm0 : 0 < m := by
                rcases Nat.eq_zero_or_pos m with h | h
                · subst h
                  have : double.nearest s 0 p = double.word s 0 := by unfold Format.nearest; rw [if_pos rfl]
                  rw [haw, this] at hpos
                  obtain ⟨a, _, _⟩ := word_low s (r := 0) (by omega)
                  omega
                · exact h
              have hg := nearest_ge s m p (-149) hm0 (by omega) (by omega) (by omega)
              rw [← haw, hlow] at hg
              exact hg
            · exfalso
              unfold Format.read at hrd
              simp only [s_sign, s_binade, s_inf] at hrd
              by_cases a : x % 2147483648 < 8388608
              · rw [if_pos a] at hrd; cases hrd
              · rw [if_neg a, if_pos (by omega)] at hrd; cases hrd
            · exfalso
              unfold isN at hN; rw [show (FloatKind.format .f32) = single from rfl, hrd] at hN; cases hN
          · rw [← hlow]
            by_cases a : x % 2147483648 < 8388608
            · have := (h4 a (by omega)).2; omega
            · rw [h2 (by omega) (by omega)]; omega
  · exact .nan hN
/-- The logarithm of a 32-bit number. -/
def log32 (x : Nat) : Nat :=
  if isN .f32 x then nanOf .f32
  else if lt64 (awide x) 0 then nanOf .f32
  else if double.order (awide x) 0 == some .eq then 4286578688
  else if awide x = 9218868437227405312 then 2139095040
  else anar (lnW (awide x))
theorem lnW_bd {r : Nat} (h : rng r) : bd (lnW r) 9 := by
  obtain ⟨h1, h2⟩ := h
  have hm : mid (lred r) ∧ -200 ≤ lexp r ∧ lexp r < 200 := by
    unfold mid lred lexp w75 w15
    refine ⟨⟨?_, ?_⟩, ?_, ?_⟩ <;> omega
  unfold lnW
  exact bd_add (lnSQ2_bd hm.1) (lnE_bd hm.2.1 hm.2.2) (by omega) (by omega) (by omega)

theorem log_nan {x : Nat} (h : isN .f32 x = true) : log32 x = nanOf .f32 := by unfold log32; rw [if_pos h]
theorem log_neg {x : Nat} (h : isN .f32 x = false) (o : (FloatKind.format .f64).order (awide x) 0 = some Ordering.lt) : log32 x = nanOf .f32 := by
  unfold log32; rw [h, if_neg (by simp), if_pos (by show ((FloatKind.format .f64).order (awide x) 0 == _) = true; rw [o]; rfl)]
theorem log_zero {x : Nat} (h : isN .f32 x = false) (o : (FloatKind.format .f64).order (awide x) 0 = some Ordering.eq) : log32 x = 4286578688 := by
  unfold log32
  rw [h, if_neg (by simp), if_neg (by show ¬ ((FloatKind.format .f64).order (awide x) 0 == _) = true; rw [o]; decide), if_pos (by show ((FloatKind.format .f64).order (awide x) 0 == _) = true; rw [o]; rfl)]
theorem log_inf {x : Nat} (h : isN .f32 x = false) (e : awide x = 9218868437227405312) : log32 x = 2139095040 := by
  unfold log32
  rw [h, if_neg (by simp), e, if_neg (by decide +kernel), if_neg (by decide +kernel), if_pos rfl]
theorem rng_gt {y : Nat} (r : rng y) : (FloatKind.format .f64).order y 0 = some Ordering.gt := by
  obtain ⟨h1, h2⟩ := r
  rw [pos_order (by omega) (by omega)]; simp only [compare, compareOfLessAndEq]; rw [if_neg (by omega), if_neg (by omega)]
theorem rng_max {y : Nat} (r : rng y) : (FloatKind.format .f64).order y 9218868437227405311 = some Ordering.lt := by
  obtain ⟨h1, h2⟩ := r
  rw [pos_order (by omega) (by omega)]; simp only [compare, compareOfLessAndEq]; rw [if_pos (by omega)]
theorem log_pos {x : Nat} (h : isN .f32 x = false) (r : rng (awide x)) : log32 x = anar (lnW (awide x)) := by
  have o := rng_gt r
  unfold log32
  rw [h, if_neg (by simp), if_neg (by show ¬ ((FloatKind.format .f64).order (awide x) 0 == _) = true; rw [o]; decide), if_neg (by show ¬ ((FloatKind.format .f64).order (awide x) 0 == _) = true; rw [o]; decide), if_neg (by have := r.2; omega)]
theorem nar_neg_inf (w : World) : narR 18442240474082181120 w = 4286578688 := by
  unfold narR
  rw [show floatToFloatBits .f64 18442240474082181120 .f32 = some 4286578688 by decide +kernel]; rfl
theorem nar_inf (w : World) : narR 9218868437227405312 w = 2139095040 := by
  unfold narR
  rw [show floatToFloatBits .f64 9218868437227405312 .f32 = some 2139095040 by decide +kernel]; rfl
theorem nar_nanc (w : World) : cn .f32 (narR 9221120237041090561 w) = nanOf .f32 := (cn_narR _ _ (narOk_nan (by decide +kernel))).trans (by decide +kernel)
theorem nar_log {y : Nat} (r : rng y) (w : World) : cn .f32 (narR (lnW y) w) = anar (lnW y) := (cn_narR _ _ (narOk_bd (lnW_bd r) (by omega))).trans (by rw [anar_cn])
theorem wide_nan {x : Nat} (h : isN .f32 x = true) (w : World) : isN .f64 (wideR x w) = true := by
  rw [← isN_cn, cn_wideR, awide_cn, isN_awide]; exact h

theorem specLogNumber_any (x : Nat) (w : World) (hx : x < 4294967296) : Calls Try.prog 133 #[.float .f32 x] w (RetF .f32 (log32 x) w) := by
  rcases logKind x hx with h | ⟨h, o, _⟩ | ⟨h, o, _⟩ | ⟨h, e, e2, _⟩ | ⟨h, r⟩
  · have Hv := Lib.hid (log_nan h)
    have o1 : ∀ w, (FloatKind.format .f64).order (wideR x w) (wideR x w) = none := fun w => by rw [order_self, wide_nan h w]; rfl
    clear h
    go_enter Try.func133, Try.ntmps133
    go_wp2
    go_ret
    exact ⟨_, _, by rw [Hv.out]; exact nar_nanc _, rfl, rfl⟩
  · have Hv := Lib.hid (log_neg h o)
    have o1 : (FloatKind.format .f64).order (awide x) (awide x) = some Ordering.eq := by rw [order_self, isN_awide, h]; rfl
    have hw := fun w => wideR_num h w
    clear h
    generalize awide x = y at *
    go_enter Try.func133, Try.ntmps133
    go_wp2
    go_ret
    exact ⟨_, _, by rw [Hv.out]; exact nar_nanc _, rfl, rfl⟩
  · have Hv := Lib.hid (log_zero h o)
    have o1 : (FloatKind.format .f64).order (awide x) (awide x) = some Ordering.eq := by rw [order_self, isN_awide, h]; rfl
    have hw := fun w => wideR_num h w
    clear h
    generalize awide x = y at *
    go_enter Try.func133, Try.ntmps133
    go_wp2
    go_ret
    exact ⟨_, _, by rw [Hv.out]; exact (congrArg (cn .f32) (nar_neg_inf _)).trans (by decide +kernel), rfl, rfl⟩
  · have Hv := Lib.hid (log_inf h e)
    have hw := fun w => (wideR_num h w).trans e
    have o1 : (FloatKind.format .f64).order 9218868437227405312 9218868437227405312 = some Ordering.eq := by decide +kernel
    have o2 : (FloatKind.format .f64).order 9218868437227405312 0 = some Ordering.gt := by decide +kernel
    have o3 : (FloatKind.format .f64).order 9218868437227405312 9218868437227405311 = some Ordering.gt := by decide +kernel
    clear h e e2
    go_enter Try.func133, Try.ntmps133
    go_wp2
    go_ret
    exact ⟨_, _, by rw [Hv.out]; exact (congrArg (cn .f32) (nar_inf _)).trans (by decide +kernel), rfl, rfl⟩
  · have Hv := Lib.hid (log_pos h r)
    have hw := fun w => wideR_num h w
    have R := Lib.hid r
    clear h r
    generalize awide x = y at *
    go_enter Try.func133, Try.ntmps133
    go_wp2_with (first | (go_at_call 165; refine (specLog_any _ _ R.out).mono ?_; rintro e w' ⟨rfl, rfl⟩) | (go_at_call 164; go_in))
    go_ret
    exact ⟨_, _, by rw [Hv.out]; exact nar_log R.out _, rfl, rfl⟩

theorem implLogNumber_any (x : Nat) (w : World) (hx : x < 4294967296) : Calls Try.prog 166 #[.float .f32 x] w (RetF .f32 (log32 x) w) := by
  rcases logKind x hx with h | ⟨h, o, _⟩ | ⟨h, o, _⟩ | ⟨h, e, e2, _⟩ | ⟨h, r⟩
  · have Hv := Lib.hid (log_nan h)
    have o1 : ∀ w, (FloatKind.format .f64).order (wideR x w) (wideR x w) = none := fun w => by rw [order_self, wide_nan h w]; rfl
    clear h
    go_enter Try.func166, Try.ntmps166
    go_wp2
    go_ret
    exact ⟨_, _, by rw [Hv.out]; exact nar_nanc _, rfl, rfl⟩
  · have Hv := Lib.hid (log_neg h o)
    have o1 : (FloatKind.format .f64).order (awide x) (awide x) = some Ordering.eq := by rw [order_self, isN_awide, h]; rfl
    have hw := fun w => wideR_num h w
    clear h
    generalize awide x = y at *
    go_enter Try.func166, Try.ntmps166
    go_wp2
    go_ret
    exact ⟨_, _, by rw [Hv.out]; exact nar_nanc _, rfl, rfl⟩
  · have Hv := Lib.hid (log_zero h o)
    have o1 : (FloatKind.format .f64).order (awide x) (awide x) = some Ordering.eq := by rw [order_self, isN_awide, h]; rfl
    have hw := fun w => wideR_num h w
    clear h
    generalize awide x = y at *
    go_enter Try.func166, Try.ntmps166
    go_wp2
    go_ret
    exact ⟨_, _, by rw [Hv.out]; exact (congrArg (cn .f32) (nar_neg_inf _)).trans (by decide +kernel), rfl, rfl⟩
  · have Hv := Lib.hid ((e2).trans (log_inf h e).symm)
    have hw := fun w => (wideR_num h w).trans e
    have o1 : (FloatKind.format .f64).order 9218868437227405312 9218868437227405312 = some Ordering.eq := by decide +kernel
    have o2 : (FloatKind.format .f64).order 9218868437227405312 0 = some Ordering.gt := by decide +kernel
    have o3 : (FloatKind.format .f64).order 9218868437227405312 9218868437227405311 = some Ordering.gt := by decide +kernel
    clear h e e2
    go_enter Try.func166, Try.ntmps166
    go_wp2
    go_ret
    exact ⟨_, _, Hv.out, rfl, rfl⟩
  · have Hv := Lib.hid (log_pos h r)
    have hw := fun w => wideR_num h w
    have o1 : (FloatKind.format .f64).order (awide x) (awide x) = some Ordering.eq := by rw [order_self, isN_awide, h]; rfl
    have o2 := rng_gt r
    have o3 := rng_max r
    have R := Lib.hid r
    clear h r
    generalize awide x = y at *
    go_enter Try.func166, Try.ntmps166
    go_wp2_with (first | (go_at_call 180; refine (implLog_any _ _ R.out).mono ?_; rintro e w' ⟨rfl, rfl⟩) | (go_at_call 167; go_in) | (go_at_call 168; go_in))
    go_ret
    exact ⟨_, _, by rw [Hv.out]; exact nar_log R.out _, rfl, rfl⟩
end Go.Proofs.Ytldaamgohdnjnaa
