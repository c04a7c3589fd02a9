/-
  AngleTurns on both sides.
-/
import Derived.Test.YtogdolnmcfemfabCAgw
namespace Go.Proofs.Ytogdolnmcfemfab
open Ieee Go.RowKit
set_option linter.unusedVariables false

def an32 (y x : Nat) : Nat := anar (an3 (awide y % 9223372036854775808) (awide x % 9223372036854775808) ((FloatKind.format .f64).order (awide x) 0 == some Ordering.lt) ((FloatKind.format .f64).order (awide y) 0 == some Ordering.lt))
/-- The angle of a point, narrowed. -/
def angle32 (y x : Nat) : Nat := if fin .f32 y && fin .f32 x then (if y % 2147483648 = 0 ∧ x % 2147483648 = 0 then 0 else an32 y x) else nanOf .f32
theorem coord_of {y : Nat} (hy : y < 4294967296) (h : fin .f32 y = true) : Coord (awide y) := by
  obtain ⟨h1, _, _, h4⟩ := fin_wide hy h
  exact ⟨awide_lt y, by rw [isN_awide]; exact h1, h4⟩
theorem an32_bd {y x : Nat} (hy : y < 4294967296) (hx : x < 4294967296) (fy : fin .f32 y = true) (fx : fin .f32 x = true) (h0 : ¬ (y % 2147483648 = 0 ∧ x % 2147483648 = 0)) :
    bd (tan0 (awide y % 9223372036854775808) (awide x % 9223372036854775808)) 1 :=
  tan0_bd (coord_of hy fy).low (coord_of hx fx).low (fun h => h0 ⟨(fin_wide hy fy).2.2.1.1 h.1, (fin_wide hx fx).2.2.1.1 h.2⟩)
theorem nar_an {y x : Nat} (hy : y < 4294967296) (hx : x < 4294967296) (fy : fin .f32 y = true) (fx : fin .f32 x = true) (h0 : ¬ (y % 2147483648 = 0 ∧ x % 2147483648 = 0)) (w : World) :
    cn .f32 (narR (an3 (awide y % 9223372036854775808) (awide x % 9223372036854775808) ((FloatKind.format .f64).order (awide x) 0 == some Ordering.lt) ((FloatKind.format .f64).order (awide y) 0 == some Ordering.lt)) w) = an32 y x :=
  (cn_narR _ _ (narOk_bd (an3_bd (an32_bd hy hx fy fx h0)) (by omega))).trans (by rw [anar_cn]; rfl)
theorem wide_self {y : Nat} (h : fin .f32 y = false) (w w' : World) : ((FloatKind.format .f64).order (fopR .sub .f64 (wideR y w) (wideR y w) w') 0 != some Ordering.eq) = true := by
  rw [bne, sub_self .f64 (wideR y w) w', fin_wideR, h]; rfl

theorem specAngleTurns_any (y x : Nat) (w : World) (hy : y < 4294967296) (hx : x < 4294967296) :
    Calls Try.prog 36 #[.float .f32 y, .float .f32 x] w (RetF .f32 (angle32 y x) w) := by
  have hdz : ∀ w : World, w.drewN 0 = w := fun w => rfl
  cases fy : fin .f32 y
  · have hv : angle32 y x = nanOf .f32 := by unfold angle32; rw [fy]; rfl
    have Hv := Lib.hid hv
    have hs := fun w w' => wide_self fy w w'
    clear hv fy hy hx
    go_enter Try.func36, Try.ntmps36
    go_wp2
    go_ret
    exact ⟨_, _, by rw [Hv.out]; exact nar_nanc _, rfl, rfl⟩
  · have cy := coord_of hy fy
    have hwy := fun w => wideR_num (fin_wide hy fy).1 w
    have hny : wideN y = 0 := by unfold wideN; rw [(fin_wide hy fy).1]; rfl
    have y1 := cy.self
    have y2 := cy.selfN
    cases fx : fin .f32 x
    · have hv : angle32 y x = nanOf .f32 := by unfold angle32; rw [fy, fx]; rfl
      have Hv := Lib.hid hv
      have hs := fun w w' => wide_self fx w w'
      clear hv fy fx hy hx cy
      generalize awide y = Y at *
      go_enter Try.func36, Try.ntmps36
      go_wp2
      go_ret
      exact ⟨_, _, by rw [Hv.out]; exact nar_nanc _, rfl, rfl⟩
    · have cx := coord_of hx fx
      have hwx := fun w => wideR_num (fin_wide hx fx).1 w
      have hnx : wideN x = 0 := by unfold wideN; rw [(fin_wide hx fx).1]; rfl
      by_cases h0 : y % 2147483648 = 0 ∧ x % 2147483648 = 0
      · have hv : angle32 y x = 0 := by unfold angle32; rw [fy, fx, Bool.and_self, if_pos rfl, if_pos h0]
        have Hv := Lib.hid hv
        have x1 := cx.self
        have x2 := cx.selfN
        have zy := eq_zero64 (awide y) cy.num
        have zx := eq_zero64 (awide x) cx.num
        rw [decide_eq_true ((fin_wide hy fy).2.2.1.2 h0.1)] at zy
        rw [decide_eq_true ((fin_wide hx fx).2.2.1.2 h0.2)] at zx
        have zy' := eq_of_beq zy
        have zx' := eq_of_beq zx
        clear hv fy fx hy hx cy cx h0 zy zx
        generalize awide y = Y at *
        generalize awide x = X at *
        go_enter Try.func36, Try.ntmps36
        go_wp2
        go_ret
        exact ⟨_, _, by rw [Hv.out]; exact (congrArg (cn .f32) (nar_zero _)).trans (by decide +kernel), rfl, rfl⟩
      · have hv : angle32 y x = an32 y x := by unfold angle32; rw [fy, fx, Bool.and_self, if_pos rfl, if_neg h0]
        have Hn := Lib.hid (fun w => (nar_an hy hx fy fx h0 w).trans hv.symm)
        have h0' : ¬ (awide y % 9223372036854775808 = 0 ∧ awide x % 9223372036854775808 = 0) := fun h => h0 ⟨(fin_wide hy fy).2.2.1.1 h.1, (fin_wide hx fx).2.2.1.1 h.2⟩
        have HS := Lib.hid (fun w => specAngle_any (awide y) (awide x) w cy cx h0')
        clear hv fy fx hy hx cy cx h0 y1 y2 h0'
        generalize awide y = Y at *
        generalize awide x = X at *
        generalize an3 (Y % 9223372036854775808) (X % 9223372036854775808) ((FloatKind.format .f64).order X 0 == some Ordering.lt) ((FloatKind.format .f64).order Y 0 == some Ordering.lt) = r at *
        go_enter Try.func36, Try.ntmps36
        go_wp2_with (first | (go_at_call 54; refine (HS.out _).mono ?_; rintro e w' ⟨n, rfl, rfl⟩) | (go_at_call 48; go_in))
        go_ret
        exact ⟨_, _, Hn.out _, rfl, rfl⟩

set_option maxHeartbeats 4000000 in
theorem implAngleTurns_any (y x : Nat) (w : World) (hy : y < 4294967296) (hx : x < 4294967296) :
    Calls Try.prog 19 #[.float .f32 y, .float .f32 x] w (RetF .f32 (angle32 y x) w) := by
  have hdz : ∀ w : World, w.drewN 0 = w := fun w => rfl
  cases fy : fin .f32 y
  · have hv : angle32 y x = nanOf .f32 := by unfold angle32; rw [fy]; rfl
    have Hv := Lib.hid hv
    have Fy := Lib.hid fy
    clear hv fy hy hx
    go_enter Try.func19, Try.ntmps19
    go_wp2_with (first | (go_at_call 37; refine (isFinite_any _ _).mono ?_; rw [Fy.out]; rintro e w' ⟨n, rfl, rfl⟩) | (go_at_call 30; go_in))
    go_ret
    exact ⟨_, _, by rw [Hv.out]; exact nar_nanc _, rfl, rfl⟩
  · have Fy := Lib.hid fy
    cases fx : fin .f32 x
    · have hv : angle32 y x = nanOf .f32 := by unfold angle32; rw [fy, fx]; rfl
      have Hv := Lib.hid hv
      have Fx := Lib.hid fx
      clear hv fy fx hy hx
      go_enter Try.func19, Try.ntmps19
      go_wp2_with fail
      refine (isFinite_any _ _).mono ?_
      rw [Fy.out]; rintro e w' ⟨n, rfl, rfl⟩
      go_wp2_with fail
      refine (isFinite_any _ _).mono ?_
      rw [Fx.out]; rintro e w' ⟨n2, rfl, rfl⟩
      go_wp2
      go_ret
      exact ⟨_, _, by rw [Hv.out]; exact nar_nanc _, rfl, rfl⟩
    · have Fx := Lib.hid fx
      have nY := (fin_wide hy fy).1
      have nX := (fin_wide hx fx).1
      have zy := eq_zero32 y nY
      have zx := eq_zero32 x nX
      by_cases h0 : y % 2147483648 = 0 ∧ x % 2147483648 = 0
      · have hv : angle32 y x = 0 := by unfold angle32; rw [fy, fx, Bool.and_self, if_pos rfl, if_pos h0]
        have Hv := Lib.hid hv
        rw [decide_eq_true h0.1] at zy
        rw [decide_eq_true h0.2] at zx
        have zy' := eq_of_beq zy
        have zx' := eq_of_beq zx
        clear hv fy fx hy hx h0 zy zx nX nY
        go_enter Try.func19, Try.ntmps19
        go_wp2_with fail
        refine (isFinite_any _ _).mono ?_
        rw [Fy.out]; rintro e w' ⟨n, rfl, rfl⟩
        go_wp2_with fail
        refine (isFinite_any _ _).mono ?_
        rw [Fx.out]; rintro e w' ⟨n2, rfl, rfl⟩
        go_wp2
        go_ret
        exact ⟨0, _, by rw [Hv.out]; decide +kernel, rfl, rfl⟩
      · have hv : angle32 y x = an32 y x := by unfold angle32; rw [fy, fx, Bool.and_self, if_pos rfl, if_neg h0]
        have Hn := Lib.hid (fun w => (nar_an hy hx fy fx h0 w).trans hv.symm)
        have hz : ((FloatKind.format .f32).order y 0 == some Ordering.eq) = false ∨ ((FloatKind.format .f32).order y 0 = some Ordering.eq ∧ ((FloatKind.format .f32).order x 0 == some Ordering.eq) = false) := by
          by_cases hy0 : y % 2147483648 = 0
          · right
            rw [decide_eq_true hy0] at zy
            rw [decide_eq_false (fun h => h0 ⟨hy0, h⟩)] at zx
            exact ⟨eq_of_beq zy, zx⟩
          · left; rw [decide_eq_false hy0] at zy; exact zy
        have ly : ((FloatKind.format .f32).order y 0 == some Ordering.lt) = ((FloatKind.format .f64).order (awide y) 0 == some Ordering.lt) := by
          rw [lt_zero32 y nY, lt_zero64 (awide y) (by rw [isN_awide]; exact nY), decide_eq_decide]
          obtain ⟨_, a, b, _⟩ := fin_wide hy fy
          rw [a, Ne, Ne, b]
        have lx : ((FloatKind.format .f32).order x 0 == some Ordering.lt) = ((FloatKind.format .f64).order (awide x) 0 == some Ordering.lt) := by
          rw [lt_zero32 x nX, lt_zero64 (awide x) (by rw [isN_awide]; exact nX), decide_eq_decide]
          obtain ⟨_, a, b, _⟩ := fin_wide hx fx
          rw [a, Ne, Ne, b]
        have hT := an32_bd hy hx fy fx h0
        have cY := coord_of hy fy
        have cX := coord_of hx fx
        have hwy := fun w => wideR_num nY w
        have hny : wideN y = 0 := by unfold wideN; rw [nY]; rfl
        have hwx := fun w => wideR_num nX w
        have hnx : wideN x = 0 := by unfold wideN; rw [nX]; rfl
        rw [← ly, ← lx] at Hn
        clear hv fy fx hy hx h0 zy zx nX nY ly lx
        generalize awide y = Y at *
        generalize awide x = X at *
        have aY := Lib.hid (fun w => abs_any Y w cY.lt)
        have aX := Lib.hid (fun w => abs_any X w cX.lt)
        have hAi := cY.inf
        have hBi := cX.inf
        have hgt : ((FloatKind.format .f64).order (Y % 9223372036854775808) (X % 9223372036854775808) == some Ordering.gt) = decide (X % 9223372036854775808 < Y % 9223372036854775808) := by
          rcases pos_cases hAi hBi with ⟨h, o⟩ | ⟨h, o⟩ | ⟨h, o⟩
          · rw [o, decide_eq_false (by omega)]; rfl
          · rw [o, decide_eq_false (by omega)]; rfl
          · rw [o, decide_eq_true h]; rfl
        have hmin := fun ts t w => run_min_pos (P := Try.prog) ts t (Y % 9223372036854775808) (X % 9223372036854775808) hAi hBi w
        have hmax := fun ts t w => run_max_pos (P := Try.prog) ts t (Y % 9223372036854775808) (X % 9223372036854775808) hAi hBi w
        clear cY cX hAi hBi
        generalize Y % 9223372036854775808 = A at *
        generalize X % 9223372036854775808 = B at *
        have hmm : aop .quo .f64 (min A B) (max A B) = tan0 A B := by
          unfold tan0
          split
          · rename_i h; rw [Nat.min_eq_right (by omega), Nat.max_eq_left (by omega)]
          · rename_i h; rw [Nat.min_eq_left (by omega), Nat.max_eq_right (by omega)]
        have qb : bd (aop .quo .f64 (min A B) (max A B)) 1 := by rw [hmm]; exact hT
        have q1 : ∀ w, fopR .quo .f64 (min A B) (max A B) w = tan0 A B := fun w => by rw [← hmm]; exact fopR_ex qb w
        have q1n : fopN .quo .f64 (min A B) (max A B) = 0 := fopN_ex qb
        have hS := Lib.hid (fun w => smallAngle_any (tan0 A B) w hT)
        have hn1 : an1 A B = if B < A then aop .sub .f64 quar64 (sA (tan0 A B)) else sA (tan0 A B) := rfl
        have b1 := an1s_bd hT
        have b2 := an2s_bd hT
        have c1 : ∀ w, fopR .sub .f64 4598175219545276416 (sA (tan0 A B)) w = aop .sub .f64 quar64 (sA (tan0 A B)) := fun w => fopR_ex b1 w
        have c1n : fopN .sub .f64 4598175219545276416 (sA (tan0 A B)) = 0 := fopN_ex b1
        have c2 : ∀ w, fopR .sub .f64 4602678819172646912 (an1 A B) w = aop .sub .f64 half64 (an1 A B) := fun w => fopR_ex b2 w
        have c2n : fopN .sub .f64 4602678819172646912 (an1 A B) = 0 := fopN_ex b2
        have hneg : ∀ y w, (Op.unary .neg (.float .f64 y)).run Try.prog w = .ok (.float .f64 (Op.negFloat .f64 y)) w := fun _ _ => rfl
        have fin1 : ∀ (xn yn : Bool) (v : Nat), v = (if yn then Op.negFloat .f64 (if xn then aop .sub .f64 half64 (an1 A B) else an1 A B) else (if xn then aop .sub .f64 half64 (an1 A B) else an1 A B)) → an3 A B xn yn = v := fun xn yn v h => by unfold an3 an2; rw [h]
        have Hf := Lib.hid fin1
        clear fin1 b1 b2 qb hmm hT
        generalize tan0 A B = t at *
        generalize sA t = sa at *
        generalize an1 A B = v1 at *
        generalize hxn : ((FloatKind.format .f32).order x 0 == some Ordering.lt) = xn at *
        generalize hyn : ((FloatKind.format .f32).order y 0 == some Ordering.lt) = yn at *
        generalize min A B = mn at *
        generalize max A B = mx at *
        by_cases hov : B < A
        · rw [if_pos hov] at hn1
          rw [decide_eq_true hov] at hgt
          rw [← hn1] at c1
          have hgt' := eq_of_beq hgt
          clear hov hgt hn1
          rcases hz with hz | ⟨hz, hz2⟩ <;> cases xn <;> cases yn
          any_goals (exfalso; rw [hz] at hyn; revert hyn; decide)
          all_goals
            first
              | (have hxn' := eq_of_beq hxn; clear hxn)
              | (have hxn' := hxn; clear hxn)
            first
              | (have hyn' := eq_of_beq hyn; clear hyn)
              | (have hyn' := hyn; clear hyn)
            go_enter Try.func19, Try.ntmps19
            go_wp2_with fail
            refine (isFinite_any _ _).mono ?_
            rw [Fy.out]; rintro e w' ⟨n, rfl, rfl⟩
            go_wp2_with fail
            refine (isFinite_any _ _).mono ?_
            rw [Fx.out]; rintro e w' ⟨n2, rfl, rfl⟩
            go_wp2_with fail
            refine (aY.out _).mono ?_
            rintro e w' ⟨n3, rfl, rfl⟩
            go_wp2_with fail
            refine (aX.out _).mono ?_
            rintro e w' ⟨n4, rfl, rfl⟩
            go_wp2_with fail
            refine (hS.out _).mono ?_
            rintro e w' ⟨rfl, rfl⟩
            go_wp2
            go_ret
            exact ⟨_, _, (congrArg (fun u => cn .f32 (narR u _)) (Hf.out _ _ _ (by rfl)).symm).trans (Hn.out _), rfl, rfl⟩
        · rw [if_neg hov] at hn1
          rw [decide_eq_false hov] at hgt
          subst hn1
          clear hov
          rcases hz with hz | ⟨hz, hz2⟩ <;> cases xn <;> cases yn
          any_goals (exfalso; rw [hz] at hyn; revert hyn; decide)
          all_goals
            first
              | (have hxn' := eq_of_beq hxn; clear hxn)
              | (have hxn' := hxn; clear hxn)
            first
              | (have hyn' := eq_of_beq hyn; clear hyn)
              | (have hyn' := hyn; clear hyn)
            go_enter Try.func19, Try.ntmps19
            go_wp2_with fail
            refine (isFinite_any _ _).mono ?_
            rw [Fy.out]; rintro e w' ⟨n, rfl, rfl⟩
            go_wp2_with fail
            refine (isFinite_any _ _).mono ?_
            rw [Fx.out]; rintro e w' ⟨n2, rfl, rfl⟩
            go_wp2_with fail
            refine (aY.out _).mono ?_
            rintro e w' ⟨n3, rfl, rfl⟩
            go_wp2_with fail
            refine (aX.out _).mono ?_
            rintro e w' ⟨n4, rfl, rfl⟩
            go_wp2_with fail
            refine (hS.out _).mono ?_
            rintro e w' ⟨rfl, rfl⟩
            go_wp2
            go_ret
            exact ⟨_, _, (congrArg (fun u => cn .f32 (narR u _)) (Hf.out _ _ _ (by rfl)).symm).trans (Hn.out _), rfl, rfl⟩
end Go.Proofs.Ytogdolnmcfemfab
