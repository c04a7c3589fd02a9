/-
  The model's sine, and SineTurns on both sides.
-/
import Derived.Test.YtogdolnmcfemfabCSin
import Derived.Test.YtogdolnmcfemfabCIsf
namespace Go.Proofs.Ytogdolnmcfemfab
open Ieee Go.RowKit
set_option linter.unusedVariables false

def bigW : Nat := 4841369599423283200
theorem nan_rung64 (x : Nat) : isN .f64 x = decide (9218868437227405312 < x % 9223372036854775808) := by
  rw [isN_iff, show (FloatKind.format .f64).signWeight = 9223372036854775808 from d_sign, show (FloatKind.format .f64).infRung = 9218868437227405312 from d_inf]
theorem fin_f64 (x : Nat) : fin .f64 x = decide (x % 9223372036854775808 < 9218868437227405312) := by
  unfold fin
  rw [nan_rung64, isI_iff, show (FloatKind.format .f64).signWeight = 9223372036854775808 from d_sign, show (FloatKind.format .f64).infRung = 9218868437227405312 from d_inf]
  by_cases h : x % 9223372036854775808 < 9218868437227405312
  · rw [decide_eq_true h, decide_eq_false (by omega), decide_eq_false (by omega)]; rfl
  · rw [decide_eq_false h]
    by_cases h2 : x % 9223372036854775808 = 9218868437227405312
    · rw [decide_eq_true h2]; simp
    · rw [decide_eq_true (by omega)]; rfl
theorem order64 (x y : Nat) (hx : isN .f64 x = false) (hy : isN .f64 y = false) :
    (FloatKind.format .f64).order x y = some (compare (if x / 9223372036854775808 % 2 = 1 then -((x % 9223372036854775808 : Nat) : Int) else ((x % 9223372036854775808 : Nat) : Int)) (if y / 9223372036854775808 % 2 = 1 then -((y % 9223372036854775808 : Nat) : Int) else ((y % 9223372036854775808 : Nat) : Int))) := by
  rw [order_all .f64 x y hx hy]
  unfold sr
  rw [show (FloatKind.format .f64).signWeight = 9223372036854775808 from d_sign]
  simp only [beq_iff_eq]
theorem cmp_gt (a b : Int) : ((some (compare a b) == some Ordering.gt) || (some (compare a b) == some Ordering.eq)) = decide (b ≤ a) := by
  simp only [compare, compareOfLessAndEq]
  by_cases h : a < b
  · rw [if_pos h, decide_eq_false (by omega)]; rfl
  · rw [if_neg h, decide_eq_true (by omega)]; split <;> rfl
theorem cmp_lt (a b : Int) : ((some (compare a b) == some Ordering.lt) || (some (compare a b) == some Ordering.eq)) = decide (a ≤ b) := by
  simp only [compare, compareOfLessAndEq]
  by_cases h : a < b
  · rw [if_pos h, decide_eq_true (by omega)]; rfl
  · rw [if_neg h]
    by_cases h2 : a = b
    · rw [if_pos h2, decide_eq_true (by omega)]; rfl
    · rw [if_neg h2, decide_eq_false (by omega)]; rfl
theorem big_pos (y : Nat) (h : isN .f64 y = false) : (((FloatKind.format .f64).order y 4841369599423283200 == some Ordering.gt) || ((FloatKind.format .f64).order y 4841369599423283200 == some Ordering.eq)) = decide (y / 9223372036854775808 % 2 = 0 ∧ bigW ≤ y % 9223372036854775808) := by
  rw [order64 y _ h (by decide +kernel), cmp_gt]
  unfold bigW
  rw [decide_eq_decide]
  have : y / 9223372036854775808 % 2 = 0 ∨ y / 9223372036854775808 % 2 = 1 := by omega
  generalize y / 9223372036854775808 % 2 = q at *
  generalize y % 9223372036854775808 = r at *
  rcases this with rfl | rfl <;> simp <;> omega
theorem big_neg (y : Nat) (h : isN .f64 y = false) : (((FloatKind.format .f64).order y 14064741636278059008 == some Ordering.lt) || ((FloatKind.format .f64).order y 14064741636278059008 == some Ordering.eq)) = decide (y / 9223372036854775808 % 2 = 1 ∧ bigW ≤ y % 9223372036854775808) := by
  rw [order64 y _ h (by decide +kernel), cmp_lt]
  unfold bigW
  rw [decide_eq_decide]
  have : y / 9223372036854775808 % 2 = 0 ∨ y / 9223372036854775808 % 2 = 1 := by omega
  generalize y / 9223372036854775808 % 2 = q at *
  generalize y % 9223372036854775808 = r at *
  rcases this with rfl | rfl <;> simp <;> omega
theorem big_abs (y : Nat) (h : isN .f64 y = false) : (((FloatKind.format .f64).order (y % 9223372036854775808) 4841369599423283200 == some Ordering.gt) || ((FloatKind.format .f64).order (y % 9223372036854775808) 4841369599423283200 == some Ordering.eq)) = decide (bigW ≤ y % 9223372036854775808) := by
  rw [order_abs y _ (by omega) h (by decide +kernel), cmp_gt]
  unfold bigW
  rw [decide_eq_decide]
  omega
theorem small_bd {y : Nat} (h : ¬ bigW ≤ y % 9223372036854775808) : bd y 52 := by
  unfold bigW at h
  refine ⟨by omega, by omega, ?_⟩
  show _ ≤ 1075 * 4503599627370496
  omega

/-- Where the number is small. -/
def le2 (x : Nat) : Prop := (((FloatKind.format .f64).order x 4841369599423283200 == some Ordering.gt) || ((FloatKind.format .f64).order x 4841369599423283200 == some Ordering.eq)) = false ∧ (((FloatKind.format .f64).order x 14064741636278059008 == some Ordering.lt) || ((FloatKind.format .f64).order x 14064741636278059008 == some Ordering.eq)) = false
set_option maxHeartbeats 4000000 in
theorem specSmall_any (x : Nat) (w : World) (h : bd x 52) (hq : ∀ w, (FloatKind.format .f64).order (fopR .sub .f64 x x w) 0 = some Ordering.eq) (hle : le2 x) :
    Calls Try.prog 50 #[.float .f64 x] w fun e w' => e = .returned (.float .f64 (sineF (tpart x))) ∧ w = w' := by
  obtain ⟨t1, t2⟩ := hle
  have hci := fun w => run_toI (P := Try.prog) Try.underlying25 Try.underlying2 h w
  have hq2 : fopN .sub .f64 x x = 0 := fopN_ex (bd_sub h h (e := 53) (by omega) (by omega) (by omega))
  have p1 : ∀ w, fopR .sub .f64 x (floatOfInt .f64 (toI x)) w = tfrac x := fun w => fopR_ex (tfrac_bd h) w
  have p2 : fopN .sub .f64 x (floatOfInt .f64 (toI x)) = 0 := fopN_ex (tfrac_bd h)
  have p3 : ∀ w, fopR .add .f64 (tfrac x) 4607182418800017408 w = aop .add .f64 (tfrac x) one64 := fun w => fopR_ex (tadd_bd h) w
  have p4 : fopN .add .f64 (tfrac x) 4607182418800017408 = 0 := fopN_ex (tadd_bd h)
  have hp : tpart x = if lt64 (tfrac x) 0 then aop .add .f64 (tfrac x) one64 else tfrac x := rfl
  have hp1 : lt64 (tfrac x) 0 = ((FloatKind.format .f64).order (tfrac x) 0 == some Ordering.lt) := rfl
  have hf := tpart_bd h
  clear h
  generalize tpart x = f at *
  have hdz : ∀ w : World, w.drewN 0 = w := fun w => rfl
  have hz := sz_bd hf
  have hu := su_bd hf
  have hr := sr0_bd hf
  have m1 : ∀ w, fopR .mul .f64 (sfold f) 4618760256179416344 w = sz f := fun w => fopR_ex hz w
  have m2 : fopN .mul .f64 (sfold f) 4618760256179416344 = 0 := fopN_ex hz
  have m3 : ∀ w, fopR .mul .f64 (sz f) (sz f) w = su f := fun w => fopR_ex hu w
  have m4 : fopN .mul .f64 (sz f) (sz f) = 0 := fopN_ex hu
  have m5 : ∀ w, fopR .mul .f64 (sz f) (sinTo (su f) 8) w = sr0 f := fun w => fopR_ex hr w
  have m6 : fopN .mul .f64 (sz f) (sinTo (su f) 8) = 0 := fopN_ex hr
  have s1 : ∀ w, fopR .sub .f64 f 4602678819172646912 w = aop .sub .f64 f half64 := fun w => fopR_ex (fold1_sub hf) w
  have s2 : fopN .sub .f64 f 4602678819172646912 = 0 := fopN_ex (fold1_sub hf)
  have s3 : ∀ w, fopR .sub .f64 4602678819172646912 (sfold1 f) w = aop .sub .f64 half64 (sfold1 f) := fun w => fopR_ex (fold_sub hf) w
  have s4 : fopN .sub .f64 4602678819172646912 (sfold1 f) = 0 := fopN_ex (fold_sub hf)
  have hv : sineF f = if ge64 f half64 then Op.negFloat .f64 (sr0 f) else sr0 f := rfl
  have hv1 : sfold1 f = if ge64 f half64 then aop .sub .f64 f half64 else f := rfl
  have hv2 : sfold f = if gt64 (sfold1 f) quar64 then aop .sub .f64 half64 (sfold1 f) else sfold1 f := rfl
  have hU := Lib.hid hu
  have hg1 : ge64 f half64 = (((FloatKind.format .f64).order f 4602678819172646912 == some Ordering.gt) || ((FloatKind.format .f64).order f 4602678819172646912 == some Ordering.eq)) := rfl
  have hg2 : gt64 (sfold1 f) quar64 = ((FloatKind.format .f64).order (sfold1 f) 4598175219545276416 == some Ordering.gt) := rfl
  have hneg : ∀ y w, (Op.unary .neg (.float .f64 y)).run Try.prog w = .ok (.float .f64 (Op.negFloat .f64 y)) w := fun _ _ => rfl
  clear hf hz hu hr
  generalize sz f = z at *
  generalize su f = u at *
  generalize sr0 f = r at *
  generalize sineF f = rr at *
  generalize tfrac x = tf at *
  cases hl : lt64 tf 0 <;> cases ht : ge64 f half64 <;> cases ht2 : gt64 (sfold1 f) quar64
  all_goals
    rw [hl] at hp hp1
    rw [ht] at hv hv1 hg1
    rw [ht2] at hv2 hg2
    simp only [if_true, if_false, Bool.false_eq_true] at hv hv1 hv2 hp
    rw [hv1] at hg2 s3 s4 hv2
    rw [hv2] at m1 m2
    have hp1' := hp1.symm
    have hg1' := hg1.symm
    have hg2' := hg2.symm
    have Hv := Lib.hid hv
    clear hl ht ht2 hv hv1 hv2 hg1 hg2 hp1
    subst hp
    go_enter Try.func50, Try.ntmps50
    go_wp2_with fail
    clear m1 m2 m3 m4 s1 s2 s3 s4 hg1' hg2' hp1' p1 p2 p3 p4 hci hq hq2 t1 t2
    go_loop [7, 8] (fun p k => ∃ i : Nat, i ≤ 8 ∧ k = .int .i64 ((8 - i : Nat) : Int) ∧ p = .float .f64 (sinTo u i)) (fun _ k => (intOf k).toNat)
    case atStart => exact ⟨0, by omega, rfl, rfl⟩
    case round =>
      obtain ⟨i, hi, rfl, rfl⟩ := hrel
      by_cases hlt : i < 8
      · have hb := sin_bd hU.out i hi
        have hd : floatOfInt .f64 (2 * ((8 - i : Nat) : Int) * (2 * ((8 - i : Nat) : Int) + 1)) = dk (8 - i) := rfl
        have q1 := fun w => fopR_ex (sin_mul hU.out hi hb) w
        have q1n := fopN_ex (sin_mul hU.out hi hb)
        have q2 := fun w => fopR_ex (sin_quo hU.out hlt hb) w
        have q2n := fopN_ex (sin_quo hU.out hlt hb)
        have q3 : ∀ w, fopR .sub .f64 4607182418800017408 (aop .quo .f64 (aop .mul .f64 u (sinTo u i)) (dk (8 - i))) w = sinTo u (i + 1) := fun w => fopR_ex (sin_sub hU.out hlt hb) w
        have q3n : fopN .sub .f64 4607182418800017408 (aop .quo .f64 (aop .mul .f64 u (sinTo u i)) (dk (8 - i))) = 0 := fopN_ex (sin_sub hU.out hlt hb)
        have e8 : ((8 - i : Nat) : Int) - 1 = ((8 - (i + 1) : Nat) : Int) := by omega
        have E8 := Lib.hid e8
        have b1 : (1 : Int) ≤ ((8 - i : Nat) : Int) := by omega
        have b2 : ((8 - i : Nat) : Int) ≤ 8 := by omega
        have b3 : 0 ≤ 2 * ((8 - i : Nat) : Int) * (2 * ((8 - i : Nat) : Int) + 1) ∧ 2 * ((8 - i : Nat) : Int) * (2 * ((8 - i : Nat) : Int) + 1) ≤ 272 := by
          refine ⟨Int.mul_nonneg (by omega) (by omega), ?_⟩
          have := Int.mul_le_mul (show 2 * ((8 - i : Nat) : Int) ≤ 16 by omega) (show 2 * ((8 - i : Nat) : Int) + 1 ≤ 17 by omega) (by omega) (by omega)
          omega
        clear hb e8
        generalize dk (8 - i) = D at *
        generalize ((8 - i : Nat) : Int) = j at *
        go_wp2
        go_round
        case rel => exact ⟨i + 1, by omega, congrArg (Value.int .i64) E8.out, rfl⟩
        case measure => simp [intOf]; omega
      · have e : i = 8 := by omega
        subst e
        clear hlt
        go_wp2
        go_ret
        exact ⟨ret_f64 Hv.out.symm, rfl⟩
/-- The sine of a 64-bit number of turns. -/
def sineV (y : Nat) : Nat := if fin .f64 y then (if bigW ≤ y % 9223372036854775808 then 0 else sineF (tpart y)) else nanOf .f64
set_option maxHeartbeats 1000000 in
theorem specSine_any (x : Nat) (w : World) :
    Calls Try.prog 50 #[.float .f64 x] w (RetF .f64 (sineV x) w) := by
  have hfin := fun w => sub_self .f64 x w
  have hV : sineV x = if fin .f64 x then (if bigW ≤ x % 9223372036854775808 then 0 else sineF (tpart x)) else nanOf .f64 := rfl
  have hN : fin .f64 x = true → isN .f64 x = false := fun h => by
    unfold fin at h
    cases h2 : isN .f64 x
    · rfl
    · rw [h2] at h; cases h
  cases hx : fin .f64 x
  · rw [hx] at hfin
    rw [hx, if_neg (by simp)] at hV
    have hfin' : ∀ w, ((FloatKind.format .f64).order (fopR .sub .f64 x x w) 0 != some Ordering.eq) = true := fun w => by rw [bne, hfin w]; rfl
    have HV := Lib.hid hV
    clear hV hN hfin hx
    go_enter Try.func50, Try.ntmps50
    go_wp2
    go_ret
    exact ⟨_, _, by rw [HV.out]; exact cn_nan (by decide +kernel), rfl, rfl⟩
  · have hN := hN hx
    rw [hx] at hfin
    rw [hx, if_pos rfl] at hV
    have hfin' : ∀ w, (FloatKind.format .f64).order (fopR .sub .f64 x x w) 0 = some Ordering.eq := fun w => eq_of_beq (hfin w)
    have t1 := big_pos x hN
    have t2 := big_neg x hN
    by_cases hb : bigW ≤ x % 9223372036854775808
    · rw [if_pos hb] at hV
      have HV := Lib.hid hV
      have hsg : x / 9223372036854775808 % 2 = 0 ∨ x / 9223372036854775808 % 2 = 1 := by omega
      rcases hsg with hsg | hsg
      · rw [decide_eq_true ⟨hsg, hb⟩] at t1
        clear hV hN hfin hx t2 hb hsg
        go_enter Try.func50, Try.ntmps50
        go_wp2
        go_ret
        exact ⟨_, _, by rw [HV.out]; decide +kernel, rfl, rfl⟩
      · rw [decide_eq_false (fun h => by omega)] at t1
        rw [decide_eq_true ⟨hsg, hb⟩] at t2
        clear hV hN hfin hx hb hsg
        go_enter Try.func50, Try.ntmps50
        go_wp2
        go_ret
        exact ⟨_, _, by rw [HV.out]; decide +kernel, rfl, rfl⟩
    · rw [if_neg hb] at hV
      rw [decide_eq_false (fun h => hb h.2)] at t1 t2
      refine (specSmall_any x w (small_bd hb) hfin' ⟨t1, t2⟩).mono ?_
      rintro e w' ⟨rfl, rfl⟩
      exact ⟨_, 0, by rw [hV]; exact cn_num (bd_nan (sineF_bd (tpart_bd (small_bd hb)))), rfl, rfl⟩
end Go.Proofs.Ytogdolnmcfemfab
