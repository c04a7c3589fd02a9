/-
  The sine of turns: the program's and the model's walk.
-/
import Derived.Test.YtogdolnmcfemfabExt
import Derived.Test.YtogdolnmcfemfabFls
namespace Go.Proofs.Ytogdolnmcfemfab
open Ieee Go.RowKit
set_option linter.unusedVariables false

theorem turnPart_any (x : Nat) (w : World) (h : bd x 52) :
    Calls Try.prog 34 #[.float .f64 x] w fun e w' => e = .returned (.float .f64 (tpart x)) ∧ w = w' := by
  have hci := fun w => run_toI (P := Try.prog) Try.underlying25 Try.underlying2 h w
  have hs : ∀ w, fopR .sub .f64 x (floatOfInt .f64 (toI x)) w = tfrac x := fun w => fopR_ex (tfrac_bd h) w
  have hn : fopN .sub .f64 x (floatOfInt .f64 (toI x)) = 0 := fopN_ex (tfrac_bd h)
  have ha : ∀ w, fopR .add .f64 (tfrac x) 4607182418800017408 w = aop .add .f64 (tfrac x) one64 := fun w => fopR_ex (tadd_bd h) w
  have hna : fopN .add .f64 (tfrac x) 4607182418800017408 = 0 := fopN_ex (tadd_bd h)
  have hdz : ∀ w : World, w.drewN 0 = w := fun w => rfl
  have hv : tpart x = if lt64 (tfrac x) 0 then aop .add .f64 (tfrac x) one64 else tfrac x := rfl
  cases ht : lt64 (tfrac x) 0
  · have ht2 : ((FloatKind.format .f64).order (tfrac x) 0 == some Ordering.lt) = false := ht
    rw [ht, if_neg (by simp)] at hv
    have Hv := Lib.hid hv
    clear hv ht h
    go_enter Try.func34, Try.ntmps34
    go_wp2
    go_ret
    exact ⟨by rw [Hv.out]; rfl, rfl⟩
  · have ht2 : (FloatKind.format .f64).order (tfrac x) 0 = some Ordering.lt := eq_of_beq ht
    rw [ht, if_pos rfl] at hv
    have Hv := Lib.hid hv
    clear hv ht h
    go_enter Try.func34, Try.ntmps34
    go_wp2
    go_ret
    exact ⟨by rw [Hv.out]; rfl, rfl⟩

/-- What float holds, as a number that goes down. -/
def fltOf : Value → Nat
  | .float _ b => b
  | _ => 0
theorem ret_f64 {a b : Nat} (h : a = b) : Ending.returned (.float .f64 a) = .returned (.float .f64 b) := by rw [h]

set_option maxHeartbeats 1000000 in
theorem implSine_any (x : Nat) (w : World) (h : bd x 52) :
    Calls Try.prog 32 #[.float .f64 x] w fun e w' => e = .returned (.float .f64 (sineF (tpart x))) ∧ w = w' := by
  have hf := tpart_bd h
  have hT := Lib.hid (fun w => turnPart_any x w h)
  clear h
  generalize tpart x = f at *
  have hdz : ∀ w : World, w.drewN 0 = w := fun w => rfl
  have hz := sz_bd hf
  have hu := su_bd hf
  have hr := sr0_bd hf
  have m1 : ∀ w, fopR .mul .f64 (sfold f) 4618760256179416344 w = sz f := fun w => fopR_ex hz w
  have m2 : fopN .mul .f64 (sfold f) 4618760256179416344 = 0 := fopN_ex hz
  have m3 : ∀ w, fopR .mul .f64 (sz f) (sz f) w = su f := fun w => fopR_ex hu w
  have m4 : fopN .mul .f64 (sz f) (sz f) = 0 := fopN_ex hu
  have m5 : ∀ w, fopR .mul .f64 (sz f) (sinTo (su f) 8) w = sr0 f := fun w => fopR_ex hr w
  have m6 : fopN .mul .f64 (sz f) (sinTo (su f) 8) = 0 := fopN_ex hr
  have s1 : ∀ w, fopR .sub .f64 f 4602678819172646912 w = aop .sub .f64 f half64 := fun w => fopR_ex (fold1_sub hf) w
  have s2 : fopN .sub .f64 f 4602678819172646912 = 0 := fopN_ex (fold1_sub hf)
  have s3 : ∀ w, fopR .sub .f64 4602678819172646912 (sfold1 f) w = aop .sub .f64 half64 (sfold1 f) := fun w => fopR_ex (fold_sub hf) w
  have s4 : fopN .sub .f64 4602678819172646912 (sfold1 f) = 0 := fopN_ex (fold_sub hf)
  have hv : sineF f = if ge64 f half64 then Op.negFloat .f64 (sr0 f) else sr0 f := rfl
  have hv1 : sfold1 f = if ge64 f half64 then aop .sub .f64 f half64 else f := rfl
  have hv2 : sfold f = if gt64 (sfold1 f) quar64 then aop .sub .f64 half64 (sfold1 f) else sfold1 f := rfl
  have hU := Lib.hid hu
  have hg1 : ge64 f half64 = (((FloatKind.format .f64).order f 4602678819172646912 == some Ordering.gt) || ((FloatKind.format .f64).order f 4602678819172646912 == some Ordering.eq)) := rfl
  have hg2 : gt64 (sfold1 f) quar64 = ((FloatKind.format .f64).order (sfold1 f) 4598175219545276416 == some Ordering.gt) := rfl
  have hneg : ∀ y w, (Op.unary .neg (.float .f64 y)).run Try.prog w = .ok (.float .f64 (Op.negFloat .f64 y)) w := fun _ _ => rfl
  clear hf hz hu hr
  generalize sz f = z at *
  generalize su f = u at *
  generalize sr0 f = r at *
  generalize sineF f = rr at *
  cases ht : ge64 f half64 <;> cases ht2 : gt64 (sfold1 f) quar64
  all_goals
    rw [ht] at hv hv1 hg1
    rw [ht2] at hv2 hg2
    simp only [if_true, if_false, Bool.false_eq_true] at hv hv1 hv2
    rw [hv1] at hg2 s3 s4 hv2
    rw [hv2] at m1 m2
    have hg1' := hg1.symm
    have hg2' := hg2.symm
    have Hv := Lib.hid hv
    clear ht ht2 hv hv1 hv2 hg1 hg2
    go_enter Try.func32, Try.ntmps32
    go_wp2_with (go_at_call 34; refine (hT.out _).mono ?_; rintro e w' ⟨rfl, rfl⟩)
    clear m1 m2 m3 m4 s1 s2 s3 s4 hg1' hg2' hT
    go_loop [7, 8] (fun p k => ∃ i : Nat, i ≤ 8 ∧ k = .float .f64 (kw (8 - i)) ∧ p = .float .f64 (sinTo u i)) (fun _ k => fltOf k)
    case atStart => exact ⟨0, by omega, by rw [kw_8], rfl⟩
    case round =>
      obtain ⟨i, hi, rfl, rfl⟩ := hrel
      by_cases hlt : i < 8
      · have g := kw_ge (8 - i) (by omega)
        rw [decide_eq_true (by omega)] at g
        have hb := sin_bd hU.out i hi
        have c1 := fun w => fopR_some (kw_mul (8 - i) (by omega)) w
        have c1n := fopN_some (kw_mul (8 - i) (by omega))
        have c2 := fun w => fopR_some (kw_add (8 - i) (by omega)) w
        have c2n := fopN_some (kw_add (8 - i) (by omega))
        have c3 := fun w => fopR_some (kw_dk (8 - i) (by omega)) w
        have c3n := fopN_some (kw_dk (8 - i) (by omega))
        have c4 := fun w => fopR_some (kw_pred (8 - i) (by omega) (by omega)) w
        have c4n := fopN_some (kw_pred (8 - i) (by omega) (by omega))
        have q1 := fun w => fopR_ex (sin_mul hU.out hi hb) w
        have q1n := fopN_ex (sin_mul hU.out hi hb)
        have q2 := fun w => fopR_ex (sin_quo hU.out hlt hb) w
        have q2n := fopN_ex (sin_quo hU.out hlt hb)
        have q3 : ∀ w, fopR .sub .f64 4607182418800017408 (aop .quo .f64 (aop .mul .f64 u (sinTo u i)) (dk (8 - i))) w = sinTo u (i + 1) := fun w => fopR_ex (sin_sub hU.out hlt hb) w
        have q3n : fopN .sub .f64 4607182418800017408 (aop .quo .f64 (aop .mul .f64 u (sinTo u i)) (dk (8 - i))) = 0 := fopN_ex (sin_sub hU.out hlt hb)
        have hlow := Lib.hid (kw_lt (8 - i) (by omega) (by omega))
        clear hb
        go_wp2
        go_round
        case rel => exact ⟨i + 1, by omega, rfl, rfl⟩
        case measure => exact hlow.out
      · have e : i = 8 := by omega
        subst e
        have g := kw_ge 0 (by omega)
        rw [decide_eq_false (by omega)] at g
        clear hlt
        go_wp2
        go_ret
        exact ⟨ret_f64 Hv.out.symm, rfl⟩
end Go.Proofs.Ytogdolnmcfemfab
