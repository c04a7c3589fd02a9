/-
  The point of the unit circle: the model's walk.
-/
import Derived.Test.YtogdolnmcfemfabCPha
namespace Go.Proofs.Ytogdolnmcfemfab
open Ieee Go.RowKit
set_option linter.unusedVariables false

theorem specSineS_any (x : Nat) (w : World) (h : bd x 2) : Calls Try.prog 50 #[.float .f64 x] w fun e w' => e = .returned (.float .f64 (sineF (tpart x))) ∧ w = w' := by
  have hN := bd_nan h
  have h3 : x % 9223372036854775808 ≤ 1025 * 4503599627370496 := h.2.2
  have hfi : fin .f64 x = true := by rw [fin_f64]; exact decide_eq_true (by omega)
  have hns : ¬ bigW ≤ x % 9223372036854775808 := by unfold bigW; omega
  have t1 := big_pos x hN
  have t2 := big_neg x hN
  rw [decide_eq_false (fun h => hns h.2)] at t1 t2
  exact specSmall_any x w (bd_mono h (by omega) (by omega)) (fun w => eq_of_beq ((sub_self .f64 x w).trans hfi)) ⟨t1, t2⟩

set_option maxHeartbeats 4000000 in
theorem specPhasorSmall_any (x : Nat) (w : World) (h : bd x 52) (hq : ∀ w, (FloatKind.format .f64).order (fopR .sub .f64 x x w) 0 = some Ordering.eq) (hle : le2 x)
    (hP : ∀ p q, (∃ k, QN (tpart x) k ∧ p = phR (qI (tpart x) k) k ∧ q = phI (qI (tpart x) k) k) → PH x p q) :
    Calls Try.prog 33 #[.float .f64 x] w fun e w' => ∃ a b n, e = .returned (.complex .f32 a b) ∧ w' = w.drewN n ∧ PH x (cn .f32 a) (cn .f32 b) := by
  obtain ⟨t1, t2⟩ := hle
  have hci := fun w => run_toI (P := Try.prog) Try.underlying25 Try.underlying2 h w
  have hq2 : fopN .sub .f64 x x = 0 := fopN_ex (bd_sub h h (e := 53) (by omega) (by omega) (by omega))
  have p1 : ∀ w, fopR .sub .f64 x (floatOfInt .f64 (toI x)) w = tfrac x := fun w => fopR_ex (tfrac_bd h) w
  have p2 : fopN .sub .f64 x (floatOfInt .f64 (toI x)) = 0 := fopN_ex (tfrac_bd h)
  have p3 : ∀ w, fopR .add .f64 (tfrac x) 4607182418800017408 w = aop .add .f64 (tfrac x) one64 := fun w => fopR_ex (tadd_bd h) w
  have p4 : fopN .add .f64 (tfrac x) 4607182418800017408 = 0 := fopN_ex (tadd_bd h)
  have hp : tpart x = if lt64 (tfrac x) 0 then aop .add .f64 (tfrac x) one64 else tfrac x := rfl
  have hp1 : lt64 (tfrac x) 0 = ((FloatKind.format .f64).order (tfrac x) 0 == some Ordering.lt) := rfl
  have HF := Lib.hid (tpart_bd h)
  have HL := Lib.hid (show tpart x < 18446744073709551616 by unfold tpart; split <;> exact aop_lt64 _ _ _)
  have HP := Lib.hid hP
  clear h hP
  generalize tpart x = F at *
  have hdz : ∀ w : World, w.drewN 0 = w := fun w => rfl
  generalize tfrac x = tf at *
  cases hl : lt64 tf 0
  all_goals
    rw [hl] at hp hp1
    simp only [if_true, if_false, Bool.false_eq_true] at hp
    have hp1' := hp1.symm
    clear hl hp1
    first | (subst tf) | (rw [← hp] at p3; clear hp)
    go_enter Try.func33, Try.ntmps33
    go_wp2_with fail
    clear hp1' p1 p2 p3 p4 hci hq hq2 t1 t2
    go_loopw [3, 4] (fun g i wr => ∃ k n : Nat, i = .int .i64 k ∧ g = .float .f64 (qI F k) ∧ (∀ j, j < k → ge64 (qI F j) quar64 = true) ∧ wr = w.drewN n) (fun g _ _ => fltOf g)
    case atStart => exact ⟨0, 0, rfl, rfl, by omega, rfl⟩
    case round =>
      obtain ⟨k, n, rfl, rfl, hall, rfl⟩ := hrel
      have hk := qI_bd HF.out HL.out k hall
      cases hge : ge64 (qI F k) quar64
      · have hb1 := hk.1
        have d1 : ∀ w, fopR .sub .f64 4598175219545276416 (qI F k) w = aop .sub .f64 quar64 (qI F k) := fun w => fopR_ex (phD_bd hb1) w
        have d1n : fopN .sub .f64 4598175219545276416 (qI F k) = 0 := fopN_ex (phD_bd hb1)
        have sc := phC_bd hb1
        have ss := phS_bd hb1
        have z1 : ∀ w, fopR .sub .f64 0 (phC (qI F k)) w = aop .sub .f64 0 (phC (qI F k)) := fun w => fopR_ex (zs_bd sc) w
        have z1n : fopN .sub .f64 0 (phC (qI F k)) = 0 := fopN_ex (zs_bd sc)
        have z2 : ∀ w, fopR .sub .f64 0 (phS (qI F k)) w = aop .sub .f64 0 (phS (qI F k)) := fun w => fopR_ex (zs_bd ss) w
        have z2n : fopN .sub .f64 0 (phS (qI F k)) = 0 := fopN_ex (zs_bd ss)
        have hc : ∀ w, Calls Try.prog 50 #[.float .f64 (aop .sub .f64 quar64 (qI F k))] w (fun e w' => e = .returned (.float .f64 (phC (qI F k))) ∧ w = w') := fun w => specSineS_any (aop .sub .f64 quar64 (qI F k)) w (phD_bd hb1)
        have hsn : ∀ w, Calls Try.prog 50 #[.float .f64 (qI F k)] w (fun e w' => e = .returned (.float .f64 (phS (qI F k))) ∧ w = w') := fun w => specSineS_any (qI F k) w (bd_mono hb1 (by omega) (by omega))
        have g : (((FloatKind.format .f64).order (qI F k) 4598175219545276416 == some Ordering.gt) || ((FloatKind.format .f64).order (qI F k) 4598175219545276416 == some Ordering.eq)) = false := hge
        have hkf := qI_few HF.out HL.out k hall
        have N1 := Lib.hid (fun w => narR_bd sc (by omega) w)
        have N2 := Lib.hid (fun w => narR_bd ss (by omega) w)
        have N3 := Lib.hid (fun w => narR_bd (zs_bd sc) (by omega) w)
        have N4 := Lib.hid (fun w => narR_bd (zs_bd ss) (by omega) w)
        have R1 := phR_1 (qI F k)
        have I1 := phI_1 (qI F k)
        have R2 := phR_2 (qI F k)
        have I2 := phI_2 (qI F k)
        have R3 := phR_3 (qI F k)
        have I3 := phI_3 (qI F k)
        have R0 := phR_0 (qI F k) k
        have I0 := phI_0 (qI F k) k
        have hQ : ∀ p q, p = phR (qI F k) k → q = phI (qI F k) k → PH x p q := fun p q h1 h2 => HP.out p q ⟨k, ⟨hall, hge⟩, h1, h2⟩
        clear hall hge hk hb1 sc ss
        generalize phC (qI F k) = C at *
        generalize phS (qI F k) = S at *
        generalize aop .sub .f64 0 C = zC at *
        generalize aop .sub .f64 0 S = zS at *
        generalize aop .sub .f64 quar64 (qI F k) = dG at *
        generalize hgR : phR (qI F k) = gR at *
        generalize hgI : phI (qI F k) = gI at *
        generalize qI F k = G at *
        have hC := Lib.hid hc
        have hS := Lib.hid hsn
        have H1 := Lib.hid R1
        have J1 := Lib.hid I1
        have H2 := Lib.hid R2
        have J2 := Lib.hid I2
        have H3 := Lib.hid R3
        have J3 := Lib.hid I3
        have H0 := Lib.hid R0
        have J0 := Lib.hid I0
        have HQ := Lib.hid hQ
        clear hc hsn R1 I1 R2 I2 R3 I3 R0 I0 hQ hgR hgI
        by_cases e1 : k = 1
        · subst e1
          go_wp2_with (first | (go_at_call 50; first | (with_reducible refine (hC.out _).mono ?_; rintro e w' ⟨rfl, rfl⟩) | (with_reducible refine (hS.out _).mono ?_; rintro e w' ⟨rfl, rfl⟩)) | (go_at_call 48; go_in))
          go_ret
          exact ⟨_, _, _, rfl, rfl, HQ.out _ _ ((N4.out _).trans H1.out.symm) ((N1.out _).trans J1.out.symm)⟩
        · by_cases e2 : k = 2
          · subst e2
            go_wp2_with (first | (go_at_call 50; first | (with_reducible refine (hC.out _).mono ?_; rintro e w' ⟨rfl, rfl⟩) | (with_reducible refine (hS.out _).mono ?_; rintro e w' ⟨rfl, rfl⟩)) | (go_at_call 48; go_in))
            go_ret
            exact ⟨_, _, _, rfl, rfl, HQ.out _ _ ((N3.out _).trans H2.out.symm) ((N4.out _).trans J2.out.symm)⟩
          · by_cases e3 : k = 3
            · subst e3
              go_wp2_with (first | (go_at_call 50; first | (with_reducible refine (hC.out _).mono ?_; rintro e w' ⟨rfl, rfl⟩) | (with_reducible refine (hS.out _).mono ?_; rintro e w' ⟨rfl, rfl⟩)) | (go_at_call 48; go_in))
              go_ret
              exact ⟨_, _, _, rfl, rfl, HQ.out _ _ ((N2.out _).trans H3.out.symm) ((N3.out _).trans J3.out.symm)⟩
            · have t1 : ¬ (k : Int) = 1 := by omega
              have t2 : ¬ (k : Int) = 2 := by omega
              have t3 : ¬ (k : Int) = 3 := by omega
              go_wp2_with (first | (go_at_call 50; first | (with_reducible refine (hC.out _).mono ?_; rintro e w' ⟨rfl, rfl⟩) | (with_reducible refine (hS.out _).mono ?_; rintro e w' ⟨rfl, rfl⟩)) | (go_at_call 48; go_in))
              go_ret
              exact ⟨_, _, _, rfl, rfl, HQ.out _ _ ((N1.out _).trans (H0.out e1 e2 e3).symm) ((N2.out _).trans (J0.out e1 e2 e3).symm)⟩
      · have hs := q_step hk.1 hk.2 hge
        have hkf := qI_few HF.out HL.out k hall
        have hlow := Lib.hid hs.2.1
        have c1 : ∀ w, fopR .sub .f64 (qI F k) 4598175219545276416 w = qI F (k + 1) := fun w => fopR_some hs.1 w
        have c1n : fopN .sub .f64 (qI F k) 4598175219545276416 = 0 := fopN_some hs.1
        have g : (((FloatKind.format .f64).order (qI F k) 4598175219545276416 == some Ordering.gt) || ((FloatKind.format .f64).order (qI F k) 4598175219545276416 == some Ordering.eq)) = true := hge
        have hall' : ∀ j, j < k + 1 → ge64 (qI F j) quar64 = true := fun j hj => by
          by_cases e : j = k
          · rw [e]; exact hge
          · exact hall j (by omega)
        have Ha := Lib.hid hall'
        clear hall hall' hge hs hk
        go_wp2
        go_roundw
        case rel => exact ⟨k + 1, _, by go_num, rfl, Ha.out, rfl⟩
        case measure => exact hlow.out

set_option maxHeartbeats 1000000 in
theorem specPhasor_any (x : Nat) (w : World) :
    Calls Try.prog 33 #[.float .f64 x] w fun e w' => ∃ a b n, e = .returned (.complex .f32 a b) ∧ w' = w.drewN n ∧ PH x (cn .f32 a) (cn .f32 b) := by
  have hfin := fun w => sub_self .f64 x w
  have hN : fin .f64 x = true → isN .f64 x = false := fun h => by
    unfold fin at h
    cases h2 : isN .f64 x
    · rfl
    · rw [h2] at h; cases h
  cases hx : fin .f64 x
  · rw [hx] at hfin
    have hP : ∀ p q, p = nanOf .f32 → q = nanOf .f32 → PH x p q := fun p q h1 h2 => by unfold PH; rw [hx, if_neg (by simp)]; exact ⟨h1, h2⟩
    have hfin' : ∀ w, ((FloatKind.format .f64).order (fopR .sub .f64 x x w) 0 != some Ordering.eq) = true := fun w => by rw [bne, hfin w]; rfl
    have HP := Lib.hid hP
    clear hP hN hfin hx
    go_enter Try.func33, Try.ntmps33
    go_wp2_with (go_at_call 53; go_in)
    go_ret
    exact ⟨_, _, _, rfl, rfl, HP.out _ _ (by decide +kernel) (by decide +kernel)⟩
  · have hN := hN hx
    rw [hx] at hfin
    have hP : ∀ p q, (if bigW ≤ x % 9223372036854775808 then p = 1065353216 ∧ q = 0 else ∃ k, QN (tpart x) k ∧ p = phR (qI (tpart x) k) k ∧ q = phI (qI (tpart x) k) k) → PH x p q := fun p q h => by unfold PH; rw [hx, if_pos rfl]; exact h
    have hfin' : ∀ w, (FloatKind.format .f64).order (fopR .sub .f64 x x w) 0 = some Ordering.eq := fun w => eq_of_beq (hfin w)
    have t1 := big_pos x hN
    have t2 := big_neg x hN
    by_cases hb : bigW ≤ x % 9223372036854775808
    · have HP := Lib.hid (fun p q h1 h2 => hP p q (by rw [if_pos hb]; exact ⟨h1, h2⟩))
      have hsg : x / 9223372036854775808 % 2 = 0 ∨ x / 9223372036854775808 % 2 = 1 := by omega
      rcases hsg with hsg | hsg
      · rw [decide_eq_true ⟨hsg, hb⟩] at t1
        clear hP hN hfin hx t2 hb hsg
        go_enter Try.func33, Try.ntmps33
        go_wp2
        go_ret
        exact ⟨_, _, _, rfl, rfl, HP.out _ _ (by decide +kernel) (by decide +kernel)⟩
      · rw [decide_eq_false (fun h => by omega)] at t1
        rw [decide_eq_true ⟨hsg, hb⟩] at t2
        clear hP hN hfin hx hb hsg
        go_enter Try.func33, Try.ntmps33
        go_wp2
        go_ret
        exact ⟨_, _, _, rfl, rfl, HP.out _ _ (by decide +kernel) (by decide +kernel)⟩
    · rw [decide_eq_false (fun h => hb h.2)] at t1 t2
      exact specPhasorSmall_any x w (small_bd hb) hfin' ⟨t1, t2⟩ (fun p q h => hP p q (by rw [if_neg hb]; exact h))
end Go.Proofs.Ytogdolnmcfemfab
