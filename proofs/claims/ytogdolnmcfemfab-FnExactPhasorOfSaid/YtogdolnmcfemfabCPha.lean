/-
  The point of the unit circle: the program's walk.
-/
import Derived.Test.YtogdolnmcfemfabCSit
import Derived.Test.YtogdolnmcfemfabFlp
namespace Go.Proofs.Ytogdolnmcfemfab
open Ieee Go.RowKit
set_option linter.unusedVariables false

def phS (g : Nat) : Nat := sineF (tpart g)
def phC (g : Nat) : Nat := sineF (tpart (aop .sub .f64 quar64 g))
def phR (g k : Nat) : Nat := anar (if k = 1 then aop .sub .f64 0 (phS g) else if k = 2 then aop .sub .f64 0 (phC g) else if k = 3 then phS g else phC g)
def phI (g k : Nat) : Nat := anar (if k = 1 then phC g else if k = 2 then aop .sub .f64 0 (phS g) else if k = 3 then aop .sub .f64 0 (phC g) else phS g)
/-- What the parts are, up to a not-a-number. -/
def PH (x p q : Nat) : Prop :=
  if fin .f64 x = true then
    if bigW ≤ x % 9223372036854775808 then p = 1065353216 ∧ q = 0
    else ∃ k, QN (tpart x) k ∧ p = phR (qI (tpart x) k) k ∧ q = phI (qI (tpart x) k) k
  else p = nanOf .f32 ∧ q = nanOf .f32
theorem PH_one {x p q p' q' : Nat} (h : PH x p q) (h2 : PH x p' q') : p = p' ∧ q = q' := by
  unfold PH at *
  split at h
  · split at h
    · rename_i h1 h3
      rw [if_pos h1, if_pos h3] at h2
      exact ⟨h.1.trans h2.1.symm, h.2.trans h2.2.symm⟩
    · rename_i h1 h3
      rw [if_pos h1, if_neg h3] at h2
      obtain ⟨k, a, b, c⟩ := h
      obtain ⟨k', a', b', c'⟩ := h2
      obtain rfl := QN_one a a'
      exact ⟨b.trans b'.symm, c.trans c'.symm⟩
  · rename_i h1
    rw [if_neg h1] at h2
    exact ⟨h.1.trans h2.1.symm, h.2.trans h2.2.symm⟩
theorem qI_down {f : Nat} (hb : bd f 1) (hl : f < 18446744073709551616) : ∀ k, (∀ j, j < k → ge64 (qI f j) quar64 = true) → qI f k + k ≤ f
  | 0, _ => by simp [qI]
  | k + 1, h => by
    have ih := qI_down hb hl k (fun j hj => h j (by omega))
    have hk := qI_bd hb hl k (fun j hj => h j (by omega))
    have := (q_step hk.1 hk.2 (h k (by omega))).2.1
    show aop .sub .f64 (qI f k) quar64 + (k + 1) ≤ f
    omega
theorem qI_few {f : Nat} (hb : bd f 1) (hl : f < 18446744073709551616) (k : Nat) (h : ∀ j, j < k → ge64 (qI f j) quar64 = true) : k < 4616189618054758400 := by
  rcases Nat.eq_zero_or_pos k with h0 | h0
  · omega
  · have h1 := qI_down hb hl k h
    have h2 := (ge_quar hb hl (h 0 h0)).2
    omega
theorem phS_bd {g : Nat} (h : bd g 1) : bd (phS g) 94 := sineF_bd (tpart_bd (bd_mono h (by omega) (by omega)))
theorem phD_bd {g : Nat} (h : bd g 1) : bd (aop .sub .f64 quar64 g) 2 := bd_sub bd_quar h (by omega) (by omega) (by omega)
theorem phC_bd {g : Nat} (h : bd g 1) : bd (phC g) 94 := sineF_bd (tpart_bd (bd_mono (phD_bd h) (by omega) (by omega)))
theorem zs_bd {s : Nat} (h : bd s 94) : bd (aop .sub .f64 0 s) 95 := bd_sub zero_bd h (by omega) (by omega) (by omega)
theorem narR_bd {v : Nat} {e : Int} (h : bd v e) (he : e ≤ 95) (w : World) : cn .f32 (narR v w) = anar v := (cn_narR _ _ (narOk_bd h (by omega))).trans (by rw [anar_cn])

theorem phR_1 (g : Nat) : phR g 1 = anar (aop .sub .f64 0 (phS g)) := by unfold phR; rw [if_pos rfl]
theorem phI_1 (g : Nat) : phI g 1 = anar (phC g) := by unfold phI; rw [if_pos rfl]
theorem phR_2 (g : Nat) : phR g 2 = anar (aop .sub .f64 0 (phC g)) := by unfold phR; rw [if_neg (by decide), if_pos rfl]
theorem phI_2 (g : Nat) : phI g 2 = anar (aop .sub .f64 0 (phS g)) := by unfold phI; rw [if_neg (by decide), if_pos rfl]
theorem phR_3 (g : Nat) : phR g 3 = anar (phS g) := by unfold phR; rw [if_neg (by decide), if_neg (by decide), if_pos rfl]
theorem phI_3 (g : Nat) : phI g 3 = anar (aop .sub .f64 0 (phC g)) := by unfold phI; rw [if_neg (by decide), if_neg (by decide), if_pos rfl]
theorem phR_0 (g k : Nat) (h1 : k ≠ 1) (h2 : k ≠ 2) (h3 : k ≠ 3) : phR g k = anar (phC g) := by unfold phR; rw [if_neg h1, if_neg h2, if_neg h3]
theorem phI_0 (g k : Nat) (h1 : k ≠ 1) (h2 : k ≠ 2) (h3 : k ≠ 3) : phI g k = anar (phS g) := by unfold phI; rw [if_neg h1, if_neg h2, if_neg h3]

set_option maxHeartbeats 1000000 in
theorem implPhasor_any (x : Nat) (w : World) (hx : x < 18446744073709551616) :
    Calls Try.prog 16 #[.float .f64 x] w fun e w' => ∃ a b n, e = .returned (.complex .f32 a b) ∧ w' = w.drewN n ∧ PH x (cn .f32 a) (cn .f32 b) := by
  have hl := Lib.hid hx
  clear hx
  cases hf : fin .f64 x
  · have hP : ∀ p q, p = nanOf .f32 → q = nanOf .f32 → PH x p q := fun p q h1 h2 => by unfold PH; rw [hf, if_neg (by simp)]; exact ⟨h1, h2⟩
    have HP := Lib.hid hP
    have Hf := Lib.hid hf
    clear hP hf
    go_enter Try.func16, Try.ntmps16
    go_wp2_with (first | (go_at_call 29; refine (isFinite64_any _ _ hl.out).mono ?_; rw [Hf.out]; rintro e w' ⟨n, rfl, rfl⟩) | (go_at_call 30; go_in))
    go_ret
    exact ⟨_, _, _, rfl, rfl, HP.out _ _ ((cn_narR _ _ (narOk_nan (by decide +kernel))).trans (by decide +kernel)) ((cn_narR _ _ (narOk_nan (by decide +kernel))).trans (by decide +kernel))⟩
  · have hN : isN .f64 x = false := by
      unfold fin at hf
      cases h2 : isN .f64 x
      · rfl
      · rw [h2] at hf; cases hf
    have hb := big_abs x hN
    have hP : ∀ p q, (if bigW ≤ x % 9223372036854775808 then p = 1065353216 ∧ q = 0 else ∃ k, QN (tpart x) k ∧ p = phR (qI (tpart x) k) k ∧ q = phI (qI (tpart x) k) k) → PH x p q := fun p q h => by unfold PH; rw [hf, if_pos rfl]; exact h
    have Hf := Lib.hid hf
    clear hf hN
    by_cases hbig : bigW ≤ x % 9223372036854775808
    · rw [decide_eq_true hbig] at hb
      have HP := Lib.hid (fun p q h1 h2 => hP p q (by rw [if_pos hbig]; exact ⟨h1, h2⟩))
      clear hP hbig
      go_enter Try.func16, Try.ntmps16
      go_wp2_with (first | (go_at_call 29; refine (isFinite64_any _ _ hl.out).mono ?_; rw [Hf.out]; rintro e w' ⟨n, rfl, rfl⟩) | (go_at_call 31; refine (abs_any _ _ hl.out).mono ?_; rintro e w' ⟨m, rfl, rfl⟩))
      go_ret
      exact ⟨_, _, _, rfl, rfl, HP.out _ _ (by decide +kernel) (by decide +kernel)⟩
    · rw [decide_eq_false hbig] at hb
      have hB := Lib.hid (small_bd hbig)
      have HP := Lib.hid (fun p q h => hP p q (by rw [if_neg hbig]; exact h))
      clear hP hbig
      have hF := tpart_bd hB.out
      have hFl : tpart x < 18446744073709551616 := by
        unfold tpart; split <;> exact aop_lt64 _ _ _
      have hT := Lib.hid (fun w => turnPart_any x w hB.out)
      generalize tpart x = F at *
      have HF := Lib.hid hF
      have HL := Lib.hid hFl
      clear hF hFl
      have hdz : ∀ w : World, w.drewN 0 = w := fun w => rfl
      go_enter Try.func16, Try.ntmps16
      go_wp2_with (first | (go_at_call 29; refine (isFinite64_any _ _ hl.out).mono ?_; rw [Hf.out]; rintro e w' ⟨n, rfl, rfl⟩) | (go_at_call 31; refine (abs_any _ _ hl.out).mono ?_; rintro e w' ⟨m, rfl, rfl⟩) | (go_at_call 34; refine (hT.out _).mono ?_; rintro e w' ⟨rfl, rfl⟩))
      go_loopw [4, 5] (fun g i wr => ∃ k n : Nat, i = .int .i64 k ∧ g = .float .f64 (qI F k) ∧ (∀ j, j < k → ge64 (qI F j) quar64 = true) ∧ wr = w.drewN n) (fun g _ _ => fltOf g)
      case atStart => exact ⟨0, _, rfl, rfl, by omega, rfl⟩
      case round =>
        obtain ⟨k, n, rfl, rfl, hall, rfl⟩ := hrel
        have hk := qI_bd HF.out HL.out k hall
        cases hge : ge64 (qI F k) quar64
        · have hb1 := hk.1
          have d1 : ∀ w, fopR .sub .f64 4598175219545276416 (qI F k) w = aop .sub .f64 quar64 (qI F k) := fun w => fopR_ex (phD_bd hb1) w
          have d1n : fopN .sub .f64 4598175219545276416 (qI F k) = 0 := fopN_ex (phD_bd hb1)
          have sc := phC_bd hb1
          have ss := phS_bd hb1
          have z1 : ∀ w, fopR .sub .f64 0 (phC (qI F k)) w = aop .sub .f64 0 (phC (qI F k)) := fun w => fopR_ex (zs_bd sc) w
          have z1n : fopN .sub .f64 0 (phC (qI F k)) = 0 := fopN_ex (zs_bd sc)
          have z2 : ∀ w, fopR .sub .f64 0 (phS (qI F k)) w = aop .sub .f64 0 (phS (qI F k)) := fun w => fopR_ex (zs_bd ss) w
          have z2n : fopN .sub .f64 0 (phS (qI F k)) = 0 := fopN_ex (zs_bd ss)
          have hc : ∀ w, Calls Try.prog 32 #[.float .f64 (aop .sub .f64 quar64 (qI F k))] w (fun e w' => e = .returned (.float .f64 (phC (qI F k))) ∧ w = w') := fun w => implSine_any (aop .sub .f64 quar64 (qI F k)) w (bd_mono (phD_bd hb1) (by omega) (by omega))
          have hsn : ∀ w, Calls Try.prog 32 #[.float .f64 (qI F k)] w (fun e w' => e = .returned (.float .f64 (phS (qI F k))) ∧ w = w') := fun w => implSine_any (qI F k) w (bd_mono hb1 (by omega) (by omega))
          have g : (((FloatKind.format .f64).order (qI F k) 4598175219545276416 == some Ordering.gt) || ((FloatKind.format .f64).order (qI F k) 4598175219545276416 == some Ordering.eq)) = false := hge
          have hkf := qI_few HF.out HL.out k hall
          have N1 := Lib.hid (fun w => narR_bd sc (by omega) w)
          have N2 := Lib.hid (fun w => narR_bd ss (by omega) w)
          have N3 := Lib.hid (fun w => narR_bd (zs_bd sc) (by omega) w)
          have N4 := Lib.hid (fun w => narR_bd (zs_bd ss) (by omega) w)
          have R1 := phR_1 (qI F k)
          have I1 := phI_1 (qI F k)
          have R2 := phR_2 (qI F k)
          have I2 := phI_2 (qI F k)
          have R3 := phR_3 (qI F k)
          have I3 := phI_3 (qI F k)
          have R0 := phR_0 (qI F k) k
          have I0 := phI_0 (qI F k) k
          have hQ : ∀ p q, p = phR (qI F k) k → q = phI (qI F k) k → PH x p q := fun p q h1 h2 => HP.out p q ⟨k, ⟨hall, hge⟩, h1, h2⟩
          clear hall hge hk hb1 sc ss
          generalize phC (qI F k) = C at *
          generalize phS (qI F k) = S at *
          generalize aop .sub .f64 0 C = zC at *
          generalize aop .sub .f64 0 S = zS at *
          generalize aop .sub .f64 quar64 (qI F k) = dG at *
          generalize hgR : phR (qI F k) = gR at *
          generalize hgI : phI (qI F k) = gI at *
          generalize qI F k = G at *
          have hC := Lib.hid hc
          have hS := Lib.hid hsn
          have H1 := Lib.hid R1
          have J1 := Lib.hid I1
          have H2 := Lib.hid R2
          have J2 := Lib.hid I2
          have H3 := Lib.hid R3
          have J3 := Lib.hid I3
          have H0 := Lib.hid R0
          have J0 := Lib.hid I0
          have HQ := Lib.hid hQ
          clear hc hsn R1 I1 R2 I2 R3 I3 R0 I0 hQ hgR hgI
          by_cases e1 : k = 1
          · subst e1
            go_wp2_with (first | (go_at_call 32; first | (with_reducible refine (hC.out _).mono ?_; rintro e w' ⟨rfl, rfl⟩) | (with_reducible refine (hS.out _).mono ?_; rintro e w' ⟨rfl, rfl⟩)) | (go_at_call 35; go_in))
            go_ret
            exact ⟨_, _, _, rfl, rfl, HQ.out _ _ ((N4.out _).trans H1.out.symm) ((N1.out _).trans J1.out.symm)⟩
          · by_cases e2 : k = 2
            · subst e2
              go_wp2_with (first | (go_at_call 32; first | (with_reducible refine (hC.out _).mono ?_; rintro e w' ⟨rfl, rfl⟩) | (with_reducible refine (hS.out _).mono ?_; rintro e w' ⟨rfl, rfl⟩)) | (go_at_call 35; go_in))
              go_ret
              exact ⟨_, _, _, rfl, rfl, HQ.out _ _ ((N3.out _).trans H2.out.symm) ((N4.out _).trans J2.out.symm)⟩
            · by_cases e3 : k = 3
              · subst e3
                go_wp2_with (first | (go_at_call 32; first | (with_reducible refine (hC.out _).mono ?_; rintro e w' ⟨rfl, rfl⟩) | (with_reducible refine (hS.out _).mono ?_; rintro e w' ⟨rfl, rfl⟩)) | (go_at_call 35; go_in))
                go_ret
                exact ⟨_, _, _, rfl, rfl, HQ.out _ _ ((N2.out _).trans H3.out.symm) ((N3.out _).trans J3.out.symm)⟩
              · have t1 : ¬ (k : Int) = 1 := by omega
                have t2 : ¬ (k : Int) = 2 := by omega
                have t3 : ¬ (k : Int) = 3 := by omega
                go_wp2_with (first | (go_at_call 32; first | (with_reducible refine (hC.out _).mono ?_; rintro e w' ⟨rfl, rfl⟩) | (with_reducible refine (hS.out _).mono ?_; rintro e w' ⟨rfl, rfl⟩)) | (go_at_call 35; go_in))
                go_ret
                exact ⟨_, _, _, rfl, rfl, HQ.out _ _ ((N1.out _).trans (H0.out e1 e2 e3).symm) ((N2.out _).trans (J0.out e1 e2 e3).symm)⟩
        · have hs := q_step hk.1 hk.2 hge
          have hkf := qI_few HF.out HL.out k hall
          have hlow := Lib.hid hs.2.1
          have c1 : ∀ w, fopR .sub .f64 (qI F k) 4598175219545276416 w = qI F (k + 1) := fun w => fopR_some hs.1 w
          have c1n : fopN .sub .f64 (qI F k) 4598175219545276416 = 0 := fopN_some hs.1
          have g : (((FloatKind.format .f64).order (qI F k) 4598175219545276416 == some Ordering.gt) || ((FloatKind.format .f64).order (qI F k) 4598175219545276416 == some Ordering.eq)) = true := hge
          have hall' : ∀ j, j < k + 1 → ge64 (qI F j) quar64 = true := fun j hj => by
            by_cases e : j = k
            · rw [e]; exact hge
            · exact hall j (by omega)
          have Ha := Lib.hid hall'
          clear hall hall' hge hs hk
          go_wp2
          go_roundw
          case rel => exact ⟨k + 1, _, by go_num, rfl, Ha.out, rfl⟩
          case measure => exact hlow.out
end Go.Proofs.Ytogdolnmcfemfab
