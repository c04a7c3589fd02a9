/-
  The model's angle of a point that is finite and not the origin.
-/
import Derived.Test.YtogdolnmcfemfabCAgf
namespace Go.Proofs.Ytogdolnmcfemfab
open Ieee Go.RowKit
set_option linter.unusedVariables false

/-- What is told of a coordinate. -/
structure Coord (Y : Nat) : Prop where
  lt : Y < 18446744073709551616
  num : isN .f64 Y = false
  low : Y % 9223372036854775808 = 0 ∨ rng (Y % 9223372036854775808)
theorem Coord.bd {Y : Nat} (h : Coord Y) : bd Y 128 := by
  refine ⟨by omega, by omega, ?_⟩
  show _ ≤ 1151 * 4503599627370496
  rcases h.low with h1 | h1
  · omega
  · have := h1.2; omega
theorem Coord.inf {Y : Nat} (h : Coord Y) : Y % 9223372036854775808 < 9218868437227405312 := by
  rcases h.low with h1 | h1
  · omega
  · have := h1.2; omega
theorem Coord.self {Y : Nat} (h : Coord Y) (w : World) : (FloatKind.format .f64).order (fopR .sub .f64 Y Y w) 0 = some Ordering.eq := by
  have h1 := sub_self .f64 Y w
  rw [fin_f64, decide_eq_true h.inf] at h1
  exact eq_of_beq h1
theorem Coord.selfN {Y : Nat} (h : Coord Y) : fopN .sub .f64 Y Y = 0 := fopN_ex (bd_sub h.bd h.bd (e := 129) (by omega) (by omega) (by omega))

set_option maxHeartbeats 8000000 in
theorem specAngle_any (Y X : Nat) (w : World) (hY : Coord Y) (hX : Coord X) (h0 : ¬ (Y % 9223372036854775808 = 0 ∧ X % 9223372036854775808 = 0)) :
    Calls Try.prog 54 #[.float .f64 Y, .float .f64 X] w
      (RetV (.float .f64 (an3 (Y % 9223372036854775808) (X % 9223372036854775808) ((FloatKind.format .f64).order X 0 == some Ordering.lt) ((FloatKind.format .f64).order Y 0 == some Ordering.lt))) w) := by
  have hdz : ∀ w : World, w.drewN 0 = w := fun w => rfl
  have y1 := hY.self
  have y2 := hY.selfN
  have x1 := hX.self
  have x2 := hX.selfN
  have hz : ((FloatKind.format .f64).order X 0 == some Ordering.eq) = false ∨ ((FloatKind.format .f64).order X 0 = some Ordering.eq ∧ ((FloatKind.format .f64).order Y 0 == some Ordering.eq) = false) := by
    have ex := eq_zero64 X hX.num
    have ey := eq_zero64 Y hY.num
    by_cases hx0 : X % 9223372036854775808 = 0
    · right
      rw [decide_eq_true hx0] at ex
      rw [decide_eq_false (fun h => h0 ⟨h, hx0⟩)] at ey
      exact ⟨eq_of_beq ex, ey⟩
    · left
      rw [decide_eq_false hx0] at ex; exact ex
  have aY := Lib.hid (fun w => abs_any Y w hY.lt)
  have aX := Lib.hid (fun w => abs_any X w hX.lt)
  have hT := tan0_bd hY.low hX.low h0
  have hAi := hY.inf
  have hBi := hX.inf
  have hgt : ((FloatKind.format .f64).order (Y % 9223372036854775808) (X % 9223372036854775808) == some Ordering.gt) = decide (X % 9223372036854775808 < Y % 9223372036854775808) := by
    rcases pos_cases hAi hBi with ⟨h, o⟩ | ⟨h, o⟩ | ⟨h, o⟩
    · rw [o, decide_eq_false (by omega)]; rfl
    · rw [o, decide_eq_false (by omega)]; rfl
    · rw [o, decide_eq_true h]; rfl
  clear hY hX h0 hAi hBi
  generalize Y % 9223372036854775808 = A at *
  generalize X % 9223372036854775808 = B at *
  have ht0 : tan0 A B = if B < A then aop .quo .f64 B A else aop .quo .f64 A B := rfl
  have hn1 : an1 A B = if B < A then aop .sub .f64 quar64 (sA (tan0 A B)) else sA (tan0 A B) := rfl
  have hn2 : ∀ xn, an2 A B xn = if xn then aop .sub .f64 half64 (an1 A B) else an1 A B := fun _ => rfl
  have hn3 : ∀ xn yn, an3 A B xn yn = if yn then Op.negFloat .f64 (an2 A B xn) else an2 A B xn := fun _ _ => rfl
  have b1 := an1s_bd hT
  have b2 := an2s_bd hT
  have c1 : ∀ w, fopR .sub .f64 4598175219545276416 (sA (tan0 A B)) w = aop .sub .f64 quar64 (sA (tan0 A B)) := fun w => fopR_ex b1 w
  have c1n : fopN .sub .f64 4598175219545276416 (sA (tan0 A B)) = 0 := fopN_ex b1
  have c2 : ∀ w, fopR .sub .f64 4602678819172646912 (an1 A B) w = aop .sub .f64 half64 (an1 A B) := fun w => fopR_ex b2 w
  have c2n : fopN .sub .f64 4602678819172646912 (an1 A B) = 0 := fopN_ex b2
  have hneg : ∀ y w, (Op.unary .neg (.float .f64 y)).run Try.prog w = .ok (.float .f64 (Op.negFloat .f64 y)) w := fun _ _ => rfl
  have qx : bd (if B < A then aop .quo .f64 B A else aop .quo .f64 A B) 1 := hT
  clear b1 b2
  generalize hT0 : tan0 A B = t at *
  have H := Lib.hid hT
  have m1 : ∀ w, fopR .mul .f64 (hTo t 3) (hTo t 3) w = sU t := fun w => fopR_ex (sU_bd hT) w
  have m2 : fopN .mul .f64 (hTo t 3) (hTo t 3) = 0 := fopN_ex (sU_bd hT)
  have m3 : ∀ w, fopR .mul .f64 (hTo t 3) (anTo (sU t) 8) w = sP t := fun w => fopR_ex (sP_bd hT) w
  have m4 : fopN .mul .f64 (hTo t 3) (anTo (sU t) 8) = 0 := fopN_ex (sP_bd hT)
  have m5 : ∀ w, fopR .mul .f64 4620693217682128896 (sP t) w = sE t := fun w => fopR_ex (sE_bd hT) w
  have m6 : fopN .mul .f64 4620693217682128896 (sP t) = 0 := fopN_ex (sE_bd hT)
  have m7 : ∀ w, fopR .quo .f64 (sE t) 4618760256179416344 w = sA t := fun w => fopR_ex (sA_bd hT) w
  have m8 : fopN .quo .f64 (sE t) 4618760256179416344 = 0 := fopN_ex (sA_bd hT)
  have hU := Lib.hid (sU_bd hT)
  clear hT hT0
  generalize sU t = u at *
  generalize sP t = p at *
  generalize sE t = e8 at *
  generalize sA t = sa at *
  generalize an1 A B = v1 at *
  have gx : ((FloatKind.format .f64).order X 0 == some Ordering.lt) = ((FloatKind.format .f64).order X 0 == some Ordering.lt) := rfl
  generalize hxn : ((FloatKind.format .f64).order X 0 == some Ordering.lt) = xn at *
  generalize hyn : ((FloatKind.format .f64).order Y 0 == some Ordering.lt) = yn at *
  clear gx
  have fin1 : ∀ (xn yn : Bool) (v : Nat), v = (if yn then Op.negFloat .f64 (if xn then aop .sub .f64 half64 v1 else v1) else (if xn then aop .sub .f64 half64 v1 else v1)) → an3 A B xn yn = v := fun xn yn v h => by rw [hn3, hn2, h]
  have Hf := Lib.hid fin1
  clear fin1 hn2 hn3
  rcases hz with hz | ⟨hz, hz2⟩
  · by_cases hov : B < A
    · rw [if_pos hov] at ht0 hn1 qx
      have q1 : ∀ w, fopR .quo .f64 B A w = t := fun w => by rw [ht0]; exact fopR_ex qx w
      have q1n : fopN .quo .f64 B A = 0 := fopN_ex qx
      rw [decide_eq_true hov] at hgt
      rw [← hn1] at c1
      have hgt' := eq_of_beq hgt
      clear ht0 qx hov hgt hn1
      cases xn <;> cases yn
      · skip
        have hyn' := hyn
        have hxn' := hxn
        clear hyn hxn
        go_enter Try.func54, Try.ntmps54
        go_wp2_with (first | (go_at_call 31; refine (aY.out _).mono ?_; rintro e w' ⟨n, rfl, rfl⟩) | (go_at_call 31; refine (aX.out _).mono ?_; rintro e w' ⟨n, rfl, rfl⟩))
        clear y1 y2 x1 x2 hz hgt' q1 q1n
        go_loopw [8, 9] (fun x i wr => ∃ k n : Nat, k ≤ 3 ∧ i = .int .i64 k ∧ x = .float .f64 (hTo t k) ∧ wr = w.drewN n) (fun _ i _ => 3 - (intOf i).toNat)
        case atStart => exact ⟨0, _, by omega, rfl, rfl, rfl⟩
        case round =>
          obtain ⟨k, n, hk, rfl, rfl, rfl⟩ := hrel
          by_cases hlt : k < 3
          · have hb := hTo_bd H.out k
            have a1 := fun w => fopR_ex (hM_bd hb) w
            have a1n := fopN_ex (hM_bd hb)
            have a2 : ∀ w, fopR .add .f64 4607182418800017408 (aop .mul .f64 (hTo t k) (hTo t k)) w = hA (hTo t k) := fun w => fopR_ex (hA_all hb).2.1 w
            have a2n : fopN .add .f64 4607182418800017408 (aop .mul .f64 (hTo t k) (hTo t k)) = 0 := fopN_ex (hA_all hb).2.1
            have hn := (root_nn (hA_all hb).1 (hA_all hb).2.1).2
            have a3 := fun w => sqR_some hn w
            have a3n := sqN_some hn
            have a4 : ∀ w, fopR .add .f64 4607182418800017408 (asq (hA (hTo t k))) w = hB (hTo t k) := fun w => fopR_ex (hB_all hb).2.1 w
            have a4n : fopN .add .f64 4607182418800017408 (asq (hA (hTo t k))) = 0 := fopN_ex (hB_all hb).2.1
            have a5 : ∀ w, fopR .quo .f64 (hTo t k) (hB (hTo t k)) w = hTo t (k + 1) := fun w => fopR_ex (hV_bd hb) w
            have a5n : fopN .quo .f64 (hTo t k) (hB (hTo t k)) = 0 := fopN_ex (hV_bd hb)
            clear hb hn m1 m2 m3 m4 m5 m6 m7 m8 hxn' hyn' c1 c1n c2 c2n
            go_wp2
            go_roundw
            case rel => exact ⟨k + 1, _, by omega, by go_num, rfl, rfl⟩
            case measure => simp [intOf]; omega
          · have e : k = 3 := by omega
            subst e
            clear hlt
            go_wp2
            clear m1 m2
            go_loopw [11, 12] (fun q k wr => ∃ i n : Nat, i ≤ 8 ∧ k = .int .i64 (15 - 2 * (i : Int)) ∧ q = .float .f64 (anTo u i) ∧ wr = w.drewN n) (fun _ k _ => (intOf k + 1).toNat)
            case atStart => exact ⟨0, _, by omega, rfl, rfl, rfl⟩
            case round =>
              obtain ⟨i, n, hi, rfl, rfl, rfl⟩ := hrel
              by_cases hlt : i < 8
              · have hb := an_bd hU.out i hi
                have hk : floatOfInt .f64 (15 - 2 * (i : Int)) = k15 i := rfl
                have q1 := fun w => fopR_ex (k15_inv hlt) w
                have q1n := fopN_ex (k15_inv hlt)
                have o1 : one64 = 4607182418800017408 := rfl
                rw [o1] at q1 q1n
                have q2 := fun w => fopR_ex (an_mul hU.out hi hb) w
                have q2n := fopN_ex (an_mul hU.out hi hb)
                have q3 : ∀ w, fopR .sub .f64 (aop .quo .f64 4607182418800017408 (k15 i)) (aop .mul .f64 u (anTo u i)) w = anTo u (i + 1) := fun w => fopR_ex (an_step hU.out hlt hb) w
                have q3n : fopN .sub .f64 (aop .quo .f64 4607182418800017408 (k15 i)) (aop .mul .f64 u (anTo u i)) = 0 := fopN_ex (an_step hU.out hlt hb)
                have e8' := Lib.hid (show 15 - 2 * (i : Int) - 2 = 15 - 2 * ((i + 1 : Nat) : Int) by omega)
                clear hb o1 m3 m4 m5 m6 m7 m8 hxn' hyn' c1 c1n c2 c2n
                go_wp2
                go_roundw
                case rel => exact ⟨i + 1, _, by omega, congrArg (Value.int .i64) e8'.out, rfl, rfl⟩
                case measure => simp [intOf]; omega
              · have e : i = 8 := by omega
                subst e
                clear hlt
                go_wp2
                go_ret
                exact ⟨_, ret_a64 (by exact (Hf.out false false _ rfl).symm), rfl⟩
      · skip
        have hyn' := eq_of_beq hyn
        have hxn' := hxn
        clear hyn hxn
        go_enter Try.func54, Try.ntmps54
        go_wp2_with (first | (go_at_call 31; refine (aY.out _).mono ?_; rintro e w' ⟨n, rfl, rfl⟩) | (go_at_call 31; refine (aX.out _).mono ?_; rintro e w' ⟨n, rfl, rfl⟩))
        clear y1 y2 x1 x2 hz hgt' q1 q1n
        go_loopw [8, 9] (fun x i wr => ∃ k n : Nat, k ≤ 3 ∧ i = .int .i64 k ∧ x = .float .f64 (hTo t k) ∧ wr = w.drewN n) (fun _ i _ => 3 - (intOf i).toNat)
        case atStart => exact ⟨0, _, by omega, rfl, rfl, rfl⟩
        case round =>
          obtain ⟨k, n, hk, rfl, rfl, rfl⟩ := hrel
          by_cases hlt : k < 3
          · have hb := hTo_bd H.out k
            have a1 := fun w => fopR_ex (hM_bd hb) w
            have a1n := fopN_ex (hM_bd hb)
            have a2 : ∀ w, fopR .add .f64 4607182418800017408 (aop .mul .f64 (hTo t k) (hTo t k)) w = hA (hTo t k) := fun w => fopR_ex (hA_all hb).2.1 w
            have a2n : fopN .add .f64 4607182418800017408 (aop .mul .f64 (hTo t k) (hTo t k)) = 0 := fopN_ex (hA_all hb).2.1
            have hn := (root_nn (hA_all hb).1 (hA_all hb).2.1).2
            have a3 := fun w => sqR_some hn w
            have a3n := sqN_some hn
            have a4 : ∀ w, fopR .add .f64 4607182418800017408 (asq (hA (hTo t k))) w = hB (hTo t k) := fun w => fopR_ex (hB_all hb).2.1 w
            have a4n : fopN .add .f64 4607182418800017408 (asq (hA (hTo t k))) = 0 := fopN_ex (hB_all hb).2.1
            have a5 : ∀ w, fopR .quo .f64 (hTo t k) (hB (hTo t k)) w = hTo t (k + 1) := fun w => fopR_ex (hV_bd hb) w
            have a5n : fopN .quo .f64 (hTo t k) (hB (hTo t k)) = 0 := fopN_ex (hV_bd hb)
            clear hb hn m1 m2 m3 m4 m5 m6 m7 m8 hxn' hyn' c1 c1n c2 c2n
            go_wp2
            go_roundw
            case rel => exact ⟨k + 1, _, by omega, by go_num, rfl, rfl⟩
            case measure => simp [intOf]; omega
          · have e : k = 3 := by omega
            subst e
            clear hlt
            go_wp2
            clear m1 m2
            go_loopw [11, 12] (fun q k wr => ∃ i n : Nat, i ≤ 8 ∧ k = .int .i64 (15 - 2 * (i : Int)) ∧ q = .float .f64 (anTo u i) ∧ wr = w.drewN n) (fun _ k _ => (intOf k + 1).toNat)
            case atStart => exact ⟨0, _, by omega, rfl, rfl, rfl⟩
            case round =>
              obtain ⟨i, n, hi, rfl, rfl, rfl⟩ := hrel
              by_cases hlt : i < 8
              · have hb := an_bd hU.out i hi
                have hk : floatOfInt .f64 (15 - 2 * (i : Int)) = k15 i := rfl
                have q1 := fun w => fopR_ex (k15_inv hlt) w
                have q1n := fopN_ex (k15_inv hlt)
                have o1 : one64 = 4607182418800017408 := rfl
                rw [o1] at q1 q1n
                have q2 := fun w => fopR_ex (an_mul hU.out hi hb) w
                have q2n := fopN_ex (an_mul hU.out hi hb)
                have q3 : ∀ w, fopR .sub .f64 (aop .quo .f64 4607182418800017408 (k15 i)) (aop .mul .f64 u (anTo u i)) w = anTo u (i + 1) := fun w => fopR_ex (an_step hU.out hlt hb) w
                have q3n : fopN .sub .f64 (aop .quo .f64 4607182418800017408 (k15 i)) (aop .mul .f64 u (anTo u i)) = 0 := fopN_ex (an_step hU.out hlt hb)
                have e8' := Lib.hid (show 15 - 2 * (i : Int) - 2 = 15 - 2 * ((i + 1 : Nat) : Int) by omega)
                clear hb o1 m3 m4 m5 m6 m7 m8 hxn' hyn' c1 c1n c2 c2n
                go_wp2
                go_roundw
                case rel => exact ⟨i + 1, _, by omega, congrArg (Value.int .i64) e8'.out, rfl, rfl⟩
                case measure => simp [intOf]; omega
              · have e : i = 8 := by omega
                subst e
                clear hlt
                go_wp2
                go_ret
                exact ⟨_, ret_a64 (by exact (Hf.out false true _ rfl).symm), rfl⟩
      · skip
        have hyn' := hyn
        have hxn' := eq_of_beq hxn
        clear hyn hxn
        go_enter Try.func54, Try.ntmps54
        go_wp2_with (first | (go_at_call 31; refine (aY.out _).mono ?_; rintro e w' ⟨n, rfl, rfl⟩) | (go_at_call 31; refine (aX.out _).mono ?_; rintro e w' ⟨n, rfl, rfl⟩))
        clear y1 y2 x1 x2 hz hgt' q1 q1n
        go_loopw [8, 9] (fun x i wr => ∃ k n : Nat, k ≤ 3 ∧ i = .int .i64 k ∧ x = .float .f64 (hTo t k) ∧ wr = w.drewN n) (fun _ i _ => 3 - (intOf i).toNat)
        case atStart => exact ⟨0, _, by omega, rfl, rfl, rfl⟩
        case round =>
          obtain ⟨k, n, hk, rfl, rfl, rfl⟩ := hrel
          by_cases hlt : k < 3
          · have hb := hTo_bd H.out k
            have a1 := fun w => fopR_ex (hM_bd hb) w
            have a1n := fopN_ex (hM_bd hb)
            have a2 : ∀ w, fopR .add .f64 4607182418800017408 (aop .mul .f64 (hTo t k) (hTo t k)) w = hA (hTo t k) := fun w => fopR_ex (hA_all hb).2.1 w
            have a2n : fopN .add .f64 4607182418800017408 (aop .mul .f64 (hTo t k) (hTo t k)) = 0 := fopN_ex (hA_all hb).2.1
            have hn := (root_nn (hA_all hb).1 (hA_all hb).2.1).2
            have a3 := fun w => sqR_some hn w
            have a3n := sqN_some hn
            have a4 : ∀ w, fopR .add .f64 4607182418800017408 (asq (hA (hTo t k))) w = hB (hTo t k) := fun w => fopR_ex (hB_all hb).2.1 w
            have a4n : fopN .add .f64 4607182418800017408 (asq (hA (hTo t k))) = 0 := fopN_ex (hB_all hb).2.1
            have a5 : ∀ w, fopR .quo .f64 (hTo t k) (hB (hTo t k)) w = hTo t (k + 1) := fun w => fopR_ex (hV_bd hb) w
            have a5n : fopN .quo .f64 (hTo t k) (hB (hTo t k)) = 0 := fopN_ex (hV_bd hb)
            clear hb hn m1 m2 m3 m4 m5 m6 m7 m8 hxn' hyn' c1 c1n c2 c2n
            go_wp2
            go_roundw
            case rel => exact ⟨k + 1, _, by omega, by go_num, rfl, rfl⟩
            case measure => simp [intOf]; omega
          · have e : k = 3 := by omega
            subst e
            clear hlt
            go_wp2
            clear m1 m2
            go_loopw [11, 12] (fun q k wr => ∃ i n : Nat, i ≤ 8 ∧ k = .int .i64 (15 - 2 * (i : Int)) ∧ q = .float .f64 (anTo u i) ∧ wr = w.drewN n) (fun _ k _ => (intOf k + 1).toNat)
            case atStart => exact ⟨0, _, by omega, rfl, rfl, rfl⟩
            case round =>
              obtain ⟨i, n, hi, rfl, rfl, rfl⟩ := hrel
              by_cases hlt : i < 8
              · have hb := an_bd hU.out i hi
                have hk : floatOfInt .f64 (15 - 2 * (i : Int)) = k15 i := rfl
                have q1 := fun w => fopR_ex (k15_inv hlt) w
                have q1n := fopN_ex (k15_inv hlt)
                have o1 : one64 = 4607182418800017408 := rfl
                rw [o1] at q1 q1n
                have q2 := fun w => fopR_ex (an_mul hU.out hi hb) w
                have q2n := fopN_ex (an_mul hU.out hi hb)
                have q3 : ∀ w, fopR .sub .f64 (aop .quo .f64 4607182418800017408 (k15 i)) (aop .mul .f64 u (anTo u i)) w = anTo u (i + 1) := fun w => fopR_ex (an_step hU.out hlt hb) w
                have q3n : fopN .sub .f64 (aop .quo .f64 4607182418800017408 (k15 i)) (aop .mul .f64 u (anTo u i)) = 0 := fopN_ex (an_step hU.out hlt hb)
                have e8' := Lib.hid (show 15 - 2 * (i : Int) - 2 = 15 - 2 * ((i + 1 : Nat) : Int) by omega)
                clear hb o1 m3 m4 m5 m6 m7 m8 hxn' hyn' c1 c1n c2 c2n
                go_wp2
                go_roundw
                case rel => exact ⟨i + 1, _, by omega, congrArg (Value.int .i64) e8'.out, rfl, rfl⟩
                case measure => simp [intOf]; omega
              · have e : i = 8 := by omega
                subst e
                clear hlt
                go_wp2
                go_ret
                exact ⟨_, ret_a64 (by exact (Hf.out true false _ rfl).symm), rfl⟩
      · skip
        have hyn' := eq_of_beq hyn
        have hxn' := eq_of_beq hxn
        clear hyn hxn
        go_enter Try.func54, Try.ntmps54
        go_wp2_with (first | (go_at_call 31; refine (aY.out _).mono ?_; rintro e w' ⟨n, rfl, rfl⟩) | (go_at_call 31; refine (aX.out _).mono ?_; rintro e w' ⟨n, rfl, rfl⟩))
        clear y1 y2 x1 x2 hz hgt' q1 q1n
        go_loopw [8, 9] (fun x i wr => ∃ k n : Nat, k ≤ 3 ∧ i = .int .i64 k ∧ x = .float .f64 (hTo t k) ∧ wr = w.drewN n) (fun _ i _ => 3 - (intOf i).toNat)
        case atStart => exact ⟨0, _, by omega, rfl, rfl, rfl⟩
        case round =>
          obtain ⟨k, n, hk, rfl, rfl, rfl⟩ := hrel
          by_cases hlt : k < 3
          · have hb := hTo_bd H.out k
            have a1 := fun w => fopR_ex (hM_bd hb) w
            have a1n := fopN_ex (hM_bd hb)
            have a2 : ∀ w, fopR .add .f64 4607182418800017408 (aop .mul .f64 (hTo t k) (hTo t k)) w = hA (hTo t k) := fun w => fopR_ex (hA_all hb).2.1 w
            have a2n : fopN .add .f64 4607182418800017408 (aop .mul .f64 (hTo t k) (hTo t k)) = 0 := fopN_ex (hA_all hb).2.1
            have hn := (root_nn (hA_all hb).1 (hA_all hb).2.1).2
            have a3 := fun w => sqR_some hn w
            have a3n := sqN_some hn
            have a4 : ∀ w, fopR .add .f64 4607182418800017408 (asq (hA (hTo t k))) w = hB (hTo t k) := fun w => fopR_ex (hB_all hb).2.1 w
            have a4n : fopN .add .f64 4607182418800017408 (asq (hA (hTo t k))) = 0 := fopN_ex (hB_all hb).2.1
            have a5 : ∀ w, fopR .quo .f64 (hTo t k) (hB (hTo t k)) w = hTo t (k + 1) := fun w => fopR_ex (hV_bd hb) w
            have a5n : fopN .quo .f64 (hTo t k) (hB (hTo t k)) = 0 := fopN_ex (hV_bd hb)
            clear hb hn m1 m2 m3 m4 m5 m6 m7 m8 hxn' hyn' c1 c1n c2 c2n
            go_wp2
            go_roundw
            case rel => exact ⟨k + 1, _, by omega, by go_num, rfl, rfl⟩
            case measure => simp [intOf]; omega
          · have e : k = 3 := by omega
            subst e
            clear hlt
            go_wp2
            clear m1 m2
            go_loopw [11, 12] (fun q k wr => ∃ i n : Nat, i ≤ 8 ∧ k = .int .i64 (15 - 2 * (i : Int)) ∧ q = .float .f64 (anTo u i) ∧ wr = w.drewN n) (fun _ k _ => (intOf k + 1).toNat)
            case atStart => exact ⟨0, _, by omega, rfl, rfl, rfl⟩
            case round =>
              obtain ⟨i, n, hi, rfl, rfl, rfl⟩ := hrel
              by_cases hlt : i < 8
              · have hb := an_bd hU.out i hi
                have hk : floatOfInt .f64 (15 - 2 * (i : Int)) = k15 i := rfl
                have q1 := fun w => fopR_ex (k15_inv hlt) w
                have q1n := fopN_ex (k15_inv hlt)
                have o1 : one64 = 4607182418800017408 := rfl
                rw [o1] at q1 q1n
                have q2 := fun w => fopR_ex (an_mul hU.out hi hb) w
                have q2n := fopN_ex (an_mul hU.out hi hb)
                have q3 : ∀ w, fopR .sub .f64 (aop .quo .f64 4607182418800017408 (k15 i)) (aop .mul .f64 u (anTo u i)) w = anTo u (i + 1) := fun w => fopR_ex (an_step hU.out hlt hb) w
                have q3n : fopN .sub .f64 (aop .quo .f64 4607182418800017408 (k15 i)) (aop .mul .f64 u (anTo u i)) = 0 := fopN_ex (an_step hU.out hlt hb)
                have e8' := Lib.hid (show 15 - 2 * (i : Int) - 2 = 15 - 2 * ((i + 1 : Nat) : Int) by omega)
                clear hb o1 m3 m4 m5 m6 m7 m8 hxn' hyn' c1 c1n c2 c2n
                go_wp2
                go_roundw
                case rel => exact ⟨i + 1, _, by omega, congrArg (Value.int .i64) e8'.out, rfl, rfl⟩
                case measure => simp [intOf]; omega
              · have e : i = 8 := by omega
                subst e
                clear hlt
                go_wp2
                go_ret
                exact ⟨_, ret_a64 (by exact (Hf.out true true _ rfl).symm), rfl⟩
    · rw [if_neg hov] at ht0 hn1 qx
      have q1 : ∀ w, fopR .quo .f64 A B w = t := fun w => by rw [ht0]; exact fopR_ex qx w
      have q1n : fopN .quo .f64 A B = 0 := fopN_ex qx
      rw [decide_eq_false hov] at hgt
      have hgt' := hgt
      subst hn1
      clear ht0 qx hov hgt
      cases xn <;> cases yn
      · skip
        have hyn' := hyn
        have hxn' := hxn
        clear hyn hxn
        go_enter Try.func54, Try.ntmps54
        go_wp2_with (first | (go_at_call 31; refine (aY.out _).mono ?_; rintro e w' ⟨n, rfl, rfl⟩) | (go_at_call 31; refine (aX.out _).mono ?_; rintro e w' ⟨n, rfl, rfl⟩))
        clear y1 y2 x1 x2 hz hgt' q1 q1n
        go_loopw [8, 9] (fun x i wr => ∃ k n : Nat, k ≤ 3 ∧ i = .int .i64 k ∧ x = .float .f64 (hTo t k) ∧ wr = w.drewN n) (fun _ i _ => 3 - (intOf i).toNat)
        case atStart => exact ⟨0, _, by omega, rfl, rfl, rfl⟩
        case round =>
          obtain ⟨k, n, hk, rfl, rfl, rfl⟩ := hrel
          by_cases hlt : k < 3
          · have hb := hTo_bd H.out k
            have a1 := fun w => fopR_ex (hM_bd hb) w
            have a1n := fopN_ex (hM_bd hb)
            have a2 : ∀ w, fopR .add .f64 4607182418800017408 (aop .mul .f64 (hTo t k) (hTo t k)) w = hA (hTo t k) := fun w => fopR_ex (hA_all hb).2.1 w
            have a2n : fopN .add .f64 4607182418800017408 (aop .mul .f64 (hTo t k) (hTo t k)) = 0 := fopN_ex (hA_all hb).2.1
            have hn := (root_nn (hA_all hb).1 (hA_all hb).2.1).2
            have a3 := fun w => sqR_some hn w
            have a3n := sqN_some hn
            have a4 : ∀ w, fopR .add .f64 4607182418800017408 (asq (hA (hTo t k))) w = hB (hTo t k) := fun w => fopR_ex (hB_all hb).2.1 w
            have a4n : fopN .add .f64 4607182418800017408 (asq (hA (hTo t k))) = 0 := fopN_ex (hB_all hb).2.1
            have a5 : ∀ w, fopR .quo .f64 (hTo t k) (hB (hTo t k)) w = hTo t (k + 1) := fun w => fopR_ex (hV_bd hb) w
            have a5n : fopN .quo .f64 (hTo t k) (hB (hTo t k)) = 0 := fopN_ex (hV_bd hb)
            clear hb hn m1 m2 m3 m4 m5 m6 m7 m8 hxn' hyn' c1 c1n c2 c2n
            go_wp2
            go_roundw
            case rel => exact ⟨k + 1, _, by omega, by go_num, rfl, rfl⟩
            case measure => simp [intOf]; omega
          · have e : k = 3 := by omega
            subst e
            clear hlt
            go_wp2
            clear m1 m2
            go_loopw [11, 12] (fun q k wr => ∃ i n : Nat, i ≤ 8 ∧ k = .int .i64 (15 - 2 * (i : Int)) ∧ q = .float .f64 (anTo u i) ∧ wr = w.drewN n) (fun _ k _ => (intOf k + 1).toNat)
            case atStart => exact ⟨0, _, by omega, rfl, rfl, rfl⟩
            case round =>
              obtain ⟨i, n, hi, rfl, rfl, rfl⟩ := hrel
              by_cases hlt : i < 8
              · have hb := an_bd hU.out i hi
                have hk : floatOfInt .f64 (15 - 2 * (i : Int)) = k15 i := rfl
                have q1 := fun w => fopR_ex (k15_inv hlt) w
                have q1n := fopN_ex (k15_inv hlt)
                have o1 : one64 = 4607182418800017408 := rfl
                rw [o1] at q1 q1n
                have q2 := fun w => fopR_ex (an_mul hU.out hi hb) w
                have q2n := fopN_ex (an_mul hU.out hi hb)
                have q3 : ∀ w, fopR .sub .f64 (aop .quo .f64 4607182418800017408 (k15 i)) (aop .mul .f64 u (anTo u i)) w = anTo u (i + 1) := fun w => fopR_ex (an_step hU.out hlt hb) w
                have q3n : fopN .sub .f64 (aop .quo .f64 4607182418800017408 (k15 i)) (aop .mul .f64 u (anTo u i)) = 0 := fopN_ex (an_step hU.out hlt hb)
                have e8' := Lib.hid (show 15 - 2 * (i : Int) - 2 = 15 - 2 * ((i + 1 : Nat) : Int) by omega)
                clear hb o1 m3 m4 m5 m6 m7 m8 hxn' hyn' c1 c1n c2 c2n
                go_wp2
                go_roundw
                case rel => exact ⟨i + 1, _, by omega, congrArg (Value.int .i64) e8'.out, rfl, rfl⟩
                case measure => simp [intOf]; omega
              · have e : i = 8 := by omega
                subst e
                clear hlt
                go_wp2
                go_ret
                exact ⟨_, ret_a64 (by exact (Hf.out false false _ rfl).symm), rfl⟩
      · skip
        have hyn' := eq_of_beq hyn
        have hxn' := hxn
        clear hyn hxn
        go_enter Try.func54, Try.ntmps54
        go_wp2_with (first | (go_at_call 31; refine (aY.out _).mono ?_; rintro e w' ⟨n, rfl, rfl⟩) | (go_at_call 31; refine (aX.out _).mono ?_; rintro e w' ⟨n, rfl, rfl⟩))
        clear y1 y2 x1 x2 hz hgt' q1 q1n
        go_loopw [8, 9] (fun x i wr => ∃ k n : Nat, k ≤ 3 ∧ i = .int .i64 k ∧ x = .float .f64 (hTo t k) ∧ wr = w.drewN n) (fun _ i _ => 3 - (intOf i).toNat)
        case atStart => exact ⟨0, _, by omega, rfl, rfl, rfl⟩
        case round =>
          obtain ⟨k, n, hk, rfl, rfl, rfl⟩ := hrel
          by_cases hlt : k < 3
          · have hb := hTo_bd H.out k
            have a1 := fun w => fopR_ex (hM_bd hb) w
            have a1n := fopN_ex (hM_bd hb)
            have a2 : ∀ w, fopR .add .f64 4607182418800017408 (aop .mul .f64 (hTo t k) (hTo t k)) w = hA (hTo t k) := fun w => fopR_ex (hA_all hb).2.1 w
            have a2n : fopN .add .f64 4607182418800017408 (aop .mul .f64 (hTo t k) (hTo t k)) = 0 := fopN_ex (hA_all hb).2.1
            have hn := (root_nn (hA_all hb).1 (hA_all hb).2.1).2
            have a3 := fun w => sqR_some hn w
            have a3n := sqN_some hn
            have a4 : ∀ w, fopR .add .f64 4607182418800017408 (asq (hA (hTo t k))) w = hB (hTo t k) := fun w => fopR_ex (hB_all hb).2.1 w
            have a4n : fopN .add .f64 4607182418800017408 (asq (hA (hTo t k))) = 0 := fopN_ex (hB_all hb).2.1
            have a5 : ∀ w, fopR .quo .f64 (hTo t k) (hB (hTo t k)) w = hTo t (k + 1) := fun w => fopR_ex (hV_bd hb) w
            have a5n : fopN .quo .f64 (hTo t k) (hB (hTo t k)) = 0 := fopN_ex (hV_bd hb)
            clear hb hn m1 m2 m3 m4 m5 m6 m7 m8 hxn' hyn' c1 c1n c2 c2n
            go_wp2
            go_roundw
            case rel => exact ⟨k + 1, _, by omega, by go_num, rfl, rfl⟩
            case measure => simp [intOf]; omega
          · have e : k = 3 := by omega
            subst e
            clear hlt
            go_wp2
            clear m1 m2
            go_loopw [11, 12] (fun q k wr => ∃ i n : Nat, i ≤ 8 ∧ k = .int .i64 (15 - 2 * (i : Int)) ∧ q = .float .f64 (anTo u i) ∧ wr = w.drewN n) (fun _ k _ => (intOf k + 1).toNat)
            case atStart => exact ⟨0, _, by omega, rfl, rfl, rfl⟩
            case round =>
              obtain ⟨i, n, hi, rfl, rfl, rfl⟩ := hrel
              by_cases hlt : i < 8
              · have hb := an_bd hU.out i hi
                have hk : floatOfInt .f64 (15 - 2 * (i : Int)) = k15 i := rfl
                have q1 := fun w => fopR_ex (k15_inv hlt) w
                have q1n := fopN_ex (k15_inv hlt)
                have o1 : one64 = 4607182418800017408 := rfl
                rw [o1] at q1 q1n
                have q2 := fun w => fopR_ex (an_mul hU.out hi hb) w
                have q2n := fopN_ex (an_mul hU.out hi hb)
                have q3 : ∀ w, fopR .sub .f64 (aop .quo .f64 4607182418800017408 (k15 i)) (aop .mul .f64 u (anTo u i)) w = anTo u (i + 1) := fun w => fopR_ex (an_step hU.out hlt hb) w
                have q3n : fopN .sub .f64 (aop .quo .f64 4607182418800017408 (k15 i)) (aop .mul .f64 u (anTo u i)) = 0 := fopN_ex (an_step hU.out hlt hb)
                have e8' := Lib.hid (show 15 - 2 * (i : Int) - 2 = 15 - 2 * ((i + 1 : Nat) : Int) by omega)
                clear hb o1 m3 m4 m5 m6 m7 m8 hxn' hyn' c1 c1n c2 c2n
                go_wp2
                go_roundw
                case rel => exact ⟨i + 1, _, by omega, congrArg (Value.int .i64) e8'.out, rfl, rfl⟩
                case measure => simp [intOf]; omega
              · have e : i = 8 := by omega
                subst e
                clear hlt
                go_wp2
                go_ret
                exact ⟨_, ret_a64 (by exact (Hf.out false true _ rfl).symm), rfl⟩
      · skip
        have hyn' := hyn
        have hxn' := eq_of_beq hxn
        clear hyn hxn
        go_enter Try.func54, Try.ntmps54
        go_wp2_with (first | (go_at_call 31; refine (aY.out _).mono ?_; rintro e w' ⟨n, rfl, rfl⟩) | (go_at_call 31; refine (aX.out _).mono ?_; rintro e w' ⟨n, rfl, rfl⟩))
        clear y1 y2 x1 x2 hz hgt' q1 q1n
        go_loopw [8, 9] (fun x i wr => ∃ k n : Nat, k ≤ 3 ∧ i = .int .i64 k ∧ x = .float .f64 (hTo t k) ∧ wr = w.drewN n) (fun _ i _ => 3 - (intOf i).toNat)
        case atStart => exact ⟨0, _, by omega, rfl, rfl, rfl⟩
        case round =>
          obtain ⟨k, n, hk, rfl, rfl, rfl⟩ := hrel
          by_cases hlt : k < 3
          · have hb := hTo_bd H.out k
            have a1 := fun w => fopR_ex (hM_bd hb) w
            have a1n := fopN_ex (hM_bd hb)
            have a2 : ∀ w, fopR .add .f64 4607182418800017408 (aop .mul .f64 (hTo t k) (hTo t k)) w = hA (hTo t k) := fun w => fopR_ex (hA_all hb).2.1 w
            have a2n : fopN .add .f64 4607182418800017408 (aop .mul .f64 (hTo t k) (hTo t k)) = 0 := fopN_ex (hA_all hb).2.1
            have hn := (root_nn (hA_all hb).1 (hA_all hb).2.1).2
            have a3 := fun w => sqR_some hn w
            have a3n := sqN_some hn
            have a4 : ∀ w, fopR .add .f64 4607182418800017408 (asq (hA (hTo t k))) w = hB (hTo t k) := fun w => fopR_ex (hB_all hb).2.1 w
            have a4n : fopN .add .f64 4607182418800017408 (asq (hA (hTo t k))) = 0 := fopN_ex (hB_all hb).2.1
            have a5 : ∀ w, fopR .quo .f64 (hTo t k) (hB (hTo t k)) w = hTo t (k + 1) := fun w => fopR_ex (hV_bd hb) w
            have a5n : fopN .quo .f64 (hTo t k) (hB (hTo t k)) = 0 := fopN_ex (hV_bd hb)
            clear hb hn m1 m2 m3 m4 m5 m6 m7 m8 hxn' hyn' c1 c1n c2 c2n
            go_wp2
            go_roundw
            case rel => exact ⟨k + 1, _, by omega, by go_num, rfl, rfl⟩
            case measure => simp [intOf]; omega
          · have e : k = 3 := by omega
            subst e
            clear hlt
            go_wp2
            clear m1 m2
            go_loopw [11, 12] (fun q k wr => ∃ i n : Nat, i ≤ 8 ∧ k = .int .i64 (15 - 2 * (i : Int)) ∧ q = .float .f64 (anTo u i) ∧ wr = w.drewN n) (fun _ k _ => (intOf k + 1).toNat)
            case atStart => exact ⟨0, _, by omega, rfl, rfl, rfl⟩
            case round =>
              obtain ⟨i, n, hi, rfl, rfl, rfl⟩ := hrel
              by_cases hlt : i < 8
              · have hb := an_bd hU.out i hi
                have hk : floatOfInt .f64 (15 - 2 * (i : Int)) = k15 i := rfl
                have q1 := fun w => fopR_ex (k15_inv hlt) w
                have q1n := fopN_ex (k15_inv hlt)
                have o1 : one64 = 4607182418800017408 := rfl
                rw [o1] at q1 q1n
                have q2 := fun w => fopR_ex (an_mul hU.out hi hb) w
                have q2n := fopN_ex (an_mul hU.out hi hb)
                have q3 : ∀ w, fopR .sub .f64 (aop .quo .f64 4607182418800017408 (k15 i)) (aop .mul .f64 u (anTo u i)) w = anTo u (i + 1) := fun w => fopR_ex (an_step hU.out hlt hb) w
                have q3n : fopN .sub .f64 (aop .quo .f64 4607182418800017408 (k15 i)) (aop .mul .f64 u (anTo u i)) = 0 := fopN_ex (an_step hU.out hlt hb)
                have e8' := Lib.hid (show 15 - 2 * (i : Int) - 2 = 15 - 2 * ((i + 1 : Nat) : Int) by omega)
                clear hb o1 m3 m4 m5 m6 m7 m8 hxn' hyn' c1 c1n c2 c2n
                go_wp2
                go_roundw
                case rel => exact ⟨i + 1, _, by omega, congrArg (Value.int .i64) e8'.out, rfl, rfl⟩
                case measure => simp [intOf]; omega
              · have e : i = 8 := by omega
                subst e
                clear hlt
                go_wp2
                go_ret
                exact ⟨_, ret_a64 (by exact (Hf.out true false _ rfl).symm), rfl⟩
      · skip
        have hyn' := eq_of_beq hyn
        have hxn' := eq_of_beq hxn
        clear hyn hxn
        go_enter Try.func54, Try.ntmps54
        go_wp2_with (first | (go_at_call 31; refine (aY.out _).mono ?_; rintro e w' ⟨n, rfl, rfl⟩) | (go_at_call 31; refine (aX.out _).mono ?_; rintro e w' ⟨n, rfl, rfl⟩))
        clear y1 y2 x1 x2 hz hgt' q1 q1n
        go_loopw [8, 9] (fun x i wr => ∃ k n : Nat, k ≤ 3 ∧ i = .int .i64 k ∧ x = .float .f64 (hTo t k) ∧ wr = w.drewN n) (fun _ i _ => 3 - (intOf i).toNat)
        case atStart => exact ⟨0, _, by omega, rfl, rfl, rfl⟩
        case round =>
          obtain ⟨k, n, hk, rfl, rfl, rfl⟩ := hrel
          by_cases hlt : k < 3
          · have hb := hTo_bd H.out k
            have a1 := fun w => fopR_ex (hM_bd hb) w
            have a1n := fopN_ex (hM_bd hb)
            have a2 : ∀ w, fopR .add .f64 4607182418800017408 (aop .mul .f64 (hTo t k) (hTo t k)) w = hA (hTo t k) := fun w => fopR_ex (hA_all hb).2.1 w
            have a2n : fopN .add .f64 4607182418800017408 (aop .mul .f64 (hTo t k) (hTo t k)) = 0 := fopN_ex (hA_all hb).2.1
            have hn := (root_nn (hA_all hb).1 (hA_all hb).2.1).2
            have a3 := fun w => sqR_some hn w
            have a3n := sqN_some hn
            have a4 : ∀ w, fopR .add .f64 4607182418800017408 (asq (hA (hTo t k))) w = hB (hTo t k) := fun w => fopR_ex (hB_all hb).2.1 w
            have a4n : fopN .add .f64 4607182418800017408 (asq (hA (hTo t k))) = 0 := fopN_ex (hB_all hb).2.1
            have a5 : ∀ w, fopR .quo .f64 (hTo t k) (hB (hTo t k)) w = hTo t (k + 1) := fun w => fopR_ex (hV_bd hb) w
            have a5n : fopN .quo .f64 (hTo t k) (hB (hTo t k)) = 0 := fopN_ex (hV_bd hb)
            clear hb hn m1 m2 m3 m4 m5 m6 m7 m8 hxn' hyn' c1 c1n c2 c2n
            go_wp2
            go_roundw
            case rel => exact ⟨k + 1, _, by omega, by go_num, rfl, rfl⟩
            case measure => simp [intOf]; omega
          · have e : k = 3 := by omega
            subst e
            clear hlt
            go_wp2
            clear m1 m2
            go_loopw [11, 12] (fun q k wr => ∃ i n : Nat, i ≤ 8 ∧ k = .int .i64 (15 - 2 * (i : Int)) ∧ q = .float .f64 (anTo u i) ∧ wr = w.drewN n) (fun _ k _ => (intOf k + 1).toNat)
            case atStart => exact ⟨0, _, by omega, rfl, rfl, rfl⟩
            case round =>
              obtain ⟨i, n, hi, rfl, rfl, rfl⟩ := hrel
              by_cases hlt : i < 8
              · have hb := an_bd hU.out i hi
                have hk : floatOfInt .f64 (15 - 2 * (i : Int)) = k15 i := rfl
                have q1 := fun w => fopR_ex (k15_inv hlt) w
                have q1n := fopN_ex (k15_inv hlt)
                have o1 : one64 = 4607182418800017408 := rfl
                rw [o1] at q1 q1n
                have q2 := fun w => fopR_ex (an_mul hU.out hi hb) w
                have q2n := fopN_ex (an_mul hU.out hi hb)
                have q3 : ∀ w, fopR .sub .f64 (aop .quo .f64 4607182418800017408 (k15 i)) (aop .mul .f64 u (anTo u i)) w = anTo u (i + 1) := fun w => fopR_ex (an_step hU.out hlt hb) w
                have q3n : fopN .sub .f64 (aop .quo .f64 4607182418800017408 (k15 i)) (aop .mul .f64 u (anTo u i)) = 0 := fopN_ex (an_step hU.out hlt hb)
                have e8' := Lib.hid (show 15 - 2 * (i : Int) - 2 = 15 - 2 * ((i + 1 : Nat) : Int) by omega)
                clear hb o1 m3 m4 m5 m6 m7 m8 hxn' hyn' c1 c1n c2 c2n
                go_wp2
                go_roundw
                case rel => exact ⟨i + 1, _, by omega, congrArg (Value.int .i64) e8'.out, rfl, rfl⟩
                case measure => simp [intOf]; omega
              · have e : i = 8 := by omega
                subst e
                clear hlt
                go_wp2
                go_ret
                exact ⟨_, ret_a64 (by exact (Hf.out true true _ rfl).symm), rfl⟩
  · by_cases hov : B < A
    · rw [if_pos hov] at ht0 hn1 qx
      have q1 : ∀ w, fopR .quo .f64 B A w = t := fun w => by rw [ht0]; exact fopR_ex qx w
      have q1n : fopN .quo .f64 B A = 0 := fopN_ex qx
      rw [decide_eq_true hov] at hgt
      rw [← hn1] at c1
      have hgt' := eq_of_beq hgt
      clear ht0 qx hov hgt hn1
      cases xn <;> cases yn
      · skip
        have hyn' := hyn
        have hxn' := hxn
        clear hyn hxn
        go_enter Try.func54, Try.ntmps54
        go_wp2_with (first | (go_at_call 31; refine (aY.out _).mono ?_; rintro e w' ⟨n, rfl, rfl⟩) | (go_at_call 31; refine (aX.out _).mono ?_; rintro e w' ⟨n, rfl, rfl⟩))
        clear y1 y2 x1 x2 hz hgt' q1 q1n hz2
        go_loopw [8, 9] (fun x i wr => ∃ k n : Nat, k ≤ 3 ∧ i = .int .i64 k ∧ x = .float .f64 (hTo t k) ∧ wr = w.drewN n) (fun _ i _ => 3 - (intOf i).toNat)
        case atStart => exact ⟨0, _, by omega, rfl, rfl, rfl⟩
        case round =>
          obtain ⟨k, n, hk, rfl, rfl, rfl⟩ := hrel
          by_cases hlt : k < 3
          · have hb := hTo_bd H.out k
            have a1 := fun w => fopR_ex (hM_bd hb) w
            have a1n := fopN_ex (hM_bd hb)
            have a2 : ∀ w, fopR .add .f64 4607182418800017408 (aop .mul .f64 (hTo t k) (hTo t k)) w = hA (hTo t k) := fun w => fopR_ex (hA_all hb).2.1 w
            have a2n : fopN .add .f64 4607182418800017408 (aop .mul .f64 (hTo t k) (hTo t k)) = 0 := fopN_ex (hA_all hb).2.1
            have hn := (root_nn (hA_all hb).1 (hA_all hb).2.1).2
            have a3 := fun w => sqR_some hn w
            have a3n := sqN_some hn
            have a4 : ∀ w, fopR .add .f64 4607182418800017408 (asq (hA (hTo t k))) w = hB (hTo t k) := fun w => fopR_ex (hB_all hb).2.1 w
            have a4n : fopN .add .f64 4607182418800017408 (asq (hA (hTo t k))) = 0 := fopN_ex (hB_all hb).2.1
            have a5 : ∀ w, fopR .quo .f64 (hTo t k) (hB (hTo t k)) w = hTo t (k + 1) := fun w => fopR_ex (hV_bd hb) w
            have a5n : fopN .quo .f64 (hTo t k) (hB (hTo t k)) = 0 := fopN_ex (hV_bd hb)
            clear hb hn m1 m2 m3 m4 m5 m6 m7 m8 hxn' hyn' c1 c1n c2 c2n
            go_wp2
            go_roundw
            case rel => exact ⟨k + 1, _, by omega, by go_num, rfl, rfl⟩
            case measure => simp [intOf]; omega
          · have e : k = 3 := by omega
            subst e
            clear hlt
            go_wp2
            clear m1 m2
            go_loopw [11, 12] (fun q k wr => ∃ i n : Nat, i ≤ 8 ∧ k = .int .i64 (15 - 2 * (i : Int)) ∧ q = .float .f64 (anTo u i) ∧ wr = w.drewN n) (fun _ k _ => (intOf k + 1).toNat)
            case atStart => exact ⟨0, _, by omega, rfl, rfl, rfl⟩
            case round =>
              obtain ⟨i, n, hi, rfl, rfl, rfl⟩ := hrel
              by_cases hlt : i < 8
              · have hb := an_bd hU.out i hi
                have hk : floatOfInt .f64 (15 - 2 * (i : Int)) = k15 i := rfl
                have q1 := fun w => fopR_ex (k15_inv hlt) w
                have q1n := fopN_ex (k15_inv hlt)
                have o1 : one64 = 4607182418800017408 := rfl
                rw [o1] at q1 q1n
                have q2 := fun w => fopR_ex (an_mul hU.out hi hb) w
                have q2n := fopN_ex (an_mul hU.out hi hb)
                have q3 : ∀ w, fopR .sub .f64 (aop .quo .f64 4607182418800017408 (k15 i)) (aop .mul .f64 u (anTo u i)) w = anTo u (i + 1) := fun w => fopR_ex (an_step hU.out hlt hb) w
                have q3n : fopN .sub .f64 (aop .quo .f64 4607182418800017408 (k15 i)) (aop .mul .f64 u (anTo u i)) = 0 := fopN_ex (an_step hU.out hlt hb)
                have e8' := Lib.hid (show 15 - 2 * (i : Int) - 2 = 15 - 2 * ((i + 1 : Nat) : Int) by omega)
                clear hb o1 m3 m4 m5 m6 m7 m8 hxn' hyn' c1 c1n c2 c2n
                go_wp2
                go_roundw
                case rel => exact ⟨i + 1, _, by omega, congrArg (Value.int .i64) e8'.out, rfl, rfl⟩
                case measure => simp [intOf]; omega
              · have e : i = 8 := by omega
                subst e
                clear hlt
                go_wp2
                go_ret
                exact ⟨_, ret_a64 (by exact (Hf.out false false _ rfl).symm), rfl⟩
      · skip
        have hyn' := eq_of_beq hyn
        have hxn' := hxn
        clear hyn hxn
        go_enter Try.func54, Try.ntmps54
        go_wp2_with (first | (go_at_call 31; refine (aY.out _).mono ?_; rintro e w' ⟨n, rfl, rfl⟩) | (go_at_call 31; refine (aX.out _).mono ?_; rintro e w' ⟨n, rfl, rfl⟩))
        clear y1 y2 x1 x2 hz hgt' q1 q1n hz2
        go_loopw [8, 9] (fun x i wr => ∃ k n : Nat, k ≤ 3 ∧ i = .int .i64 k ∧ x = .float .f64 (hTo t k) ∧ wr = w.drewN n) (fun _ i _ => 3 - (intOf i).toNat)
        case atStart => exact ⟨0, _, by omega, rfl, rfl, rfl⟩
        case round =>
          obtain ⟨k, n, hk, rfl, rfl, rfl⟩ := hrel
          by_cases hlt : k < 3
          · have hb := hTo_bd H.out k
            have a1 := fun w => fopR_ex (hM_bd hb) w
            have a1n := fopN_ex (hM_bd hb)
            have a2 : ∀ w, fopR .add .f64 4607182418800017408 (aop .mul .f64 (hTo t k) (hTo t k)) w = hA (hTo t k) := fun w => fopR_ex (hA_all hb).2.1 w
            have a2n : fopN .add .f64 4607182418800017408 (aop .mul .f64 (hTo t k) (hTo t k)) = 0 := fopN_ex (hA_all hb).2.1
            have hn := (root_nn (hA_all hb).1 (hA_all hb).2.1).2
            have a3 := fun w => sqR_some hn w
            have a3n := sqN_some hn
            have a4 : ∀ w, fopR .add .f64 4607182418800017408 (asq (hA (hTo t k))) w = hB (hTo t k) := fun w => fopR_ex (hB_all hb).2.1 w
            have a4n : fopN .add .f64 4607182418800017408 (asq (hA (hTo t k))) = 0 := fopN_ex (hB_all hb).2.1
            have a5 : ∀ w, fopR .quo .f64 (hTo t k) (hB (hTo t k)) w = hTo t (k + 1) := fun w => fopR_ex (hV_bd hb) w
            have a5n : fopN .quo .f64 (hTo t k) (hB (hTo t k)) = 0 := fopN_ex (hV_bd hb)
            clear hb hn m1 m2 m3 m4 m5 m6 m7 m8 hxn' hyn' c1 c1n c2 c2n
            go_wp2
            go_roundw
            case rel => exact ⟨k + 1, _, by omega, by go_num, rfl, rfl⟩
            case measure => simp [intOf]; omega
          · have e : k = 3 := by omega
            subst e
            clear hlt
            go_wp2
            clear m1 m2
            go_loopw [11, 12] (fun q k wr => ∃ i n : Nat, i ≤ 8 ∧ k = .int .i64 (15 - 2 * (i : Int)) ∧ q = .float .f64 (anTo u i) ∧ wr = w.drewN n) (fun _ k _ => (intOf k + 1).toNat)
            case atStart => exact ⟨0, _, by omega, rfl, rfl, rfl⟩
            case round =>
              obtain ⟨i, n, hi, rfl, rfl, rfl⟩ := hrel
              by_cases hlt : i < 8
              · have hb := an_bd hU.out i hi
                have hk : floatOfInt .f64 (15 - 2 * (i : Int)) = k15 i := rfl
                have q1 := fun w => fopR_ex (k15_inv hlt) w
                have q1n := fopN_ex (k15_inv hlt)
                have o1 : one64 = 4607182418800017408 := rfl
                rw [o1] at q1 q1n
                have q2 := fun w => fopR_ex (an_mul hU.out hi hb) w
                have q2n := fopN_ex (an_mul hU.out hi hb)
                have q3 : ∀ w, fopR .sub .f64 (aop .quo .f64 4607182418800017408 (k15 i)) (aop .mul .f64 u (anTo u i)) w = anTo u (i + 1) := fun w => fopR_ex (an_step hU.out hlt hb) w
                have q3n : fopN .sub .f64 (aop .quo .f64 4607182418800017408 (k15 i)) (aop .mul .f64 u (anTo u i)) = 0 := fopN_ex (an_step hU.out hlt hb)
                have e8' := Lib.hid (show 15 - 2 * (i : Int) - 2 = 15 - 2 * ((i + 1 : Nat) : Int) by omega)
                clear hb o1 m3 m4 m5 m6 m7 m8 hxn' hyn' c1 c1n c2 c2n
                go_wp2
                go_roundw
                case rel => exact ⟨i + 1, _, by omega, congrArg (Value.int .i64) e8'.out, rfl, rfl⟩
                case measure => simp [intOf]; omega
              · have e : i = 8 := by omega
                subst e
                clear hlt
                go_wp2
                go_ret
                exact ⟨_, ret_a64 (by exact (Hf.out false true _ rfl).symm), rfl⟩
      · skip
        have hyn' := hyn
        have hxn' := eq_of_beq hxn
        clear hyn hxn
        go_enter Try.func54, Try.ntmps54
        go_wp2_with (first | (go_at_call 31; refine (aY.out _).mono ?_; rintro e w' ⟨n, rfl, rfl⟩) | (go_at_call 31; refine (aX.out _).mono ?_; rintro e w' ⟨n, rfl, rfl⟩))
        clear y1 y2 x1 x2 hz hgt' q1 q1n hz2
        go_loopw [8, 9] (fun x i wr => ∃ k n : Nat, k ≤ 3 ∧ i = .int .i64 k ∧ x = .float .f64 (hTo t k) ∧ wr = w.drewN n) (fun _ i _ => 3 - (intOf i).toNat)
        case atStart => exact ⟨0, _, by omega, rfl, rfl, rfl⟩
        case round =>
          obtain ⟨k, n, hk, rfl, rfl, rfl⟩ := hrel
          by_cases hlt : k < 3
          · have hb := hTo_bd H.out k
            have a1 := fun w => fopR_ex (hM_bd hb) w
            have a1n := fopN_ex (hM_bd hb)
            have a2 : ∀ w, fopR .add .f64 4607182418800017408 (aop .mul .f64 (hTo t k) (hTo t k)) w = hA (hTo t k) := fun w => fopR_ex (hA_all hb).2.1 w
            have a2n : fopN .add .f64 4607182418800017408 (aop .mul .f64 (hTo t k) (hTo t k)) = 0 := fopN_ex (hA_all hb).2.1
            have hn := (root_nn (hA_all hb).1 (hA_all hb).2.1).2
            have a3 := fun w => sqR_some hn w
            have a3n := sqN_some hn
            have a4 : ∀ w, fopR .add .f64 4607182418800017408 (asq (hA (hTo t k))) w = hB (hTo t k) := fun w => fopR_ex (hB_all hb).2.1 w
            have a4n : fopN .add .f64 4607182418800017408 (asq (hA (hTo t k))) = 0 := fopN_ex (hB_all hb).2.1
            have a5 : ∀ w, fopR .quo .f64 (hTo t k) (hB (hTo t k)) w = hTo t (k + 1) := fun w => fopR_ex (hV_bd hb) w
            have a5n : fopN .quo .f64 (hTo t k) (hB (hTo t k)) = 0 := fopN_ex (hV_bd hb)
            clear hb hn m1 m2 m3 m4 m5 m6 m7 m8 hxn' hyn' c1 c1n c2 c2n
            go_wp2
            go_roundw
            case rel => exact ⟨k + 1, _, by omega, by go_num, rfl, rfl⟩
            case measure => simp [intOf]; omega
          · have e : k = 3 := by omega
            subst e
            clear hlt
            go_wp2
            clear m1 m2
            go_loopw [11, 12] (fun q k wr => ∃ i n : Nat, i ≤ 8 ∧ k = .int .i64 (15 - 2 * (i : Int)) ∧ q = .float .f64 (anTo u i) ∧ wr = w.drewN n) (fun _ k _ => (intOf k + 1).toNat)
            case atStart => exact ⟨0, _, by omega, rfl, rfl, rfl⟩
            case round =>
              obtain ⟨i, n, hi, rfl, rfl, rfl⟩ := hrel
              by_cases hlt : i < 8
              · have hb := an_bd hU.out i hi
                have hk : floatOfInt .f64 (15 - 2 * (i : Int)) = k15 i := rfl
                have q1 := fun w => fopR_ex (k15_inv hlt) w
                have q1n := fopN_ex (k15_inv hlt)
                have o1 : one64 = 4607182418800017408 := rfl
                rw [o1] at q1 q1n
                have q2 := fun w => fopR_ex (an_mul hU.out hi hb) w
                have q2n := fopN_ex (an_mul hU.out hi hb)
                have q3 : ∀ w, fopR .sub .f64 (aop .quo .f64 4607182418800017408 (k15 i)) (aop .mul .f64 u (anTo u i)) w = anTo u (i + 1) := fun w => fopR_ex (an_step hU.out hlt hb) w
                have q3n : fopN .sub .f64 (aop .quo .f64 4607182418800017408 (k15 i)) (aop .mul .f64 u (anTo u i)) = 0 := fopN_ex (an_step hU.out hlt hb)
                have e8' := Lib.hid (show 15 - 2 * (i : Int) - 2 = 15 - 2 * ((i + 1 : Nat) : Int) by omega)
                clear hb o1 m3 m4 m5 m6 m7 m8 hxn' hyn' c1 c1n c2 c2n
                go_wp2
                go_roundw
                case rel => exact ⟨i + 1, _, by omega, congrArg (Value.int .i64) e8'.out, rfl, rfl⟩
                case measure => simp [intOf]; omega
              · have e : i = 8 := by omega
                subst e
                clear hlt
                go_wp2
                go_ret
                exact ⟨_, ret_a64 (by exact (Hf.out true false _ rfl).symm), rfl⟩
      · skip
        have hyn' := eq_of_beq hyn
        have hxn' := eq_of_beq hxn
        clear hyn hxn
        go_enter Try.func54, Try.ntmps54
        go_wp2_with (first | (go_at_call 31; refine (aY.out _).mono ?_; rintro e w' ⟨n, rfl, rfl⟩) | (go_at_call 31; refine (aX.out _).mono ?_; rintro e w' ⟨n, rfl, rfl⟩))
        clear y1 y2 x1 x2 hz hgt' q1 q1n hz2
        go_loopw [8, 9] (fun x i wr => ∃ k n : Nat, k ≤ 3 ∧ i = .int .i64 k ∧ x = .float .f64 (hTo t k) ∧ wr = w.drewN n) (fun _ i _ => 3 - (intOf i).toNat)
        case atStart => exact ⟨0, _, by omega, rfl, rfl, rfl⟩
        case round =>
          obtain ⟨k, n, hk, rfl, rfl, rfl⟩ := hrel
          by_cases hlt : k < 3
          · have hb := hTo_bd H.out k
            have a1 := fun w => fopR_ex (hM_bd hb) w
            have a1n := fopN_ex (hM_bd hb)
            have a2 : ∀ w, fopR .add .f64 4607182418800017408 (aop .mul .f64 (hTo t k) (hTo t k)) w = hA (hTo t k) := fun w => fopR_ex (hA_all hb).2.1 w
            have a2n : fopN .add .f64 4607182418800017408 (aop .mul .f64 (hTo t k) (hTo t k)) = 0 := fopN_ex (hA_all hb).2.1
            have hn := (root_nn (hA_all hb).1 (hA_all hb).2.1).2
            have a3 := fun w => sqR_some hn w
            have a3n := sqN_some hn
            have a4 : ∀ w, fopR .add .f64 4607182418800017408 (asq (hA (hTo t k))) w = hB (hTo t k) := fun w => fopR_ex (hB_all hb).2.1 w
            have a4n : fopN .add .f64 4607182418800017408 (asq (hA (hTo t k))) = 0 := fopN_ex (hB_all hb).2.1
            have a5 : ∀ w, fopR .quo .f64 (hTo t k) (hB (hTo t k)) w = hTo t (k + 1) := fun w => fopR_ex (hV_bd hb) w
            have a5n : fopN .quo .f64 (hTo t k) (hB (hTo t k)) = 0 := fopN_ex (hV_bd hb)
            clear hb hn m1 m2 m3 m4 m5 m6 m7 m8 hxn' hyn' c1 c1n c2 c2n
            go_wp2
            go_roundw
            case rel => exact ⟨k + 1, _, by omega, by go_num, rfl, rfl⟩
            case measure => simp [intOf]; omega
          · have e : k = 3 := by omega
            subst e
            clear hlt
            go_wp2
            clear m1 m2
            go_loopw [11, 12] (fun q k wr => ∃ i n : Nat, i ≤ 8 ∧ k = .int .i64 (15 - 2 * (i : Int)) ∧ q = .float .f64 (anTo u i) ∧ wr = w.drewN n) (fun _ k _ => (intOf k + 1).toNat)
            case atStart => exact ⟨0, _, by omega, rfl, rfl, rfl⟩
            case round =>
              obtain ⟨i, n, hi, rfl, rfl, rfl⟩ := hrel
              by_cases hlt : i < 8
              · have hb := an_bd hU.out i hi
                have hk : floatOfInt .f64 (15 - 2 * (i : Int)) = k15 i := rfl
                have q1 := fun w => fopR_ex (k15_inv hlt) w
                have q1n := fopN_ex (k15_inv hlt)
                have o1 : one64 = 4607182418800017408 := rfl
                rw [o1] at q1 q1n
                have q2 := fun w => fopR_ex (an_mul hU.out hi hb) w
                have q2n := fopN_ex (an_mul hU.out hi hb)
                have q3 : ∀ w, fopR .sub .f64 (aop .quo .f64 4607182418800017408 (k15 i)) (aop .mul .f64 u (anTo u i)) w = anTo u (i + 1) := fun w => fopR_ex (an_step hU.out hlt hb) w
                have q3n : fopN .sub .f64 (aop .quo .f64 4607182418800017408 (k15 i)) (aop .mul .f64 u (anTo u i)) = 0 := fopN_ex (an_step hU.out hlt hb)
                have e8' := Lib.hid (show 15 - 2 * (i : Int) - 2 = 15 - 2 * ((i + 1 : Nat) : Int) by omega)
                clear hb o1 m3 m4 m5 m6 m7 m8 hxn' hyn' c1 c1n c2 c2n
                go_wp2
                go_roundw
                case rel => exact ⟨i + 1, _, by omega, congrArg (Value.int .i64) e8'.out, rfl, rfl⟩
                case measure => simp [intOf]; omega
              · have e : i = 8 := by omega
                subst e
                clear hlt
                go_wp2
                go_ret
                exact ⟨_, ret_a64 (by exact (Hf.out true true _ rfl).symm), rfl⟩
    · rw [if_neg hov] at ht0 hn1 qx
      have q1 : ∀ w, fopR .quo .f64 A B w = t := fun w => by rw [ht0]; exact fopR_ex qx w
      have q1n : fopN .quo .f64 A B = 0 := fopN_ex qx
      rw [decide_eq_false hov] at hgt
      have hgt' := hgt
      subst hn1
      clear ht0 qx hov hgt
      cases xn <;> cases yn
      · skip
        have hyn' := hyn
        have hxn' := hxn
        clear hyn hxn
        go_enter Try.func54, Try.ntmps54
        go_wp2_with (first | (go_at_call 31; refine (aY.out _).mono ?_; rintro e w' ⟨n, rfl, rfl⟩) | (go_at_call 31; refine (aX.out _).mono ?_; rintro e w' ⟨n, rfl, rfl⟩))
        clear y1 y2 x1 x2 hz hgt' q1 q1n hz2
        go_loopw [8, 9] (fun x i wr => ∃ k n : Nat, k ≤ 3 ∧ i = .int .i64 k ∧ x = .float .f64 (hTo t k) ∧ wr = w.drewN n) (fun _ i _ => 3 - (intOf i).toNat)
        case atStart => exact ⟨0, _, by omega, rfl, rfl, rfl⟩
        case round =>
          obtain ⟨k, n, hk, rfl, rfl, rfl⟩ := hrel
          by_cases hlt : k < 3
          · have hb := hTo_bd H.out k
            have a1 := fun w => fopR_ex (hM_bd hb) w
            have a1n := fopN_ex (hM_bd hb)
            have a2 : ∀ w, fopR .add .f64 4607182418800017408 (aop .mul .f64 (hTo t k) (hTo t k)) w = hA (hTo t k) := fun w => fopR_ex (hA_all hb).2.1 w
            have a2n : fopN .add .f64 4607182418800017408 (aop .mul .f64 (hTo t k) (hTo t k)) = 0 := fopN_ex (hA_all hb).2.1
            have hn := (root_nn (hA_all hb).1 (hA_all hb).2.1).2
            have a3 := fun w => sqR_some hn w
            have a3n := sqN_some hn
            have a4 : ∀ w, fopR .add .f64 4607182418800017408 (asq (hA (hTo t k))) w = hB (hTo t k) := fun w => fopR_ex (hB_all hb).2.1 w
            have a4n : fopN .add .f64 4607182418800017408 (asq (hA (hTo t k))) = 0 := fopN_ex (hB_all hb).2.1
            have a5 : ∀ w, fopR .quo .f64 (hTo t k) (hB (hTo t k)) w = hTo t (k + 1) := fun w => fopR_ex (hV_bd hb) w
            have a5n : fopN .quo .f64 (hTo t k) (hB (hTo t k)) = 0 := fopN_ex (hV_bd hb)
            clear hb hn m1 m2 m3 m4 m5 m6 m7 m8 hxn' hyn' c1 c1n c2 c2n
            go_wp2
            go_roundw
            case rel => exact ⟨k + 1, _, by omega, by go_num, rfl, rfl⟩
            case measure => simp [intOf]; omega
          · have e : k = 3 := by omega
            subst e
            clear hlt
            go_wp2
            clear m1 m2
            go_loopw [11, 12] (fun q k wr => ∃ i n : Nat, i ≤ 8 ∧ k = .int .i64 (15 - 2 * (i : Int)) ∧ q = .float .f64 (anTo u i) ∧ wr = w.drewN n) (fun _ k _ => (intOf k + 1).toNat)
            case atStart => exact ⟨0, _, by omega, rfl, rfl, rfl⟩
            case round =>
              obtain ⟨i, n, hi, rfl, rfl, rfl⟩ := hrel
              by_cases hlt : i < 8
              · have hb := an_bd hU.out i hi
                have hk : floatOfInt .f64 (15 - 2 * (i : Int)) = k15 i := rfl
                have q1 := fun w => fopR_ex (k15_inv hlt) w
                have q1n := fopN_ex (k15_inv hlt)
                have o1 : one64 = 4607182418800017408 := rfl
                rw [o1] at q1 q1n
                have q2 := fun w => fopR_ex (an_mul hU.out hi hb) w
                have q2n := fopN_ex (an_mul hU.out hi hb)
                have q3 : ∀ w, fopR .sub .f64 (aop .quo .f64 4607182418800017408 (k15 i)) (aop .mul .f64 u (anTo u i)) w = anTo u (i + 1) := fun w => fopR_ex (an_step hU.out hlt hb) w
                have q3n : fopN .sub .f64 (aop .quo .f64 4607182418800017408 (k15 i)) (aop .mul .f64 u (anTo u i)) = 0 := fopN_ex (an_step hU.out hlt hb)
                have e8' := Lib.hid (show 15 - 2 * (i : Int) - 2 = 15 - 2 * ((i + 1 : Nat) : Int) by omega)
                clear hb o1 m3 m4 m5 m6 m7 m8 hxn' hyn' c1 c1n c2 c2n
                go_wp2
                go_roundw
                case rel => exact ⟨i + 1, _, by omega, congrArg (Value.int .i64) e8'.out, rfl, rfl⟩
                case measure => simp [intOf]; omega
              · have e : i = 8 := by omega
                subst e
                clear hlt
                go_wp2
                go_ret
                exact ⟨_, ret_a64 (by exact (Hf.out false false _ rfl).symm), rfl⟩
      · skip
        have hyn' := eq_of_beq hyn
        have hxn' := hxn
        clear hyn hxn
        go_enter Try.func54, Try.ntmps54
        go_wp2_with (first | (go_at_call 31; refine (aY.out _).mono ?_; rintro e w' ⟨n, rfl, rfl⟩) | (go_at_call 31; refine (aX.out _).mono ?_; rintro e w' ⟨n, rfl, rfl⟩))
        clear y1 y2 x1 x2 hz hgt' q1 q1n hz2
        go_loopw [8, 9] (fun x i wr => ∃ k n : Nat, k ≤ 3 ∧ i = .int .i64 k ∧ x = .float .f64 (hTo t k) ∧ wr = w.drewN n) (fun _ i _ => 3 - (intOf i).toNat)
        case atStart => exact ⟨0, _, by omega, rfl, rfl, rfl⟩
        case round =>
          obtain ⟨k, n, hk, rfl, rfl, rfl⟩ := hrel
          by_cases hlt : k < 3
          · have hb := hTo_bd H.out k
            have a1 := fun w => fopR_ex (hM_bd hb) w
            have a1n := fopN_ex (hM_bd hb)
            have a2 : ∀ w, fopR .add .f64 4607182418800017408 (aop .mul .f64 (hTo t k) (hTo t k)) w = hA (hTo t k) := fun w => fopR_ex (hA_all hb).2.1 w
            have a2n : fopN .add .f64 4607182418800017408 (aop .mul .f64 (hTo t k) (hTo t k)) = 0 := fopN_ex (hA_all hb).2.1
            have hn := (root_nn (hA_all hb).1 (hA_all hb).2.1).2
            have a3 := fun w => sqR_some hn w
            have a3n := sqN_some hn
            have a4 : ∀ w, fopR .add .f64 4607182418800017408 (asq (hA (hTo t k))) w = hB (hTo t k) := fun w => fopR_ex (hB_all hb).2.1 w
            have a4n : fopN .add .f64 4607182418800017408 (asq (hA (hTo t k))) = 0 := fopN_ex (hB_all hb).2.1
            have a5 : ∀ w, fopR .quo .f64 (hTo t k) (hB (hTo t k)) w = hTo t (k + 1) := fun w => fopR_ex (hV_bd hb) w
            have a5n : fopN .quo .f64 (hTo t k) (hB (hTo t k)) = 0 := fopN_ex (hV_bd hb)
            clear hb hn m1 m2 m3 m4 m5 m6 m7 m8 hxn' hyn' c1 c1n c2 c2n
            go_wp2
            go_roundw
            case rel => exact ⟨k + 1, _, by omega, by go_num, rfl, rfl⟩
            case measure => simp [intOf]; omega
          · have e : k = 3 := by omega
            subst e
            clear hlt
            go_wp2
            clear m1 m2
            go_loopw [11, 12] (fun q k wr => ∃ i n : Nat, i ≤ 8 ∧ k = .int .i64 (15 - 2 * (i : Int)) ∧ q = .float .f64 (anTo u i) ∧ wr = w.drewN n) (fun _ k _ => (intOf k + 1).toNat)
            case atStart => exact ⟨0, _, by omega, rfl, rfl, rfl⟩
            case round =>
              obtain ⟨i, n, hi, rfl, rfl, rfl⟩ := hrel
              by_cases hlt : i < 8
              · have hb := an_bd hU.out i hi
                have hk : floatOfInt .f64 (15 - 2 * (i : Int)) = k15 i := rfl
                have q1 := fun w => fopR_ex (k15_inv hlt) w
                have q1n := fopN_ex (k15_inv hlt)
                have o1 : one64 = 4607182418800017408 := rfl
                rw [o1] at q1 q1n
                have q2 := fun w => fopR_ex (an_mul hU.out hi hb) w
                have q2n := fopN_ex (an_mul hU.out hi hb)
                have q3 : ∀ w, fopR .sub .f64 (aop .quo .f64 4607182418800017408 (k15 i)) (aop .mul .f64 u (anTo u i)) w = anTo u (i + 1) := fun w => fopR_ex (an_step hU.out hlt hb) w
                have q3n : fopN .sub .f64 (aop .quo .f64 4607182418800017408 (k15 i)) (aop .mul .f64 u (anTo u i)) = 0 := fopN_ex (an_step hU.out hlt hb)
                have e8' := Lib.hid (show 15 - 2 * (i : Int) - 2 = 15 - 2 * ((i + 1 : Nat) : Int) by omega)
                clear hb o1 m3 m4 m5 m6 m7 m8 hxn' hyn' c1 c1n c2 c2n
                go_wp2
                go_roundw
                case rel => exact ⟨i + 1, _, by omega, congrArg (Value.int .i64) e8'.out, rfl, rfl⟩
                case measure => simp [intOf]; omega
              · have e : i = 8 := by omega
                subst e
                clear hlt
                go_wp2
                go_ret
                exact ⟨_, ret_a64 (by exact (Hf.out false true _ rfl).symm), rfl⟩
      · skip
        have hyn' := hyn
        have hxn' := eq_of_beq hxn
        clear hyn hxn
        go_enter Try.func54, Try.ntmps54
        go_wp2_with (first | (go_at_call 31; refine (aY.out _).mono ?_; rintro e w' ⟨n, rfl, rfl⟩) | (go_at_call 31; refine (aX.out _).mono ?_; rintro e w' ⟨n, rfl, rfl⟩))
        clear y1 y2 x1 x2 hz hgt' q1 q1n hz2
        go_loopw [8, 9] (fun x i wr => ∃ k n : Nat, k ≤ 3 ∧ i = .int .i64 k ∧ x = .float .f64 (hTo t k) ∧ wr = w.drewN n) (fun _ i _ => 3 - (intOf i).toNat)
        case atStart => exact ⟨0, _, by omega, rfl, rfl, rfl⟩
        case round =>
          obtain ⟨k, n, hk, rfl, rfl, rfl⟩ := hrel
          by_cases hlt : k < 3
          · have hb := hTo_bd H.out k
            have a1 := fun w => fopR_ex (hM_bd hb) w
            have a1n := fopN_ex (hM_bd hb)
            have a2 : ∀ w, fopR .add .f64 4607182418800017408 (aop .mul .f64 (hTo t k) (hTo t k)) w = hA (hTo t k) := fun w => fopR_ex (hA_all hb).2.1 w
            have a2n : fopN .add .f64 4607182418800017408 (aop .mul .f64 (hTo t k) (hTo t k)) = 0 := fopN_ex (hA_all hb).2.1
            have hn := (root_nn (hA_all hb).1 (hA_all hb).2.1).2
            have a3 := fun w => sqR_some hn w
            have a3n := sqN_some hn
            have a4 : ∀ w, fopR .add .f64 4607182418800017408 (asq (hA (hTo t k))) w = hB (hTo t k) := fun w => fopR_ex (hB_all hb).2.1 w
            have a4n : fopN .add .f64 4607182418800017408 (asq (hA (hTo t k))) = 0 := fopN_ex (hB_all hb).2.1
            have a5 : ∀ w, fopR .quo .f64 (hTo t k) (hB (hTo t k)) w = hTo t (k + 1) := fun w => fopR_ex (hV_bd hb) w
            have a5n : fopN .quo .f64 (hTo t k) (hB (hTo t k)) = 0 := fopN_ex (hV_bd hb)
            clear hb hn m1 m2 m3 m4 m5 m6 m7 m8 hxn' hyn' c1 c1n c2 c2n
            go_wp2
            go_roundw
            case rel => exact ⟨k + 1, _, by omega, by go_num, rfl, rfl⟩
            case measure => simp [intOf]; omega
          · have e : k = 3 := by omega
            subst e
            clear hlt
            go_wp2
            clear m1 m2
            go_loopw [11, 12] (fun q k wr => ∃ i n : Nat, i ≤ 8 ∧ k = .int .i64 (15 - 2 * (i : Int)) ∧ q = .float .f64 (anTo u i) ∧ wr = w.drewN n) (fun _ k _ => (intOf k + 1).toNat)
            case atStart => exact ⟨0, _, by omega, rfl, rfl, rfl⟩
            case round =>
              obtain ⟨i, n, hi, rfl, rfl, rfl⟩ := hrel
              by_cases hlt : i < 8
              · have hb := an_bd hU.out i hi
                have hk : floatOfInt .f64 (15 - 2 * (i : Int)) = k15 i := rfl
                have q1 := fun w => fopR_ex (k15_inv hlt) w
                have q1n := fopN_ex (k15_inv hlt)
                have o1 : one64 = 4607182418800017408 := rfl
                rw [o1] at q1 q1n
                have q2 := fun w => fopR_ex (an_mul hU.out hi hb) w
                have q2n := fopN_ex (an_mul hU.out hi hb)
                have q3 : ∀ w, fopR .sub .f64 (aop .quo .f64 4607182418800017408 (k15 i)) (aop .mul .f64 u (anTo u i)) w = anTo u (i + 1) := fun w => fopR_ex (an_step hU.out hlt hb) w
                have q3n : fopN .sub .f64 (aop .quo .f64 4607182418800017408 (k15 i)) (aop .mul .f64 u (anTo u i)) = 0 := fopN_ex (an_step hU.out hlt hb)
                have e8' := Lib.hid (show 15 - 2 * (i : Int) - 2 = 15 - 2 * ((i + 1 : Nat) : Int) by omega)
                clear hb o1 m3 m4 m5 m6 m7 m8 hxn' hyn' c1 c1n c2 c2n
                go_wp2
                go_roundw
                case rel => exact ⟨i + 1, _, by omega, congrArg (Value.int .i64) e8'.out, rfl, rfl⟩
                case measure => simp [intOf]; omega
              · have e : i = 8 := by omega
                subst e
                clear hlt
                go_wp2
                go_ret
                exact ⟨_, ret_a64 (by exact (Hf.out true false _ rfl).symm), rfl⟩
      · skip
        have hyn' := eq_of_beq hyn
        have hxn' := eq_of_beq hxn
        clear hyn hxn
        go_enter Try.func54, Try.ntmps54
        go_wp2_with (first | (go_at_call 31; refine (aY.out _).mono ?_; rintro e w' ⟨n, rfl, rfl⟩) | (go_at_call 31; refine (aX.out _).mono ?_; rintro e w' ⟨n, rfl, rfl⟩))
        clear y1 y2 x1 x2 hz hgt' q1 q1n hz2
        go_loopw [8, 9] (fun x i wr => ∃ k n : Nat, k ≤ 3 ∧ i = .int .i64 k ∧ x = .float .f64 (hTo t k) ∧ wr = w.drewN n) (fun _ i _ => 3 - (intOf i).toNat)
        case atStart => exact ⟨0, _, by omega, rfl, rfl, rfl⟩
        case round =>
          obtain ⟨k, n, hk, rfl, rfl, rfl⟩ := hrel
          by_cases hlt : k < 3
          · have hb := hTo_bd H.out k
            have a1 := fun w => fopR_ex (hM_bd hb) w
            have a1n := fopN_ex (hM_bd hb)
            have a2 : ∀ w, fopR .add .f64 4607182418800017408 (aop .mul .f64 (hTo t k) (hTo t k)) w = hA (hTo t k) := fun w => fopR_ex (hA_all hb).2.1 w
            have a2n : fopN .add .f64 4607182418800017408 (aop .mul .f64 (hTo t k) (hTo t k)) = 0 := fopN_ex (hA_all hb).2.1
            have hn := (root_nn (hA_all hb).1 (hA_all hb).2.1).2
            have a3 := fun w => sqR_some hn w
            have a3n := sqN_some hn
            have a4 : ∀ w, fopR .add .f64 4607182418800017408 (asq (hA (hTo t k))) w = hB (hTo t k) := fun w => fopR_ex (hB_all hb).2.1 w
            have a4n : fopN .add .f64 4607182418800017408 (asq (hA (hTo t k))) = 0 := fopN_ex (hB_all hb).2.1
            have a5 : ∀ w, fopR .quo .f64 (hTo t k) (hB (hTo t k)) w = hTo t (k + 1) := fun w => fopR_ex (hV_bd hb) w
            have a5n : fopN .quo .f64 (hTo t k) (hB (hTo t k)) = 0 := fopN_ex (hV_bd hb)
            clear hb hn m1 m2 m3 m4 m5 m6 m7 m8 hxn' hyn' c1 c1n c2 c2n
            go_wp2
            go_roundw
            case rel => exact ⟨k + 1, _, by omega, by go_num, rfl, rfl⟩
            case measure => simp [intOf]; omega
          · have e : k = 3 := by omega
            subst e
            clear hlt
            go_wp2
            clear m1 m2
            go_loopw [11, 12] (fun q k wr => ∃ i n : Nat, i ≤ 8 ∧ k = .int .i64 (15 - 2 * (i : Int)) ∧ q = .float .f64 (anTo u i) ∧ wr = w.drewN n) (fun _ k _ => (intOf k + 1).toNat)
            case atStart => exact ⟨0, _, by omega, rfl, rfl, rfl⟩
            case round =>
              obtain ⟨i, n, hi, rfl, rfl, rfl⟩ := hrel
              by_cases hlt : i < 8
              · have hb := an_bd hU.out i hi
                have hk : floatOfInt .f64 (15 - 2 * (i : Int)) = k15 i := rfl
                have q1 := fun w => fopR_ex (k15_inv hlt) w
                have q1n := fopN_ex (k15_inv hlt)
                have o1 : one64 = 4607182418800017408 := rfl
                rw [o1] at q1 q1n
                have q2 := fun w => fopR_ex (an_mul hU.out hi hb) w
                have q2n := fopN_ex (an_mul hU.out hi hb)
                have q3 : ∀ w, fopR .sub .f64 (aop .quo .f64 4607182418800017408 (k15 i)) (aop .mul .f64 u (anTo u i)) w = anTo u (i + 1) := fun w => fopR_ex (an_step hU.out hlt hb) w
                have q3n : fopN .sub .f64 (aop .quo .f64 4607182418800017408 (k15 i)) (aop .mul .f64 u (anTo u i)) = 0 := fopN_ex (an_step hU.out hlt hb)
                have e8' := Lib.hid (show 15 - 2 * (i : Int) - 2 = 15 - 2 * ((i + 1 : Nat) : Int) by omega)
                clear hb o1 m3 m4 m5 m6 m7 m8 hxn' hyn' c1 c1n c2 c2n
                go_wp2
                go_roundw
                case rel => exact ⟨i + 1, _, by omega, congrArg (Value.int .i64) e8'.out, rfl, rfl⟩
                case measure => simp [intOf]; omega
              · have e : i = 8 := by omega
                subst e
                clear hlt
                go_wp2
                go_ret
                exact ⟨_, ret_a64 (by exact (Hf.out true true _ rfl).symm), rfl⟩
end Go.Proofs.Ytogdolnmcfemfab
