/-
  The angle with a small tangent: the program's walk; min and max of numbers without a sign.
-/
import Derived.Test.YtogdolnmcfemfabCRoo
import Derived.Test.YtogdolnmcfemfabFla
import Derived.Below
namespace Go.Proofs.Ytogdolnmcfemfab
open Ieee Go.RowKit
set_option linter.unusedVariables false
theorem ret_a64 {a b : Nat} (h : a = b) : Ending.returned (.float .f64 a) = .returned (.float .f64 b) := by rw [h]
set_option maxHeartbeats 2000000 in
theorem smallAngle_any (t : Nat) (w : World) (h : bd t 1) :
    Calls Try.prog 38 #[.float .f64 t] w fun e w' => e = .returned (.float .f64 (sA t)) ∧ w = w' := by
  have hdz : ∀ w : World, w.drewN 0 = w := fun w => rfl
  have H := Lib.hid h
  have m1 : ∀ w, fopR .mul .f64 (hTo t 3) (hTo t 3) w = sU t := fun w => fopR_ex (sU_bd h) w
  have m2 : fopN .mul .f64 (hTo t 3) (hTo t 3) = 0 := fopN_ex (sU_bd h)
  have m3 : ∀ w, fopR .mul .f64 (hTo t 3) (anTo (sU t) 8) w = sP t := fun w => fopR_ex (sP_bd h) w
  have m4 : fopN .mul .f64 (hTo t 3) (anTo (sU t) 8) = 0 := fopN_ex (sP_bd h)
  have m5 : ∀ w, fopR .mul .f64 4620693217682128896 (sP t) w = sE t := fun w => fopR_ex (sE_bd h) w
  have m6 : fopN .mul .f64 4620693217682128896 (sP t) = 0 := fopN_ex (sE_bd h)
  have m7 : ∀ w, fopR .quo .f64 (sE t) 4618760256179416344 w = sA t := fun w => fopR_ex (sA_bd h) w
  have m8 : fopN .quo .f64 (sE t) 4618760256179416344 = 0 := fopN_ex (sA_bd h)
  have hU := Lib.hid (sU_bd h)
  clear h
  generalize sU t = u at *
  generalize sP t = p at *
  generalize sE t = e8 at *
  generalize sA t = sa at *
  go_enter Try.func38, Try.ntmps38
  go_wp2
  go_loop [0, 6] (fun x i => ∃ k : Nat, k ≤ 3 ∧ i = .int .i64 k ∧ x = .float .f64 (hTo t k)) (fun _ i => 3 - (intOf i).toNat)
  case atStart => exact ⟨0, by omega, rfl, rfl⟩
  case round =>
    obtain ⟨k, hk, rfl, rfl⟩ := hrel
    by_cases hlt : k < 3
    · have hb := hTo_bd H.out k
      have a1 := fun w => fopR_ex (hM_bd hb) w
      have a1n := fopN_ex (hM_bd hb)
      have a2 : ∀ w, fopR .add .f64 4607182418800017408 (aop .mul .f64 (hTo t k) (hTo t k)) w = hA (hTo t k) := fun w => fopR_ex (hA_all hb).2.1 w
      have a2n : fopN .add .f64 4607182418800017408 (aop .mul .f64 (hTo t k) (hTo t k)) = 0 := fopN_ex (hA_all hb).2.1
      have hn := (root_nn (hA_all hb).1 (hA_all hb).2.1).2
      have a3 := fun w => sqR_some hn w
      have a3n := sqN_some hn
      have a4 : ∀ w, fopR .add .f64 4607182418800017408 (asq (hA (hTo t k))) w = hB (hTo t k) := fun w => fopR_ex (hB_all hb).2.1 w
      have a4n : fopN .add .f64 4607182418800017408 (asq (hA (hTo t k))) = 0 := fopN_ex (hB_all hb).2.1
      have a5 : ∀ w, fopR .quo .f64 (hTo t k) (hB (hTo t k)) w = hTo t (k + 1) := fun w => fopR_ex (hV_bd hb) w
      have a5n : fopN .quo .f64 (hTo t k) (hB (hTo t k)) = 0 := fopN_ex (hV_bd hb)
      clear hb hn m1 m2 m3 m4 m5 m6 m7 m8
      go_wp2
      go_round
      case rel => exact ⟨k + 1, by omega, by go_num, rfl⟩
      case measure => simp [intOf]; omega
    · have e : k = 3 := by omega
      subst e
      clear hlt
      go_wp2
      clear m1 m2
      go_loop [4, 5] (fun q k => ∃ i : Nat, i ≤ 8 ∧ k = .float .f64 (k15 i) ∧ q = .float .f64 (anTo u i)) (fun _ k => fltM k)
      case atStart => exact ⟨0, by omega, by rw [k15_0], rfl⟩
      case round =>
        obtain ⟨i, hi, rfl, rfl⟩ := hrel
        have g := k15_ge i (by omega)
        by_cases hlt : i < 8
        · rw [decide_eq_true hlt] at g
          have hb := an_bd hU.out i hi
          have q1 := fun w => fopR_ex (k15_inv hlt) w
          have q1n := fopN_ex (k15_inv hlt)
          have o1 : one64 = 4607182418800017408 := rfl
          rw [o1] at q1 q1n
          have q2 := fun w => fopR_ex (an_mul hU.out hi hb) w
          have q2n := fopN_ex (an_mul hU.out hi hb)
          have q3 : ∀ w, fopR .sub .f64 (aop .quo .f64 4607182418800017408 (k15 i)) (aop .mul .f64 u (anTo u i)) w = anTo u (i + 1) := fun w => fopR_ex (an_step hU.out hlt hb) w
          have q3n : fopN .sub .f64 (aop .quo .f64 4607182418800017408 (k15 i)) (aop .mul .f64 u (anTo u i)) = 0 := fopN_ex (an_step hU.out hlt hb)
          have c4 := fun w => fopR_some (k15_sub i hlt) w
          have c4n := fopN_some (k15_sub i hlt)
          have hm := Lib.hid (k15_lt i hlt)
          clear hb o1 m3 m4 m5 m6 m7 m8
          go_wp2
          go_round
          case rel => exact ⟨i + 1, by omega, rfl, rfl⟩
          case measure => exact hm.out
        · have e : i = 8 := by omega
          subst e
          rw [decide_eq_false (by omega)] at g
          clear hlt
          go_wp2
          go_ret
          exact ⟨rfl, rfl⟩

theorem pos_sign {a : Nat} (ha : a < 9218868437227405312) : (FloatKind.decode .f64 a).neg = false := by
  have h : a % double.signWeight < double.infRung := by rw [d_sign, d_inf]; omega
  obtain ⟨s, m, E, g1, _, g3⟩ := read_mag double a h
  show (double.read a).neg = false
  rw [g1]
  show s = false
  rw [g3, d_sign, Nat.div_eq_of_lt (by omega)]; rfl
theorem pos_cases {a b : Nat} (ha : a < 9218868437227405312) (hb : b < 9218868437227405312) :
    (a < b ∧ (FloatKind.format .f64).order a b = some .lt) ∨ (a = b ∧ (FloatKind.format .f64).order a b = some .eq) ∨ (b < a ∧ (FloatKind.format .f64).order a b = some .gt) := by
  rw [pos_order ha hb]
  simp only [compare, compareOfLessAndEq]
  by_cases h : a < b
  · exact .inl ⟨h, by rw [if_pos (by omega)]⟩
  · by_cases h2 : a = b
    · exact .inr (.inl ⟨h2, by rw [if_neg (by omega), if_pos (by omega)]⟩)
    · exact .inr (.inr ⟨by omega, by rw [if_neg (by omega), if_neg (by omega)]⟩)
theorem run_min_pos {P : Program} (ts : Array TypeId) (t : TypeId) (a b : Nat) (ha : a < 9218868437227405312) (hb : b < 9218868437227405312) (w : World) :
    (Builtin.min_ ts t #[.float .f64 a, .float .f64 b]).run P w = .ok (.float .f64 (min a b)) w := by
  show (Builtin.min2 (.float .f64 a) (.float .f64 b) >>= fun x => pure x).run P w = _
  rcases pos_cases ha hb with ⟨h, o⟩ | ⟨h, o⟩ | ⟨h, o⟩
  · simp [Builtin.min2, o, Nat.min_eq_left (Nat.le_of_lt h)]
  · subst h; simp [Builtin.min2, o, pos_sign ha]
  · simp [Builtin.min2, o, Nat.min_eq_right (Nat.le_of_lt h)]
theorem run_max_pos {P : Program} (ts : Array TypeId) (t : TypeId) (a b : Nat) (ha : a < 9218868437227405312) (hb : b < 9218868437227405312) (w : World) :
    (Builtin.max_ ts t #[.float .f64 a, .float .f64 b]).run P w = .ok (.float .f64 (max a b)) w := by
  show (Builtin.max2 (.float .f64 a) (.float .f64 b) >>= fun x => pure x).run P w = _
  rcases pos_cases ha hb with ⟨h, o⟩ | ⟨h, o⟩ | ⟨h, o⟩
  · simp [Builtin.max2, o, Nat.max_eq_right (Nat.le_of_lt h)]
  · subst h; simp [Builtin.max2, o, pos_sign ha]
  · simp [Builtin.max2, o, Nat.max_eq_left (Nat.le_of_lt h)]
end Go.Proofs.Ytogdolnmcfemfab
