/-
  TenthsOf on both sides.
-/
import Derived.Test.YtogdolnmcfemfabCLgn
namespace Go.Proofs.Ytogdolnmcfemfab
open Ieee Go.RowKit
set_option linter.unusedVariables false

/-- The greatest integer that is not greater. -/
def flo (y : Nat) : Nat := double.write ((double.read y).integral .down)
theorem down_cut (s : Bool) (n drop : Nat) : Toward.down.cut s n drop ≤ n / 2 ^ (min drop (n.log2 + 2)) + 1 := by
  unfold Toward.cut
  simp only [Nat.shiftLeft_eq, Nat.one_mul]
  have : ∀ b : Bool, b.toNat ≤ 1 := fun b => by cases b <;> decide
  exact Nat.add_le_add_left (this _) _
theorem flo_bd {y : Nat} {a : Int} (h : bd y a) (h0 : 0 ≤ a) (h1 : a ≤ 1000) : bd (flo y) (a + 1) := by
  obtain ⟨K, hK⟩ : ∃ K : Nat, K = 1074 := ⟨_, rfl⟩
  obtain ⟨s, m, E, hr, hm⟩ := bd_read h
  obtain ⟨t, ht, g1, g2⟩ := whole_part K hK s m E
  rw [zero_cut] at ht
  have hd := down_cut s (m <<< (-1074 + (E : Int)).toNat) (-(-1074 + (E : Int))).toNat
  rw [ht] at hd
  unfold flo
  rw [hr]
  simp only [Datum.integral, write_num]
  generalize Toward.down.cut s (m <<< (-1074 + (E : Int)).toNat) (-(-1074 + (E : Int))).toNat = u at *
  refine bd_nearest _ _ _ _ (by omega) (by omega) 1074 (by omega) (by omega) ?_
  rw [show ((0 : Int) + (1074 : Nat)).toNat = K by omega, show (a + 1 + (1074 : Nat)).toNat = a.toNat + 1 + K by omega, Nat.pow_add]
  refine Nat.mul_le_mul_right _ ?_
  have ht2 : t ≤ 2 ^ a.toNat := by
    have h3 : t * 2 ^ K ≤ 2 ^ a.toNat * 2 ^ K := by
      rw [← Nat.pow_add, show a.toNat + K = (a + 1074).toNat by omega]; exact Nat.le_trans g1 hm
    exact Nat.le_of_mul_le_mul_right h3 (Nat.two_pow_pos _)
  have := Nat.two_pow_pos a.toNat
  rw [Nat.pow_succ]; omega
theorem run_flo {P : Program} {y : Nat} (h : isN .f64 y = false) (w : World) : (Extern.MathFloor.toIntegral "math.archFloor" .down #[.float .f64 y]).run P w = .ok (.float .f64 (flo y)) w := by
  have hd : ∃ d, double.read y = d ∧ d.isNaN = false := ⟨_, rfl, h⟩
  obtain ⟨d, h1, h2⟩ := hd
  unfold flo
  rw [h1]
  change Sem.run P (match double.read y with
    | .nan s t =>
      if FloatKind.f64.format.quiet t = t then (pure (Value.float .f64 y) : Sem Value) else do
      let kept ← choose (.extern "math.Floor,Ceil,Trunc,RoundToEven.signallingNaN kept" 2)
      pure (Value.float .f64 (if kept == 1 then y else FloatKind.f64.encode (.nan s (FloatKind.f64.format.quiet t))))
    | d => pure (Value.float .f64 (FloatKind.f64.encode (d.integral .down)))) w = _
  rw [h1]
  cases d with
  | nan s t => cases h2
  | infinity s => rfl
  | number s m p => rfl
theorem floor_any (y : Nat) (w : World) (h : isN .f64 y = false) : Calls Try.prog 42 #[.float .f64 y] w fun e w' => e = .returned (.float .f64 (flo y)) ∧ w = w' := by
  have hf : ∀ w, (callFunc 56 #[.float .f64 y]).run Try.prog w = .ok (.value (.float .f64 (flo y))) w := fun w => by
    rw [run_callFunc_extern (e := Extern.MathFloor.toIntegral "math.archFloor" .down) Try.func56 (by kernel_rfl) (by kernel_rfl) (by kernel_rfl) (by kernel_rfl), run_flo h]; rfl
  clear h
  go_enter Try.func42, Try.ntmps42
  go_wp2
  go_ret
  exact ⟨rfl, rfl⟩

def decC : Nat := 4631308968768463603
def tenM (y : Nat) : Nat := aop .mul .f64 (lnW y) decC
def tenA (y : Nat) : Nat := aop .add .f64 (tenM y) half64
theorem dec_bd : bd decC 6 := by unfold bd decC; decide +kernel
theorem tenM_bd {y : Nat} (h : rng y) : bd (tenM y) 15 := bd_mul (lnW_bd h) dec_bd (by omega) (by omega)
theorem tenA_bd {y : Nat} (h : rng y) : bd (tenA y) 16 := bd_add (tenM_bd h) bd_half (by omega) (by omega) (by omega)
theorem tenF_bd {y : Nat} (h : rng y) : bd (flo (tenA y)) 52 := bd_mono (flo_bd (tenA_bd h) (by omega) (by omega)) (by omega) (by omega)
/-- The tenths of decibels of a power. -/
def tenI (x : Nat) : Int := toI (flo (tenA (awide x)))
/-- Is it a power? -/
def powB (x : Nat) : Bool := fin .f32 x && ((FloatKind.format .f32).order x 0 == some .gt)
def tenV (x : Nat) : Value := if powB x then .tuple #[.int .i64 (tenI x), .bool true] else .tuple #[.int .i64 0, .bool false]
theorem gt_of_cmp {a b : Int} (h : compare a b = Ordering.gt) : b < a := by
  simp only [compare, compareOfLessAndEq] at h
  by_cases h1 : a < b
  · rw [if_pos h1] at h; cases h
  · by_cases h2 : a = b
    · rw [if_neg h1, if_pos h2] at h; cases h
    · omega
theorem pow_rng {x : Nat} (hx : x < 4294967296) (h : powB x = true) : isN .f32 x = false ∧ rng (awide x) := by
  unfold powB at h
  rw [Bool.and_eq_true] at h
  obtain ⟨h1, h2⟩ := h
  have h2 := eq_of_beq h2
  rcases logKind x hx with h | ⟨h, o, q⟩ | ⟨h, o, q⟩ | ⟨h, e, e2, q⟩ | ⟨h, r⟩
  · unfold fin at h1; rw [h] at h1; cases h1
  · exfalso
    rw [order_all .f32 x 0 h (by decide +kernel)] at h2
    have h3 := gt_of_cmp (Option.some.inj h2)
    unfold sr at h3
    rw [show (FloatKind.format .f32).signWeight = 2147483648 from s_sign, q] at h3
    simp at h3
    omega
  · exfalso
    rw [order_all .f32 x 0 h (by decide +kernel)] at h2
    have h3 := gt_of_cmp (Option.some.inj h2)
    unfold sr at h3
    rw [show (FloatKind.format .f32).signWeight = 2147483648 from s_sign, q] at h3
    simp at h3
  · exfalso
    rw [fin_f32, q] at h1
    exact absurd (of_decide_eq_true h1) (by omega)
  · exact ⟨h, r⟩
theorem powB_le {x : Nat} (hf : fin .f32 x = true) : (((FloatKind.format .f32).order x 0 == some Ordering.lt) || ((FloatKind.format .f32).order x 0 == some Ordering.eq)) = !powB x := by
  have hN : isN .f32 x = false := by
    unfold fin at hf
    cases h2 : isN .f32 x
    · rfl
    · rw [h2] at hf; cases hf
  unfold powB
  rw [hf, Bool.true_and, order_all .f32 x 0 hN (by decide +kernel)]
  generalize compare (sr (FloatKind.format .f32) x) (sr (FloatKind.format .f32) 0) = c
  cases c <;> rfl

theorem implTenths_any (x : Nat) (w : World) (hx : x < 4294967296) : Calls Try.prog 21 #[.float .f32 x] w (RetV (tenV x) w) := by
  have hdz : ∀ w : World, w.drewN 0 = w := fun w => rfl
  cases hf : fin .f32 x
  · have hv : tenV x = .tuple #[.int .i64 0, .bool false] := by unfold tenV powB; rw [hf]; rfl
    have Hv := Lib.hid hv
    have Hf := Lib.hid hf
    clear hv hf
    go_enter Try.func21, Try.ntmps21
    go_wp2_with (go_at_call 37; refine (isFinite_any _ _).mono ?_; rw [Hf.out]; rintro e w' ⟨n, rfl, rfl⟩)
    go_ret2
    exact ⟨_, by rw [Hv.out]; rfl, rfl⟩
  · have hle := powB_le hf
    have Hf := Lib.hid hf
    clear hf
    cases hp : powB x
    · have hv : tenV x = .tuple #[.int .i64 0, .bool false] := by unfold tenV; rw [hp]; rfl
      rw [hp] at hle
      have Hv := Lib.hid hv
      clear hv hp
      go_enter Try.func21, Try.ntmps21
      go_wp2_with (go_at_call 37; refine (isFinite_any _ _).mono ?_; rw [Hf.out]; rintro e w' ⟨n, rfl, rfl⟩)
      go_ret2
      exact ⟨_, by rw [Hv.out]; rfl, rfl⟩
    · have hv : tenV x = .tuple #[.int .i64 (tenI x), .bool true] := by unfold tenV; rw [hp]; rfl
      obtain ⟨hN, hr⟩ := pow_rng hx hp
      rw [hp] at hle
      have hw := fun w => wideR_num hN w
      have hI : tenI x = toI (flo (tenA (awide x))) := rfl
      clear hp hN
      generalize awide x = y at *
      have R := Lib.hid hr
      have a1 : ∀ w, fopR .mul .f64 (lnW y) 4631308968768463603 w = tenM y := fun w => fopR_ex (tenM_bd hr) w
      have a1n : fopN .mul .f64 (lnW y) 4631308968768463603 = 0 := fopN_ex (tenM_bd hr)
      have a2 : ∀ w, fopR .add .f64 (tenM y) 4602678819172646912 w = tenA y := fun w => fopR_ex (tenA_bd hr) w
      have a2n : fopN .add .f64 (tenM y) 4602678819172646912 = 0 := fopN_ex (tenA_bd hr)
      have hc := fun w => run_toI (P := Try.prog) Try.underlying25 Try.underlying2 (tenF_bd hr) w
      have hA := Lib.hid (bd_nan (tenA_bd hr))
      have Hv := Lib.hid hv
      have HI := Lib.hid hI
      clear hr hv hI
      go_enter Try.func21, Try.ntmps21
      go_wp2_with (first | (go_at_call 37; refine (isFinite_any _ _).mono ?_; rw [Hf.out]; rintro e w' ⟨n, rfl, rfl⟩) | (go_at_call 41; refine (implLog_any _ _ R.out).mono ?_; rintro e w' ⟨rfl, rfl⟩) | (go_at_call 42; refine (floor_any _ _ hA.out).mono ?_; rintro e w' ⟨rfl, rfl⟩))
      go_ret2
      exact ⟨_, by rw [Hv.out, HI.out]; rfl, rfl⟩
theorem specTenths_any (x : Nat) (w : World) (hx : x < 4294967296) : Calls Try.prog 20 #[.float .f32 x] w (RetV (tenV x) w) := by
  have hdz : ∀ w : World, w.drewN 0 = w := fun w => rfl
  cases hf : fin .f32 x
  · have hv : tenV x = .tuple #[.int .i64 0, .bool false] := by unfold tenV powB; rw [hf]; rfl
    have Hv := Lib.hid hv
    have Hf := Lib.hid hf
    clear hv hf
    go_enter Try.func20, Try.ntmps20
    go_wp2_with (go_at_call 39; refine (l01Finite_any _ _).mono ?_; rw [Hf.out]; rintro e w' ⟨n, rfl, rfl⟩)
    go_ret2
    exact ⟨_, by rw [Hv.out]; rfl, rfl⟩
  · have hle := powB_le hf
    have Hf := Lib.hid hf
    clear hf
    cases hp : powB x
    · have hv : tenV x = .tuple #[.int .i64 0, .bool false] := by unfold tenV; rw [hp]; rfl
      rw [hp] at hle
      have Hv := Lib.hid hv
      clear hv hp
      go_enter Try.func20, Try.ntmps20
      go_wp2_with (go_at_call 39; refine (l01Finite_any _ _).mono ?_; rw [Hf.out]; rintro e w' ⟨n, rfl, rfl⟩)
      go_ret2
      exact ⟨_, by rw [Hv.out]; rfl, rfl⟩
    · have hv : tenV x = .tuple #[.int .i64 (tenI x), .bool true] := by unfold tenV; rw [hp]; rfl
      obtain ⟨hN, hr⟩ := pow_rng hx hp
      rw [hp] at hle
      have hw := fun w => wideR_num hN w
      have hI : tenI x = toI (flo (tenA (awide x))) := rfl
      clear hp hN
      generalize awide x = y at *
      have R := Lib.hid hr
      have a1 : ∀ w, fopR .mul .f64 (lnW y) 4631308968768463603 w = tenM y := fun w => fopR_ex (tenM_bd hr) w
      have a1n : fopN .mul .f64 (lnW y) 4631308968768463603 = 0 := fopN_ex (tenM_bd hr)
      have a2 : ∀ w, fopR .add .f64 (tenM y) 4602678819172646912 w = tenA y := fun w => fopR_ex (tenA_bd hr) w
      have a2n : fopN .add .f64 (tenM y) 4602678819172646912 = 0 := fopN_ex (tenA_bd hr)
      have hc := fun w => run_toI (P := Try.prog) Try.underlying25 Try.underlying2 (tenF_bd hr) w
      have hA := Lib.hid (bd_nan (tenA_bd hr))
      have Hv := Lib.hid hv
      have HI := Lib.hid hI
      clear hr hv hI
      go_enter Try.func20, Try.ntmps20
      go_wp2_with (first | (go_at_call 39; refine (l01Finite_any _ _).mono ?_; rw [Hf.out]; rintro e w' ⟨n, rfl, rfl⟩) | (go_at_call 40; go_in) | (go_at_call 55; refine (specLog_any _ _ R.out).mono ?_; rintro e w' ⟨rfl, rfl⟩) | (go_at_call 42; refine (floor_any _ _ hA.out).mono ?_; rintro e w' ⟨rfl, rfl⟩))
      go_ret2
      exact ⟨_, by rw [Hv.out, HI.out]; rfl, rfl⟩
end Go.Proofs.Ytogdolnmcfemfab
