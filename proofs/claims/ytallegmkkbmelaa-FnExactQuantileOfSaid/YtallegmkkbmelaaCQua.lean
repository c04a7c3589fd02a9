/-
  Quantiles, in both packages.
-/
import Derived.Test.YtallegmkkbmelaaCMed
import Derived.Test.YtallegmkkbmelaaFmo
import Derived.Deep.RegionWith
namespace Go.Proofs.Ytallegmkkbmelaa
open Ieee Go.RowKit
set_option linter.unusedVariables false

theorem mag_zero32 : mag 8388608 0 = 0 := mag_zero _ (by omega)
/-- The place of a share of n: its word, and the whole number in it. -/
theorem share_idx {x n : Nat} (h : shrB x = true) (hn : n < 96) : ∃ p k : Nat, floatBits .mul .f32 x (floatOfInt .f32 (n : Int)) = some p ∧ floatToIntVal .f32 p .i64 = some (k : Int) ∧ k ≤ n ∧ fin .f32 p = true := by
  obtain ⟨K, hK⟩ : ∃ K : Nat, K = 149 := ⟨_, rfl⟩
  obtain ⟨r, s, h1, h2, h3⟩ := small_mul K hK h hn
  have g1 := i2f_lt n hn
  have g2 := mag_i2f K hK n hn
  have ht := trunc_word s (r := r) (by omega)
  have hm : mag 8388608 r / 2 ^ K ≤ n := by
    have := mag32_le h2
    rw [g2] at this
    exact Nat.div_le_of_le_mul (by rw [Nat.mul_comm]; exact this)
  obtain ⟨k, hk⟩ : ∃ k, mag 8388608 r / 2 ^ K = k := ⟨_, rfl⟩
  have ht2 : (single.read (single.word s r)).toInt .zero = some (k : Int) := by
    subst hK
    rw [ht, hk]
    cases s
    · rfl
    · have hr := h3 rfl
      rw [hr, mag_zero32, Nat.zero_div] at hk
      rw [← hk]; rfl
  refine ⟨single.word s r, k, h1, ?_, by rw [← hk]; exact hm, ?_⟩
  · unfold floatToIntVal
    rw [show (FloatKind.decode .f32 (single.word s r)).toInt .zero = some (k : Int) from ht2]
    simp only
    rw [if_pos]
    show (-9223372036854775808 : Int) ≤ (k : Int) ∧ (k : Int) ≤ 9223372036854775807
    rw [hk] at hm
    omega
  · rw [fin_f32]
    refine decide_eq_true ?_
    unfold Format.word
    rw [s_sign]
    cases s
    · simp only [Bool.false_eq_true, if_false]; omega
    · simp only [if_true]; omega
def quP (zs : List Nat) (x : Nat) : Nat := aop .mul .f32 x (floatOfInt .f32 ((zs.length - 1 : Nat) : Int))
def quK (zs : List Nat) (x : Nat) : Nat := ((floatToIntVal .f32 (quP zs x) .i64).getD 0).toNat
def qua32 (zs : List Nat) (x : Nat) : Nat :=
  if quK zs x + 1 ≥ zs.length then (srtL zs).getD (zs.length - 1) 0
  else aop .add .f32 ((srtL zs).getD (quK zs x) 0) (aop .mul .f32 (aop .sub .f32 (quP zs x) (floatOfInt .f32 (quK zs x : Int))) (aop .sub .f32 ((srtL zs).getD (quK zs x + 1) 0) ((srtL zs).getD (quK zs x) 0)))
def quaB0 (zs : List Nat) (x : Nat) : Bool := serB zs && shrB x
def quaB (zs : List Nat) (x : Nat) : Bool := quaB0 zs x && fin .f32 (qua32 zs x)
def quaR (zs : List Nat) (x : Nat) : Nat := if quaB zs x then qua32 zs x else 0
theorem quK_is {zs : List Nat} {x p k : Nat} (h1 : floatBits .mul .f32 x (floatOfInt .f32 ((zs.length - 1 : Nat) : Int)) = some p) (h2 : floatToIntVal .f32 p .i64 = some (k : Int)) : quP zs x = p ∧ quK zs x = k := by
  have e : quP zs x = p := by unfold quP aop; rw [h1]; rfl
  refine ⟨e, ?_⟩
  unfold quK
  rw [e, h2]; rfl
theorem cn_qua {zs : List Nat} {x : Nat} (h : serB zs = true) : cn .f32 (qua32 zs x) = qua32 zs x := by
  unfold qua32
  split
  · exact cn_num (fin_noN (srtL_at (serB_t h).2.2 (by have := (serB_t h).1; omega)))
  · exact cn_aop ..
theorem i2f_fin : ∀ n : Nat, n < 97 → fin .f32 (floatOfInt .f32 (n : Int)) = true := by decide +kernel
theorem mul_runOf {P : Program} (t : TypeId) {x y p : Nat} (h : floatBits .mul .f32 x y = some p) (w : World) : (binOp .mul t (.float .f32 x) (.float .f32 y)).run P w = .ok (.float .f32 p) w := run_float_arith w .mul t .f32 x y p h
theorem ord_nan {x : Nat} (h : isN .f32 x = true) (y : Nat) : (FloatKind.format .f32).order x y = none := order_nan_left (show ((FloatKind.format .f32).read x).isNaN = true from h)
/-- How a number stands to 0 and to 1. -/
theorem ord_cmp {x y : Nat} (hx : isN .f32 x = false) (hy : isN .f32 y = false) : (fkey x < fkey y ∧ (FloatKind.format .f32).order x y = some .lt) ∨ (fkey x = fkey y ∧ (FloatKind.format .f32).order x y = some .eq) ∨ (fkey y < fkey x ∧ (FloatKind.format .f32).order x y = some .gt) := by
  rcases Int.lt_trichotomy (fkey x) (fkey y) with h | h | h
  · exact .inl ⟨h, (order_all .f32 x y hx hy).trans (congrArg some (Int.compare_eq_lt.2 h))⟩
  · exact .inr (.inl ⟨h, (order_all .f32 x y hx hy).trans (congrArg some (Int.compare_eq_eq.2 h))⟩)
  · exact .inr (.inr ⟨h, (order_all .f32 x y hx hy).trans (congrArg some (Int.compare_eq_gt.2 h))⟩)
theorem key_0 : fkey 0 = 0 := by decide +kernel
theorem key_1 : fkey 1065353216 = 1065353216 := by decide +kernel
theorem noN_0 : isN .f32 0 = false := by decide +kernel
theorem noN_1 : isN .f32 1065353216 = false := by decide +kernel
theorem shr_is {x : Nat} (hx : isN .f32 x = false) : shrB x = (decide (0 ≤ fkey x) && decide (fkey x ≤ 1065353216)) := by unfold shrB; rw [hx]; rfl

theorem l02Share_any (x : Nat) (w : World) : Calls Try.prog 35 #[.float .f32 x] w fun e w' => e = .returned (.bool (shrB x)) ∧ w = w' := by
  cases hn : isN .f32 x
  · have hS := Lib.hid (shr_is hn)
    rcases ord_cmp hn noN_0 with ⟨h, o1⟩ | ⟨h, o1⟩ | ⟨h, o1⟩ <;> rcases ord_cmp hn noN_1 with ⟨g, o2⟩ | ⟨g, o2⟩ | ⟨g, o2⟩
    all_goals
      rw [key_0] at h
      rw [key_1] at g
      have HB := hS
      clear hS
      first
        | (have HT := Lib.hid (show shrB x = true by rw [HB.out, decide_eq_true (by omega), decide_eq_true (by omega)]; rfl)
           clear h g hn
           go_enter Try.func35, Try.ntmps35
           go_wp2
           go_ret
           exact ⟨by rw [HT.out]; rfl, rfl⟩)
        | (have HT := Lib.hid (show shrB x = false by rw [HB.out]; first | (rw [decide_eq_false (by omega)]; rfl) | (rw [decide_eq_false (show ¬ fkey x ≤ 1065353216 by omega), Bool.and_false]))
           clear h g hn
           go_enter Try.func35, Try.ntmps35
           go_wp2
           go_ret
           exact ⟨by rw [HT.out]; rfl, rfl⟩)
  · have o1 := ord_nan hn 0
    have o2 := ord_nan hn 1065353216
    have HT := Lib.hid (show shrB x = false by unfold shrB; rw [hn]; rfl)
    clear hn
    go_enter Try.func35, Try.ntmps35
    go_wp2
    go_ret
    exact ⟨by rw [HT.out]; rfl, rfl⟩

set_option maxHeartbeats 2000000 in
theorem l02Qua_any (a : Option Addr) (len cap x : Nat) (zs : List Nat) (w : World) (h : FSl w a len zs) (hm : len ≤ 1048576) (hs : serB zs = true) (hx : shrB x = true) :
    Calls Try.prog 36 #[.slice a len cap, .float .f32 x] w (RetFw (qua32 zs x) w) := by
  have H := Lib.hid h
  have hl := h.1
  obtain ⟨hs1, hs2, hs3⟩ := serB_t hs
  rw [hl] at hs1 hs2
  have HF := Lib.hid hs3
  have HS := Lib.hid hs
  obtain ⟨b, off, rfl, -, -⟩ := h.at (by omega)
  clear h hs hs3
  obtain ⟨l1, hl1⟩ : ∃ l1 : Nat, l1 = len - 1 := ⟨_, rfl⟩
  have hl1z : (len : Int) - 1 = (l1 : Int) := by omega
  have hl1w : IntKind.i64.wrap ((len : Int) - 1) = (l1 : Int) := by rw [IntKind.wrap_i64]; omega
  obtain ⟨p, k, i1, i2, i3, i4⟩ := share_idx hx (show l1 < 96 by omega)
  have HQ := Lib.hid (quK_is (zs := zs) (by rw [hl, ← hl1]; exact i1) i2)
  have e1 := fun W => mul_runOf (P := Try.prog) 23 i1 W
  have e2 := fun W => run_convert_float_int W 23 3 .f32 .i64 p (k : Int) (P := Try.prog) (by kernel_rfl) Try.underlying3 i2
  have n1 : l1 + 1 ≤ len := by omega
  have n2 : len ≤ l1 + 1 := by omega
  have HLs := Lib.hid (show (srtL zs).length = len by rw [srtL_len, hl])
  have HP := Lib.hid i4
  clear i1 i2 i4
  rcases (show k = l1 ∨ k < l1 by omega) with hk | hk
  · have HV := Lib.hid (show qua32 zs x = (srtL zs).getD l1 0 by unfold qua32; rw [HQ.out.2, if_pos (by omega), hl, hl1])
    have HCn := Lib.hid (show cn .f32 ((srtL zs).getD l1 0) = qua32 zs x by rw [← HV.out, cn_qua HS.out])
    have hd : decide ((len : Int) ≤ (k : Int) + 1) = true := decide_eq_true (by omega)
    clear hl1 hl hk
    go_enter Try.func36, Try.ntmps36
    go_wp2_with fail
    refine (specSort_any _ _ _ _ _ _ H.out (by omega) hm HF.out).mono ?_
    rintro e w1 ⟨v, rfl, hown, hb⟩
    obtain ⟨A, cp, rfl, hsl, _⟩ := hown.sl
    have HB := Lib.hid hb
    rw [HLs.out] at hsl ⊢
    obtain ⟨g, o, rfl, _, hc⟩ := hsl.at (by omega)
    have c1 := hc l1 (by omega)
    clear hc hsl hown hb
    obtain ⟨y, hy⟩ : ∃ y, (srtL zs).getD l1 0 = y := ⟨_, rfl⟩
    rw [hy] at c1 HCn
    have q1 : (l1 : Int) < (len : Int) := by omega
    have q2 : (0 : Int) ≤ (l1 : Int) := by omega
    clear hy HV
    go_wp2
    go_ret
    exact ⟨y, HCn.out, rfl, HB.out⟩
  · obtain ⟨k1, hk1⟩ : ∃ k1 : Nat, k1 = k + 1 := ⟨_, rfl⟩
    have hk1z : (k : Int) + 1 = (k1 : Int) := by omega
    have hk1w : IntKind.i64.wrap ((k : Int) + 1) = (k1 : Int) := by rw [IntKind.wrap_i64]; omega
    have HV := Lib.hid (show qua32 zs x = aop .add .f32 ((srtL zs).getD k 0) (aop .mul .f32 (aop .sub .f32 p (floatOfInt .f32 (k : Int))) (aop .sub .f32 ((srtL zs).getD k1 0) ((srtL zs).getD k 0))) by
      unfold qua32; rw [HQ.out.2, HQ.out.1, if_neg (by omega), hk1])
    have hd : decide ((len : Int) ≤ (k1 : Int)) = false := decide_eq_false (by omega)
    have s1 := srtL_at HF.out (k := k) (by rw [hl]; omega)
    have s2 := srtL_at HF.out (k := k1) (by rw [hl]; omega)
    have e3 := fun W => sub_run (P := Try.prog) 23 HP.out (i2f_fin k (by omega)) W
    have k11 : k1 ≤ k + 1 := by omega
    have k12 : k + 1 ≤ k1 := by omega
    have klt : k1 < len := by omega
    clear hl1 hl hk hk1
    go_enter Try.func36, Try.ntmps36
    go_wp2_with fail
    refine (specSort_any _ _ _ _ _ _ H.out (by omega) hm HF.out).mono ?_
    rintro e w1 ⟨v, rfl, hown, hb⟩
    obtain ⟨A, cp, rfl, hsl, _⟩ := hown.sl
    have HB := Lib.hid hb
    rw [HLs.out] at hsl ⊢
    obtain ⟨g, o, rfl, _, hc⟩ := hsl.at (by omega)
    have c1 := hc k (by omega)
    have c2 := hc k1 klt
    clear hc hsl hown hb
    obtain ⟨y, hy⟩ : ∃ y, (srtL zs).getD k 0 = y := ⟨_, rfl⟩
    obtain ⟨z, hz⟩ : ∃ z, (srtL zs).getD k1 0 = z := ⟨_, rfl⟩
    rw [hy] at c1 s1
    rw [hz] at c2 s2
    rw [hy, hz] at HV
    have e4 := fun W => sub_run (P := Try.prog) 23 s2 s1 W
    have HCy := Lib.hid (show cn .f32 y = y from cn_num (fin_noN s1))
    have q1 : (k : Int) < (len : Int) := by omega
    have q2 : (0 : Int) ≤ (k : Int) := by omega
    have q3 : (k1 : Int) < (len : Int) := by omega
    have q4 : (0 : Int) ≤ (k1 : Int) := by omega
    clear hy hz s1 s2
    obtain ⟨pt, hpt⟩ : ∃ pt, aop .sub .f32 p (floatOfInt .f32 (k : Int)) = pt := ⟨_, rfl⟩
    obtain ⟨gp, hgp⟩ : ∃ gp, aop .sub .f32 z y = gp := ⟨_, rfl⟩
    have HCp := Lib.hid (show cn .f32 pt = pt by rw [← hpt, cn_aop])
    have HCg := Lib.hid (show cn .f32 gp = gp by rw [← hgp, cn_aop])
    rw [hpt] at e3 HV
    rw [hgp] at e4 HV
    clear hpt hgp
    have HR := Lib.hid (show ∀ W1 W2, cn .f32 (fopR .add .f32 y (fopR .mul .f32 pt gp W1) W2) = qua32 zs x from fun W1 W2 => by rw [cn_fopR, cn_fopR, HCy.out, HCp.out, HCg.out, HV.out])
    go_wp2_with fail
    go_big_region
    all_goals
      clear c1 c2 e1 e2 e3 e4
      go_wp2
      go_ret
      exact ⟨_, HR.out _ _, rfl, below_drewN HB.out _⟩

theorem qua_word {zs : List Nat} {x r X : Nat} (hS : serB zs = true) (h : cn .f32 r = if fin .f32 X then cn .f32 X else 0) (hB : quaB zs x = fin .f32 (qua32 zs x)) (hX : cn .f32 X = qua32 zs x) : cn .f32 r = quaR zs x ∧ fin .f32 X = quaB zs x := by
  have hf : fin .f32 X = fin .f32 (qua32 zs x) := fin_congr (hX.trans (cn_qua hS).symm)
  rw [h, hf, hX, hB]
  unfold quaR
  rw [hB]
  exact ⟨rfl, rfl⟩
theorem specQua_any (a : Option Addr) (len cap x : Nat) (zs : List Nat) (w : World) (h : FSl w a len zs) (hm : len ≤ 1048576) :
    Calls Try.prog 15 #[.slice a len cap, .float .f32 x] w (RetFBw (quaR zs x) (quaB zs x) w) := by
  have H := Lib.hid h
  clear h
  cases hs : serB zs
  · have HS := Lib.hid hs
    have HB := Lib.hid (show quaB zs x = false by unfold quaB quaB0; rw [hs]; rfl)
    clear hs
    go_enter Try.func15, Try.ntmps15
    go_wp2_with (go_at_call 29; refine (specSeries_any _ _ _ _ _ H.out hm).mono ?_; rw [HS.out]; rintro e w' ⟨m, rfl, rfl⟩)
    go_ret2
    exact ⟨_, by unfold quaR; rw [HB.out]; exact cn_zero, by rw [HB.out]; rfl, below_drewN (Below.refl _ _) _⟩
  · have HS := Lib.hid hs
    cases hx : shrB x
    · have HX := Lib.hid hx
      have HB := Lib.hid (show quaB zs x = false by unfold quaB quaB0; rw [hx, Bool.and_false]; rfl)
      clear hs hx
      go_enter Try.func15, Try.ntmps15
      go_wp2_with fail
      refine (specSeries_any _ _ _ _ _ H.out hm).mono ?_
      rw [HS.out]
      rintro e w' ⟨m, rfl, rfl⟩
      go_wp2_with fail
      refine (l02Share_any _ _).mono ?_
      rw [HX.out]
      rintro e w' ⟨rfl, rfl⟩
      go_wp2
      go_ret2
      exact ⟨_, by unfold quaR; rw [HB.out]; exact cn_zero, by rw [HB.out]; rfl, below_drewN (Below.refl _ _) _⟩
    · have HX := Lib.hid hx
      have HB := Lib.hid (show quaB zs x = fin .f32 (qua32 zs x) by unfold quaB quaB0; rw [hs, hx]; rfl)
      clear hs hx
      go_enter Try.func15, Try.ntmps15
      go_wp2_with fail
      refine (specSeries_any _ _ _ _ _ H.out hm).mono ?_
      rw [HS.out]
      rintro e w' ⟨m, rfl, rfl⟩
      go_wp2_with fail
      refine (l02Share_any _ _).mono ?_
      rw [HX.out]
      rintro e w' ⟨rfl, rfl⟩
      go_wp2_with fail
      refine (l02Qua_any _ _ _ _ _ _ (FSl.drewN H.out m) hm HS.out HX.out).mono ?_
      rintro e w' ⟨r, hr, rfl, hb⟩
      have HR := Lib.hid hr
      have HBl := Lib.hid ((below_drewN (Below.refl _ _) m).trans hb)
      clear hr hb
      go_wp2_with fail
      refine (specNumber_any _ _).mono ?_
      rintro e w' ⟨r', n', hr', rfl, rfl⟩
      have HW := Lib.hid (qua_word HS.out hr' HB.out HR.out)
      clear hr'
      go_wp2
      go_ret2
      exact ⟨r', HW.out.1, by rw [← HW.out.2]; rfl, below_drewN HBl.out _⟩

/-- The program's test of a share fails. -/
theorem quaNo_any (a : Option Addr) (len cap x : Nat) (zs : List Nat) (w : World) (h : FSl w a len zs) (hm : len ≤ 1048576) (hs : serB zs = true) (hx : shrB x = false) :
    Calls Try.prog 16 #[.slice a len cap, .float .f32 x] w (RetFBw (quaR zs x) (quaB zs x) w) := by
  have H := Lib.hid h
  have HS := Lib.hid hs
  have HB := Lib.hid (show quaB zs x = false by unfold quaB quaB0; rw [hx, Bool.and_false]; rfl)
  clear h hs
  cases hn : isN .f32 x
  · have hS := shr_is hn
    rw [hx] at hS
    rcases ord_cmp hn noN_0 with ⟨h, o1⟩ | ⟨h, o1⟩ | ⟨h, o1⟩ <;> rcases ord_cmp hn noN_1 with ⟨g, o2⟩ | ⟨g, o2⟩ | ⟨g, o2⟩
    all_goals
      rw [key_0] at h
      rw [key_1] at g
      first
        | (exfalso; rw [decide_eq_true (by omega), decide_eq_true (by omega)] at hS; cases hS; done)
        | (clear h g hn hS hx
           go_enter Try.func16, Try.ntmps16
           go_wp2_with fail
           refine (implSeries_any _ _ _ _ _ H.out hm).mono ?_
           rw [HS.out]
           rintro e w' ⟨m, rfl, rfl⟩
           go_wp2
           go_ret2
           exact ⟨_, by unfold quaR; rw [HB.out]; exact cn_zero, by rw [HB.out]; rfl, below_drewN (Below.refl _ _) _⟩)
  · have o1 := ord_nan hn 0
    have o2 := ord_nan hn 1065353216
    clear hn hx
    go_enter Try.func16, Try.ntmps16
    go_wp2_with fail
    refine (implSeries_any _ _ _ _ _ H.out hm).mono ?_
    rw [HS.out]
    rintro e w' ⟨m, rfl, rfl⟩
    go_wp2
    go_ret2
    exact ⟨_, by unfold quaR; rw [HB.out]; exact cn_zero, by rw [HB.out]; rfl, below_drewN (Below.refl _ _) _⟩

set_option maxHeartbeats 4000000 in
theorem quaYes_any (a : Option Addr) (len cap x : Nat) (zs : List Nat) (w : World) (h : FSl w a len zs) (hm : len ≤ 1048576) (hs : serB zs = true) (hx : shrB x = true) :
    Calls Try.prog 16 #[.slice a len cap, .float .f32 x] w (RetFBw (quaR zs x) (quaB zs x) w) := by
  have H := Lib.hid h
  have hl := h.1
  obtain ⟨hs1, hs2, hs3⟩ := serB_t hs
  rw [hl] at hs1 hs2
  have HF := Lib.hid hs3
  have HS := Lib.hid hs
  have HB := Lib.hid (show quaB zs x = fin .f32 (qua32 zs x) by unfold quaB quaB0; rw [hs, hx]; rfl)
  obtain ⟨b, off, rfl, -, -⟩ := h.at (by omega)
  clear h hs hs3
  obtain ⟨l1, hl1⟩ : ∃ l1 : Nat, l1 = len - 1 := ⟨_, rfl⟩
  have hl1z : (len : Int) - 1 = (l1 : Int) := by omega
  have hl1w : IntKind.i64.wrap ((len : Int) - 1) = (l1 : Int) := by rw [IntKind.wrap_i64]; omega
  obtain ⟨p, k, i1, i2, i3, i4⟩ := share_idx hx (show l1 < 96 by omega)
  have HQ := Lib.hid (quK_is (zs := zs) (by rw [hl, ← hl1]; exact i1) i2)
  have e1 := fun W => mul_runOf (P := Try.prog) 23 i1 W
  have e2 := fun W => run_convert_float_int W 23 3 .f32 .i64 p (k : Int) (P := Try.prog) (by kernel_rfl) Try.underlying3 i2
  have n1 : l1 + 1 ≤ len := by omega
  have n2 : len ≤ l1 + 1 := by omega
  have HLs := Lib.hid (show (srtL zs).length = len by rw [srtL_len, hl])
  have HP := Lib.hid i4
  have hc1 : ∃ o1, (FloatKind.format .f32).order x 0 = some o1 ∧ (o1 = .eq ∨ o1 = .gt) := by
    obtain ⟨hn, h1, h2⟩ := shr_t hx
    rcases ord_cmp hn noN_0 with ⟨h, o1⟩ | ⟨h, o1⟩ | ⟨h, o1⟩
    · rw [key_0] at h; unfold fkey at h; exact absurd h1 (by show ¬ 0 ≤ sr single x; have : sr (FloatKind.format .f32) x = sr single x := rfl; omega)
    · exact ⟨_, o1, .inl rfl⟩
    · exact ⟨_, o1, .inr rfl⟩
  have hc2 : ∃ o2, (FloatKind.format .f32).order x 1065353216 = some o2 ∧ (o2 = .lt ∨ o2 = .eq) := by
    obtain ⟨hn, h1, h2⟩ := shr_t hx
    rcases ord_cmp hn noN_1 with ⟨h, o1⟩ | ⟨h, o1⟩ | ⟨h, o1⟩
    · exact ⟨_, o1, .inl rfl⟩
    · exact ⟨_, o1, .inr rfl⟩
    · rw [key_1] at h; unfold fkey at h; exact absurd h2 (by have : sr (FloatKind.format .f32) x = sr single x := rfl; omega)
  clear i1 i2 i4 hx
  obtain ⟨o1, ho1, hq1⟩ := hc1
  obtain ⟨o2, ho2, hq2⟩ := hc2
  rcases (show k = l1 ∨ k < l1 by omega) with hk | hk
  · have HV := Lib.hid (show qua32 zs x = (srtL zs).getD k 0 by unfold qua32; rw [HQ.out.2, if_pos (by omega), hl, ← hl1, hk])
    have HT := Lib.hid (show quaB zs x = true by rw [HB.out, HV.out]; exact srtL_at HF.out (by rw [hl]; omega))
    have HCn := Lib.hid (show cn .f32 ((srtL zs).getD k 0) = quaR zs x by unfold quaR; rw [HT.out, ← HV.out, cn_qua HS.out]; rfl)
    have hd : ((k : Int) == (l1 : Int)) = true := by rw [beq_iff_eq]; omega
    have hd2 : decide ((k : Int) = (l1 : Int)) = true := decide_eq_true (by omega)
    have hd3 : decide (k = l1) = true := decide_eq_true hk
    have k1 : k ≤ l1 := by omega
    have k2 : l1 ≤ k := by omega
    clear hl1 hl hk
    rcases hq1 with rfl | rfl <;> rcases hq2 with rfl | rfl
    all_goals
      go_enter Try.func16, Try.ntmps16
      go_wp2_with fail
      refine (implSeries_any _ _ _ _ _ H.out hm).mono ?_
      rw [HS.out]
      rintro e w' ⟨m, rfl, rfl⟩
      go_wp2_with fail
      refine (asc_any _ _ _ _ _ _ (FSl.drewN H.out m) (by omega) hm HF.out).mono ?_
      rintro e w1 ⟨v, rfl, hown, hb⟩
      obtain ⟨A, cp, rfl, hsl, _⟩ := hown.sl
      have HBl := Lib.hid ((below_drewN (Below.refl _ _) m).trans hb)
      rw [HLs.out] at hsl ⊢
      obtain ⟨g, o, rfl, _, hc⟩ := hsl.at (by omega)
      have c1 := hc k (by omega)
      clear hc hsl hown hb
      obtain ⟨y, hy⟩ : ∃ y, (srtL zs).getD k 0 = y := ⟨_, rfl⟩
      rw [hy] at c1 HCn
      have q1 : (k : Int) < (len : Int) := by omega
      have q2 : (0 : Int) ≤ (k : Int) := by omega
      clear hy HV
      go_wp2
      go_ret2
      exact ⟨y, HCn.out, by rw [HT.out]; rfl, HBl.out⟩
  · obtain ⟨k1, hk1⟩ : ∃ k1 : Nat, k1 = k + 1 := ⟨_, rfl⟩
    have hk1z : (k : Int) + 1 = (k1 : Int) := by omega
    have hk1w : IntKind.i64.wrap ((k : Int) + 1) = (k1 : Int) := by rw [IntKind.wrap_i64]; omega
    have HV := Lib.hid (show qua32 zs x = aop .add .f32 ((srtL zs).getD k 0) (aop .mul .f32 (aop .sub .f32 p (floatOfInt .f32 (k : Int))) (aop .sub .f32 ((srtL zs).getD k1 0) ((srtL zs).getD k 0))) by
      unfold qua32; rw [HQ.out.2, HQ.out.1, if_neg (by omega), hk1])
    have hd : ((k : Int) == (l1 : Int)) = false := beq_false_of_ne (by omega)
    have hd2 : decide ((k : Int) = (l1 : Int)) = false := decide_eq_false (by omega)
    have hd3 : decide (k = l1) = false := decide_eq_false (by omega)
    have s1 := srtL_at HF.out (k := k) (by rw [hl]; omega)
    have s2 := srtL_at HF.out (k := k1) (by rw [hl]; omega)
    have e3 := fun W => sub_run (P := Try.prog) 23 HP.out (i2f_fin k (by omega)) W
    have k11 : k1 ≤ k + 1 := by omega
    have k12 : k + 1 ≤ k1 := by omega
    have klt : k1 < len := by omega
    clear hl1 hl hk hk1
    rcases hq1 with rfl | rfl <;> rcases hq2 with rfl | rfl
    all_goals
      go_enter Try.func16, Try.ntmps16
      go_wp2_with fail
      refine (implSeries_any _ _ _ _ _ H.out hm).mono ?_
      rw [HS.out]
      rintro e w' ⟨m, rfl, rfl⟩
      go_wp2_with fail
      refine (asc_any _ _ _ _ _ _ (FSl.drewN H.out m) (by omega) hm HF.out).mono ?_
      rintro e w1 ⟨v, rfl, hown, hb⟩
      obtain ⟨A, cp, rfl, hsl, _⟩ := hown.sl
      have HBl := Lib.hid ((below_drewN (Below.refl _ _) m).trans hb)
      rw [HLs.out] at hsl ⊢
      obtain ⟨g, o, rfl, _, hc⟩ := hsl.at (by omega)
      have c1 := hc k (by omega)
      have c2 := hc k1 klt
      clear hc hsl hown hb
      obtain ⟨y, hy⟩ : ∃ y, (srtL zs).getD k 0 = y := ⟨_, rfl⟩
      obtain ⟨z, hz⟩ : ∃ z, (srtL zs).getD k1 0 = z := ⟨_, rfl⟩
      rw [hy] at c1 s1
      rw [hz] at c2 s2
      rw [hy, hz] at HV
      have e4 := fun W => sub_run (P := Try.prog) 23 s2 s1 W
      have HCy := Lib.hid (show cn .f32 y = y from cn_num (fin_noN s1))
      have HCz := Lib.hid (show cn .f32 z = z from cn_num (fin_noN s2))
      have q1 : (k : Int) < (len : Int) := by omega
      have q2 : (0 : Int) ≤ (k : Int) := by omega
      have q3 : (k1 : Int) < (len : Int) := by omega
      have q4 : (0 : Int) ≤ (k1 : Int) := by omega
      clear hy hz s1 s2
      go_wp2_with fail
      go_quiet (fail)
      clear e4
      go_wp2_with fail
      refine (implOnly_any _ _).mono ?_
      rintro e w' ⟨r', n', hr', rfl, rfl⟩
      have HW := Lib.hid (qua_word HS.out hr' HB.out (by rw [cn_fopR, cn_fopR, HCy.out, HV.out]; simp only [cn_aop]))
      clear hr' c1 c2 e1 e2 e3
      go_wp2
      go_ret2
      exact ⟨r', HW.out.1, by rw [← HW.out.2]; rfl, below_drewN HBl.out _⟩

theorem implQua_any (a : Option Addr) (len cap x : Nat) (zs : List Nat) (w : World) (h : FSl w a len zs) (hm : len ≤ 1048576) :
    Calls Try.prog 16 #[.slice a len cap, .float .f32 x] w (RetFBw (quaR zs x) (quaB zs x) w) := by
  cases hs : serB zs
  · have HS := Lib.hid hs
    have H := Lib.hid h
    have HB := Lib.hid (show quaB zs x = false by unfold quaB quaB0; rw [hs]; rfl)
    clear hs h
    go_enter Try.func16, Try.ntmps16
    go_wp2_with (go_at_call 32; refine (implSeries_any _ _ _ _ _ H.out hm).mono ?_; rw [HS.out]; rintro e w' ⟨m, rfl, rfl⟩)
    go_ret2
    exact ⟨_, by unfold quaR; rw [HB.out]; exact cn_zero, by rw [HB.out]; rfl, below_drewN (Below.refl _ _) _⟩
  · cases hx : shrB x
    · exact quaNo_any a len cap x zs w h hm hs hx
    · exact quaYes_any a len cap x zs w h hm hs hx
end Go.Proofs.Ytallegmkkbmelaa
