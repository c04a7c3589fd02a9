/-
  The absolute value of any 32-bit float, in both packages.
-/
import Derived.Test.YthlpmbddpenpmaaFlz
namespace Go.Proofs.Ythlpmbddpenpmaa
open Ieee Go.RowKit
set_option linter.unusedVariables false

/-- The absolute value of a word. -/
def absF (x : Nat) : Nat := if isN .f32 x then nanOf .f32 else x % 2147483648
theorem isN_mag (x : Nat) : isN .f32 (x % 2147483648) = isN .f32 x := by
  rw [isN_iff, isN_iff, show (FloatKind.format .f32).signWeight = 2147483648 from s_sign, Nat.mod_mod]
theorem absF_cn (x : Nat) : absF (cn .f32 x) = absF x := by
  cases h : isN .f32 x
  · rw [cn_num h]
  · rw [cn_nan h]; unfold absF; rw [isN_nanOf, h]; rfl
theorem cn_absF (x : Nat) : cn .f32 (absF x) = absF x := by
  cases h : isN .f32 x
  · unfold absF; rw [h, if_neg (by simp)]; exact cn_num (by rw [isN_mag]; exact h)
  · unfold absF; rw [h, if_pos rfl]; exact cn_nan (isN_nanOf _)
theorem inf_write : double.word false double.infRung % 9223372036854775808 = 9218868437227405312 ∧ double.word true double.infRung % 9223372036854775808 = 9218868437227405312 := by decide +kernel
theorem inf_anar : anar 9218868437227405312 = 2139095040 := by decide +kernel
theorem inf_isI : isI .f64 9218868437227405312 = true := by decide +kernel
theorem abs_word (x : Nat) (w w' : World) : cn .f32 (narR (wideR x w % 9223372036854775808) w') = absF x := by
  cases hN : isN .f32 x
  · have hwd : wideR x w = awide x := by unfold wideR; rw [hN, if_neg (by simp)]
    rw [hwd]
    have ha : absF x = x % 2147483648 := by unfold absF; rw [hN, if_neg (by simp)]
    rw [ha]
    cases hI : isI .f32 x
    · have hf : fin .f32 x = true := by unfold fin; rw [hN, hI]; rfl
      rw [cn_narR _ _ (narOk_mag hf), anar_cn]
      exact anar_mag hf
    · have hr := of_decide_eq_true (isI_iff .f32 x ▸ hI)
      have h1 := awide_inf (read_inf .f32 x hr)
      have hw : awide x % 9223372036854775808 = 9218868437227405312 := by
        unfold awide
        rw [hN, if_neg (by simp), show single.read x = _ from read_inf .f32 x hr]
        cases (x / (FloatKind.format .f32).signWeight % 2 == 1)
        · exact inf_write.1
        · exact inf_write.2
      rw [hw, cn_narR _ _ (inf_narOk inf_isI), anar_cn, inf_anar]
      exact hr.symm
  · have h1 : isN .f64 (wideR x w) = true := by
      have := cn_wideR x w
      rw [← isN_cn, this, awide_cn, isN_awide]; exact hN
    have h2 : isN .f64 (wideR x w % 9223372036854775808) = true := by rw [abs_nan]; exact h1
    rw [cn_narR _ _ (narOk_nan h2), anar_cn]
    unfold anar absF
    rw [h2, hN, if_pos rfl, if_pos rfl]
theorem imAbs_any (x : Nat) (w : World) : Calls Try.prog 57 #[.float .f32 x] w (RetF .f32 (absF (cn .f32 x)) w) := by
  have HR := Lib.hid (fun w1 w2 => (abs_word x w1 w2).trans (absF_cn x).symm)
  go_enter Try.func57, Try.ntmps57
  go_wp2_with (go_at_call 93; refine (abs_any _ _ (wideR_lt _ _)).mono ?_; rintro e w' ⟨n, rfl, rfl⟩)
  go_ret
  exact ⟨_, _, HR.out _ _, rfl, rfl⟩
theorem imWay_any (x y : Nat) (w : World) : Calls Try.prog 51 #[.float .f32 x, .float .f32 y] w (RetF .f32 (absF (aop .sub .f32 (cn .f32 x) (cn .f32 y))) w) := by
  have HC := Lib.hid (fun w' => cn_fopR .sub .f32 x y w')
  go_enter Try.func51, Try.ntmps51
  go_wp2_with fail
  refine (imAbs_any _ _).mono ?_
  rintro e w' ⟨r, n, hr, rfl, rfl⟩
  rw [HC.out] at hr
  have HR := Lib.hid hr
  clear hr
  go_wp2
  go_ret
  exact ⟨r, _, HR.out, rfl, rfl⟩
/-- 0 less a number that is not greater than 0. -/
theorem zero_less {x : Nat} (h : sr (FloatKind.format .f32) x ≤ 0) (hN : isN .f32 x = false) : aop .sub .f32 0 x = x % 2147483648 := by
  have h0 : single.read 0 = .number false 0 (-149) := by decide +kernel
  have key : floatBits .sub .f32 0 x = some (x % 2147483648) := by
    show ((single.read 0).sum (single.read x).opposite).map single.write = _
    rw [h0]
    rcases single_read x with ⟨s, m, p, hr, hm, hp, hp2, hp3⟩ | ⟨s, hr⟩ | ⟨s, t, hr⟩
    · rw [hr]
      have hb := single_back hr
      have hsg : s = true ∨ m = 0 := by
        rcases Nat.eq_zero_or_pos m with h1 | h1
        · exact .inr h1
        · left
          obtain ⟨_, _, _, _, h5, _⟩ := single_parts hr
          cases s
          · exfalso
            have hs : (x / 2147483648 % 2 == 1) = false := by
              unfold Format.read at hr
              simp only [s_sign] at hr
              split at hr
              · injection hr
              · split at hr
                · injection hr
                · split at hr <;> cases hr
            unfold sr at h
            rw [show (FloatKind.format .f32).signWeight = 2147483648 from s_sign, hs, if_neg (by simp)] at h
            omega
          · rfl
      show some (single.write _) = _
      congr 1
      have e0 : min (-149 : Int) p = -149 := by omega
      simp only [e0]
      have ez : signed false 0 ((-149 : Int) - -149).toNat = 0 := by decide
      rw [ez, Int.zero_add]
      rcases Nat.eq_zero_or_pos m with h1 | h1
      · subst h1
        have : signed (!s) 0 (p - -149).toNat = 0 := by unfold signed; simp
        rw [this, if_pos rfl]
        show single.nearest false 0 (-149) = _
        rw [← hb]
        unfold Format.nearest
        rw [if_pos rfl, if_pos rfl]
      · have hs : s = true := hsg.elim id (fun h2 => absurd h2 (by omega))
        subst hs
        have hv : signed (!true) m (p - -149).toNat = ((m * 2 ^ (p - -149).toNat : Nat) : Int) := by
          unfold signed
          rw [Nat.shiftLeft_eq]; rfl
        have hpos : 0 < m * 2 ^ (p - -149).toNat := Nat.mul_pos h1 (Nat.two_pow_pos _)
        rw [hv, if_neg (by omega), Int.natAbs_natCast, decide_eq_false (by omega)]
        show single.nearest false (m * 2 ^ (p - -149).toNat) (-149) = _
        rw [nearest_scale single false m _ _ h1, ← hb]
        congr 1
        omega
    · rw [hr]
      have hx : x % 2147483648 = 2139095040 ∧ (x / 2147483648 % 2 == 1) = s := by
        unfold Format.read at hr
        simp only [s_sign, s_binade, s_inf, s_least] at hr
        split at hr
        · cases hr
        · split at hr
          · cases hr
          · split at hr
            · rename_i e; injection hr with hr; exact ⟨e, hr⟩
            · cases hr
      have hs : s = true := by
        cases s
        · exfalso
          unfold sr at h
          rw [show (FloatKind.format .f32).signWeight = 2147483648 from s_sign, hx.2, if_neg (by simp)] at h
          omega
        · rfl
      subst hs
      rw [hx.1]
      decide +kernel
    · unfold isN at hN; rw [show (FloatKind.format .f32).read x = _ from hr] at hN; cases hN
  unfold aop
  rw [key]; rfl
theorem spSize_any (x : Nat) (w : World) (hx : cn .f32 x < 4294967296) : Calls Try.prog 55 #[.float .f32 x] w (RetF .f32 (absF (cn .f32 x)) w) := by
  cases hN : isN .f32 x
  · have ho := order_all .f32 x 0 hN (by decide +kernel)
    rw [show sr (FloatKind.format .f32) 0 = 0 by decide +kernel] at ho
    have hc := cn_num hN
    rw [hc] at hx ⊢
    have ha : absF x = x % 2147483648 := by unfold absF; rw [hN, if_neg (by simp)]
    rw [ha]
    have hcz : cn .f32 0 = 0 := by decide +kernel
    rcases Int.lt_trichotomy (sr (FloatKind.format .f32) x) 0 with h | h | h
    · have o := ho.trans (congrArg some (Int.compare_eq_lt.2 h))
      have HV := Lib.hid (fun w' => show cn .f32 (fopR .sub .f32 0 x w') = x % 2147483648 by rw [cn_fopR, hc, hcz]; exact zero_less (by omega) hN)
      clear ho h hN hc ha hcz
      go_enter Try.func55, Try.ntmps55
      go_wp2
      go_ret
      exact ⟨_, _, HV.out _, rfl, rfl⟩
    · have o := ho.trans (congrArg some (Int.compare_eq_eq.2 h))
      have HV := Lib.hid (fun w' => show cn .f32 (fopR .sub .f32 0 x w') = x % 2147483648 by rw [cn_fopR, hc, hcz]; exact zero_less (by omega) hN)
      clear ho h hN hc ha hcz
      go_enter Try.func55, Try.ntmps55
      go_wp2
      go_ret
      exact ⟨_, _, HV.out _, rfl, rfl⟩
    · have o := ho.trans (congrArg some (Int.compare_eq_gt.2 h))
      have HV := Lib.hid (show cn .f32 x = x % 2147483648 by
        rw [hc]
        unfold sr at h
        rw [show (FloatKind.format .f32).signWeight = 2147483648 from s_sign] at h
        split at h
        · omega
        · rename_i h2
          have : ¬ (x / 2147483648 % 2 = 1) := fun e => h2 (beq_iff_eq.2 e)
          omega)
      clear ho h hN hc ha hcz
      go_enter Try.func55, Try.ntmps55
      go_wp2
      go_ret
      exact ⟨_, 0, HV.out, rfl, rfl⟩
  · have o : (FloatKind.format .f32).order x 0 = none := order_nan_left (show ((FloatKind.format .f32).read x).isNaN = true from hN)
    have HV := Lib.hid (show cn .f32 x = absF (cn .f32 x) by rw [absF_cn, cn_nan hN]; unfold absF; rw [hN, if_pos rfl])
    clear hN hx
    go_enter Try.func55, Try.ntmps55
    go_wp2
    go_ret
    exact ⟨_, 0, HV.out, rfl, rfl⟩
end Go.Proofs.Ythlpmbddpenpmaa
