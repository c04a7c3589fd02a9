/-
  DriftUp and DriftDown, in both packages.
-/
import Derived.Test.YtpaelafopjmklaaDft
namespace Go.Proofs.Ytpaelafopjmklaa
open Ieee Go.RowKit
set_option linter.unusedVariables false

theorem given_any (A : Option Addr) (cp : Nat) (rs xs : List Nat) (w0 w : World) (h : FSl w A rs.length rs) (hm : rs.length ≤ 1048576) (hx : cnl rs = xs) (ho : FOwn 23 w0.heap.size w (.slice A rs.length cp) rs) (hb : Below w0.heap.size w0 w) :
    Calls Try.prog 67 #[.slice A rs.length cp] w (fun e w' => ∃ v rs', e = .returned (.tuple #[v, .bool (fins xs)]) ∧ FOwn 23 w0.heap.size w' v rs' ∧ cnl rs' = lstR xs ∧ Below w0.heap.size w0 w') := by
  have H := Lib.hid h
  have HX := Lib.hid hx
  have HO := Lib.hid ho
  have HB := Lib.hid hb
  have HF := Lib.hid (show fins rs = fins xs by rw [← hx, fins_cnl])
  clear h hx ho hb
  cases hf : fins xs
  · have HF2 := Lib.hid (HF.out.trans hf)
    have HR := Lib.hid (show lstR xs = [] by unfold lstR; rw [hf]; rfl)
    clear hf
    go_enter Try.func67, Try.ntmps67
    go_wp2_with (go_at_call 61; refine (specFinite_any _ _ _ _ _ H.out hm).mono ?_; rw [HF2.out]; rintro e w' ⟨m, rfl, rfl⟩)
    go_ret2
    exact ⟨_, [], rfl, FOwn.nil .., by rw [HR.out]; rfl, below_drewN HB.out _⟩
  · have HF2 := Lib.hid (HF.out.trans hf)
    have HR := Lib.hid (show lstR xs = xs by unfold lstR; rw [hf]; rfl)
    clear hf
    go_enter Try.func67, Try.ntmps67
    go_wp2_with (go_at_call 61; refine (specFinite_any _ _ _ _ _ H.out hm).mono ?_; rw [HF2.out]; rintro e w' ⟨m, rfl, rfl⟩)
    go_ret2
    exact ⟨_, rs, rfl, HO.out.drewN _, HX.out.trans HR.out.symm, below_drewN HB.out _⟩
theorem imUp_any (a : Option Addr) (len cap : Nat) (zs : List Nat) (m sl : Nat) (w : World) (h : FSl w a len zs) (hm : len ≤ 1048576) :
    Calls Try.prog 27 #[.slice a len cap, .float .f32 m, .float .f32 sl] w (RetOB 23 (dfR (becT m sl false) m sl zs) (dfB (becT m sl false) m sl zs) w) := by
  have H := Lib.hid h
  clear h
  go_enter Try.func27, Try.ntmps27
  go_wp2_with fail
  refine (dsums_any 70 m sl (becT m sl false) _ _ _ _ _ (enter_of Try.func70 (by kernel_rfl) rfl) (fun s x w => up_any m sl s x w) H.out hm).mono ?_
  rintro e w1 ⟨v, rs, rfl, ho, hx, hb⟩
  have HO := Lib.hid ho
  have HX := Lib.hid hx
  have HB := Lib.hid hb
  clear ho hx hb
  go_wp2
  go_ret2
  exact ⟨v, rs, rfl, HO.out, HX.out, HB.out⟩
theorem spUp_any (a : Option Addr) (len cap : Nat) (zs : List Nat) (m sl : Nat) (w : World) (h : FSl w a len zs) (hm : len ≤ 1048576) :
    Calls Try.prog 26 #[.slice a len cap, .float .f32 m, .float .f32 sl] w (RetOB 23 (dfR (becT m sl false) m sl zs) (dfB (becT m sl false) m sl zs) w) := by
  have H := Lib.hid h
  have HL := Lib.hid h.1
  clear h
  cases hc : wchB m sl zs
  · have HC := Lib.hid hc
    have HB := Lib.hid (df_bad (bec := becT m sl false) hc)
    clear hc
    go_enter Try.func26, Try.ntmps26
    go_wp2_with (go_at_call 66; refine (watch_any _ _ _ _ _ _ _ H.out hm).mono ?_; rw [HC.out]; rintro e w' ⟨m, rfl, rfl⟩)
    go_ret2
    exact fail_ob _ HB.out.1 HB.out.2 (below_drewN (Below.refl _ _) _)
  · have HC := Lib.hid hc
    have HB := Lib.hid (df_good (bec := becT m sl false) hc)
    clear hc
    go_enter Try.func26, Try.ntmps26
    go_wp2_with fail
    refine (watch_any _ _ _ _ _ _ _ H.out hm).mono ?_
    rw [HC.out]
    rintro e w' ⟨m1, rfl, rfl⟩
    go_wp2_with fail
    refine (l07Drift_any _ _ _ _ _ _ false _ (FSl.drewN H.out m1) hm).mono ?_
    rintro e w1 ⟨v, rs, rfl, ho, hx, hb⟩
    have hlen : rs.length = len := by rw [← cnl_len, hx]; unfold dfL; rw [tells_len, HL.out]
    obtain ⟨A, cp, rfl, hsl, _⟩ := ho.sl
    have HO := Lib.hid (ho.mono (show w.heap.size ≤ _ from Nat.le_refl _))
    have HX := Lib.hid hx
    have HBl := Lib.hid ((below_drewN (Below.refl w.heap.size w) m1).trans hb)
    have HSL := Lib.hid hsl
    have hrk : rs.length ≤ 1048576 := by omega
    clear ho hx hb hsl hlen
    go_wp2_with fail
    refine (given_any _ cp rs _ w _ HSL.out hrk HX.out HO.out HBl.out).mono ?_
    rintro e w2 ⟨v, rs', rfl, ho, hx', hb'⟩
    have HO2 := Lib.hid ho
    have HX2 := Lib.hid hx'
    have HB2 := Lib.hid hb'
    clear ho hx' hb'
    go_wp2
    go_ret2
    exact ⟨v, rs', by rw [HB.out.1]; rfl, HO2.out, HX2.out.trans HB.out.2.symm, HB2.out⟩
theorem imDown_any (a : Option Addr) (len cap : Nat) (zs : List Nat) (m sl : Nat) (w : World) (h : FSl w a len zs) (hm : len ≤ 1048576) :
    Calls Try.prog 29 #[.slice a len cap, .float .f32 m, .float .f32 sl] w (RetOB 23 (dfR (becT m sl true) m sl zs) (dfB (becT m sl true) m sl zs) w) := by
  have H := Lib.hid h
  clear h
  go_enter Try.func29, Try.ntmps29
  go_wp2_with fail
  refine (dsums_any 71 m sl (becT m sl true) _ _ _ _ _ (enter_of Try.func71 (by kernel_rfl) rfl) (fun s x w => dn_any m sl s x w) H.out hm).mono ?_
  rintro e w1 ⟨v, rs, rfl, ho, hx, hb⟩
  have HO := Lib.hid ho
  have HX := Lib.hid hx
  have HB := Lib.hid hb
  clear ho hx hb
  go_wp2
  go_ret2
  exact ⟨v, rs, rfl, HO.out, HX.out, HB.out⟩
theorem spDown_any (a : Option Addr) (len cap : Nat) (zs : List Nat) (m sl : Nat) (w : World) (h : FSl w a len zs) (hm : len ≤ 1048576) :
    Calls Try.prog 28 #[.slice a len cap, .float .f32 m, .float .f32 sl] w (RetOB 23 (dfR (becT m sl true) m sl zs) (dfB (becT m sl true) m sl zs) w) := by
  have H := Lib.hid h
  have HL := Lib.hid h.1
  clear h
  cases hc : wchB m sl zs
  · have HC := Lib.hid hc
    have HB := Lib.hid (df_bad (bec := becT m sl true) hc)
    clear hc
    go_enter Try.func28, Try.ntmps28
    go_wp2_with (go_at_call 66; refine (watch_any _ _ _ _ _ _ _ H.out hm).mono ?_; rw [HC.out]; rintro e w' ⟨m, rfl, rfl⟩)
    go_ret2
    exact fail_ob _ HB.out.1 HB.out.2 (below_drewN (Below.refl _ _) _)
  · have HC := Lib.hid hc
    have HB := Lib.hid (df_good (bec := becT m sl true) hc)
    clear hc
    go_enter Try.func28, Try.ntmps28
    go_wp2_with fail
    refine (watch_any _ _ _ _ _ _ _ H.out hm).mono ?_
    rw [HC.out]
    rintro e w' ⟨m1, rfl, rfl⟩
    go_wp2_with fail
    refine (l07Drift_any _ _ _ _ _ _ true _ (FSl.drewN H.out m1) hm).mono ?_
    rintro e w1 ⟨v, rs, rfl, ho, hx, hb⟩
    have hlen : rs.length = len := by rw [← cnl_len, hx]; unfold dfL; rw [tells_len, HL.out]
    obtain ⟨A, cp, rfl, hsl, _⟩ := ho.sl
    have HO := Lib.hid (ho.mono (show w.heap.size ≤ _ from Nat.le_refl _))
    have HX := Lib.hid hx
    have HBl := Lib.hid ((below_drewN (Below.refl w.heap.size w) m1).trans hb)
    have HSL := Lib.hid hsl
    have hrk : rs.length ≤ 1048576 := by omega
    clear ho hx hb hsl hlen
    go_wp2_with fail
    refine (given_any _ cp rs _ w _ HSL.out hrk HX.out HO.out HBl.out).mono ?_
    rintro e w2 ⟨v, rs', rfl, ho, hx', hb'⟩
    have HO2 := Lib.hid ho
    have HX2 := Lib.hid hx'
    have HB2 := Lib.hid hb'
    clear ho hx' hb'
    go_wp2
    go_ret2
    exact ⟨v, rs', by rw [HB.out.1]; rfl, HO2.out, HX2.out.trans HB.out.2.symm, HB2.out⟩
end Go.Proofs.Ytpaelafopjmklaa
