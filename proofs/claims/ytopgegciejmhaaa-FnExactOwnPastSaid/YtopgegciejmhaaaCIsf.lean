/-
  impl.IsFinite and spec.l01Finite say whether the number is finite.
-/
import Derived.Test.YtopgegciejmhaaaCFin
namespace Go.Proofs.Ytopgegciejmhaaa
open Ieee Go.RowKit
set_option linter.unusedVariables false

theorem isFinite_any (x : Nat) (w : World) : Calls Try.prog 123 #[.float .f32 x] w (RetV (.bool (fin .f32 x)) w) := by
  have hl : ∀ w, wideR x w < 18446744073709551616 := fun w => wideR_lt x w
  have hf : ∀ w, fin .f64 (wideR x w) = fin .f32 x := fun w => fin_wideR x w
  have Hl := Lib.hid hl
  have Hf := Lib.hid hf
  clear hl hf
  go_enter Try.func123, Try.ntmps123
  go_wp2_with (go_at_call 168; refine (isFinite64_any _ _ (Hl.out _)).mono ?_; rw [Hf.out]; rintro e w' ⟨n, rfl, rfl⟩)
  go_ret
  exact ⟨_, rfl, rfl⟩

/-- What is taken from itself is zero for finite numbers alone. -/
theorem sub_self (k : FloatKind) (x : Nat) (w : World) : (k.format.order (fopR .sub k x x w) 0 == some Ordering.eq) = fin k x := by
  rw [order_left k (by rw [cn_fopR, aop_cn, cn_aop] : cn k (fopR .sub k x x w) = cn k (aop .sub k x x)) 0]
  unfold fin
  cases hN : isN k x
  · cases hI : isI k x
    · have hfin : x % k.format.signWeight < k.format.infRung := by
        rw [isN_iff] at hN; rw [isI_iff] at hI
        have h1 := of_decide_eq_false hN
        have h2 := of_decide_eq_false hI
        omega
      obtain ⟨s, m, e, h1, _, _⟩ := read_mag k.format x hfin
      have hs : floatBits .sub k x x = some (k.format.write (.number false 0 (k.format.leastPlace + (e : Int)))) := by
        show k.format.sub x x = _
        unfold Format.sub
        rw [h1]
        simp only [Datum.opposite, Datum.sum, Int.min_self]
        have : signed s m (k.format.leastPlace + (e : Int) - (k.format.leastPlace + (e : Int))).toNat + signed (!s) m (k.format.leastPlace + (e : Int) - (k.format.leastPlace + (e : Int))).toNat = 0 := by
          cases s <;> simp [signed] <;> omega
        simp only [this]
        cases s <;> rfl
      have hz : aop .sub k x x = 0 := by
        unfold aop
        rw [hs]
        show k.format.nearest false 0 (k.format.leastPlace + (e : Int)) = 0
        unfold Format.nearest
        rw [if_pos rfl]; rfl
      rw [hz]
      cases k <;> rfl
    · have hinf : x % k.format.signWeight = k.format.infRung := by rw [isI_iff] at hI; exact of_decide_eq_true hI
      have hr := read_inf k x hinf
      have hs : floatBits .sub k x x = none := by
        show k.format.sub x x = _
        unfold Format.sub
        rw [hr]
        cases (x / k.format.signWeight % 2 == 1) <;> rfl
      unfold aop
      rw [hs]
      show (k.format.order (nanOf k) 0 == some Ordering.eq) = _
      unfold Format.order
      rw [order_nan_left (isN_nanOf k)]
      rfl
  · have hs : floatBits .sub k x x = none := by
      cases h : floatBits .sub k x x with
      | none => rfl
      | some r => have := (floatBits_nan h).1; rw [hN] at this; cases this
    unfold aop
    rw [hs]
    show (k.format.order (nanOf k) 0 == some Ordering.eq) = _
    unfold Format.order
    rw [order_nan_left (isN_nanOf k)]
    rfl

theorem l01Finite_any (x : Nat) (w : World) : Calls Try.prog 59 #[.float .f32 x] w (RetV (.bool (fin .f32 x)) w) := by
  have H := Lib.hid (sub_self .f32 x w)
  go_enter Try.func59, Try.ntmps59
  go_wp2
  go_ret
  exact ⟨_, congrArg (fun b => Ending.returned (Value.bool b)) H.out, rfl⟩
end Go.Proofs.Ytopgegciejmhaaa
