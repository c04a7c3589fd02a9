/-
  Finite numbers: their sums and differences cost no draw; greater than 0; the sum of what places tell.
-/
import Derived.Test.YtopgegciejmhaaaCSqr
import Derived.Test.YtopgegciejmhaaaCMea
import Derived.Test.YtopgegciejmhaaaFnf
namespace Go.Proofs.Ytopgegciejmhaaa
open Ieee Go.RowKit
set_option linter.unusedVariables false

theorem fin_datum {k : FloatKind} {x : Nat} (h : fin k x = true) : ∃ s m p, k.format.read x = .number s m p := by
  unfold fin isN isI at h
  cases hr : k.format.read x with
  | number s m p => exact ⟨s, m, p, rfl⟩
  | infinity s => rw [hr] at h; simp [Datum.isNaN, Datum.isInfinity] at h
  | nan s t => rw [hr] at h; simp [Datum.isNaN, Datum.isInfinity] at h
theorem order_fin {x y : Nat} (hx : fin .f32 x = true) (hy : fin .f32 y = true) : (FloatKind.format .f32).order x y ≠ none := by
  obtain ⟨s, m, p, h1⟩ := fin_datum hx
  obtain ⟨s', m', p', h2⟩ := fin_datum hy
  unfold Format.order
  rw [h1, h2]
  simp [Datum.order]
theorem sub_run {P : Program} (t : TypeId) {x y : Nat} (hx : fin .f32 x = true) (hy : fin .f32 y = true) (w : World) : (binOp .sub t (.float .f32 x) (.float .f32 y)).run P w = .ok (.float .f32 (aop .sub .f32 x y)) w := by
  obtain ⟨s, m, p, h1⟩ := fin_datum hx
  obtain ⟨s', m', p', h2⟩ := fin_datum hy
  have hf : ∃ r, floatBits .sub .f32 x y = some r := by
    show ∃ r, Option.map (FloatKind.format .f32).write (((FloatKind.format .f32).read x).sum (((FloatKind.format .f32).read y).opposite)) = some r
    rw [h1, h2]; exact ⟨_, rfl⟩
  obtain ⟨r, hf⟩ := hf
  rw [run_float_arith w .sub t .f32 x y r hf]
  unfold aop
  rw [hf]; rfl
theorem add_run {P : Program} (t : TypeId) {x y : Nat} (hx : fin .f32 x = true) (hy : fin .f32 y = true) (w : World) : (binOp .add t (.float .f32 x) (.float .f32 y)).run P w = .ok (.float .f32 (aop .add .f32 x y)) w := by
  obtain ⟨s, m, p, h1⟩ := fin_datum hx
  obtain ⟨s', m', p', h2⟩ := fin_datum hy
  have hf : ∃ r, floatBits .add .f32 x y = some r := by
    show ∃ r, Option.map (FloatKind.format .f32).write (((FloatKind.format .f32).read x).sum ((FloatKind.format .f32).read y)) = some r
    rw [h1, h2]; exact ⟨_, rfl⟩
  obtain ⟨r, hf⟩ := hf
  rw [run_float_arith w .add t .f32 x y r hf]
  unfold aop
  rw [hf]; rfl
def posB (x : Nat) : Bool := (FloatKind.format .f32).order x 0 == some .gt
theorem posB_congr {x y : Nat} (h : cn .f32 x = cn .f32 y) : posB x = posB y := by unfold posB; rw [order_left .f32 h 0]
/-- The sum of what the first places tell. -/
def sumT (tell : Nat → Nat) : Nat → Nat
  | 0 => 0
  | k + 1 => aop .add .f32 (sumT tell k) (tell k)
theorem sumT_cn (tell : Nat → Nat) : ∀ k, cn .f32 (sumT tell k) = sumT tell k
  | 0 => cn_zero
  | _ + 1 => cn_aop ..
theorem sumT_congr {f g : Nat → Nat} : ∀ {n : Nat}, (∀ k, k < n → f k = g k) → sumT f n = sumT g n
  | 0, _ => rfl
  | n + 1, h => by
    unfold sumT
    rw [sumT_congr (n := n) (fun k hk => h k (by omega)), h n (by omega)]
theorem sum_step {tell : Nat → Nat} {s r k : Nat} (hs : cn .f32 s = sumT tell k) (hr : cn .f32 r = tell k) (w : World) : cn .f32 (fopR .add .f32 s r w) = sumT tell (k + 1) := by
  rw [cn_fopR, hs, hr]; rfl
theorem fin_sumT {tell : Nat → Nat} : ∀ {n : Nat}, fin .f32 (sumT tell n) = true → ∀ k, k < n → fin .f32 (tell k) = true
  | 0, _, k, hk => by omega
  | n + 1, h, k, hk => by
    unfold sumT at h
    rcases Nat.lt_or_ge k n with h1 | h1
    · exact fin_sumT (fin_add h).1 k h1
    · obtain rfl : k = n := by omega
      exact (fin_add h).2
theorem dotTo_sumT (xs ys : List Nat) : ∀ k, dotTo xs ys k = sumT (fun i => aop .mul .f32 (cn .f32 (xs.getD i 0)) (cn .f32 (ys.getD i 0))) k
  | 0 => rfl
  | k + 1 => by unfold dotTo sumT; rw [dotTo_sumT xs ys k]
theorem dotTo_congr {xs ys xs' ys' : List Nat} {n : Nat} (h : ∀ k, k < n → cn .f32 (xs.getD k 0) = cn .f32 (xs'.getD k 0) ∧ cn .f32 (ys.getD k 0) = cn .f32 (ys'.getD k 0)) : dotTo xs ys n = dotTo xs' ys' n := by
  rw [dotTo_sumT, dotTo_sumT]
  exact sumT_congr fun k hk => by rw [(h k hk).1, (h k hk).2]
theorem dotTo_cn (xs ys : List Nat) (k : Nat) : cn .f32 (dotTo xs ys k) = dotTo xs ys k := by rw [dotTo_sumT]; exact sumT_cn ..
end Go.Proofs.Ytopgegciejmhaaa
