/-
  SpreadOf, in both packages.
-/
import Derived.Test.YtpaelafopjmklaaCSqr
import Derived.Test.YtpaelafopjmklaaCMea
import Derived.Test.YtpaelafopjmklaaCRoo
import Derived.Test.YtpaelafopjmklaaFnf
namespace Go.Proofs.Ytpaelafopjmklaa
open Ieee Go.RowKit
set_option linter.unusedVariables false

theorem root32_cn (x : Nat) : root32 (cn .f32 x) = root32 x := by unfold root32; rw [awide_cn]
theorem root32_congr {x y : Nat} (h : cn .f32 x = cn .f32 y) : root32 x = root32 y := by rw [← root32_cn x, h, root32_cn]
/-- The spread of a list, up to not-a-numbers. -/
def spread32 (zs : List Nat) : Nat := root32 (aop .quo .f32 (sqTo zs (mean32 zs) zs.length) (cn .f32 (i2f zs.length)))
def spreadB (zs : List Nat) : Bool := serB zs && fin .f32 (spread32 zs)
def spreadR (zs : List Nat) : Nat := if spreadB zs then spread32 zs else 0

theorem cn_root32 (x : Nat) : cn .f32 (root32 x) = root32 x := cn_anar _
theorem cn_spread (zs : List Nat) : cn .f32 (spread32 zs) = spread32 zs := cn_root32 _
theorem fin_sqTo {zs : List Nat} {m : Nat} : ∀ {k : Nat}, 0 < k → fin .f32 (sqTo zs m k) = true → fin .f32 m = true
  | k + 1, _, h => by
    unfold sqTo at h
    exact (fin_sub (fin_mul (fin_add h).2).1).2
theorem spread_mean {zs : List Nat} (h : spreadB zs = true) : meanB zs = true := by
  unfold spreadB at h
  have h1 := (Bool.and_eq_true _ _ ▸ h).1
  have h2 := (Bool.and_eq_true _ _ ▸ h).2
  unfold meanB
  rw [h1, fin_sqTo (serB_t h1).1 (fin_quo (fin_root h2))]
  rfl
theorem spread_word {rs zs : List Nat} {d x : Nat} (hd : cn .f32 d = sqTo zs (cn .f32 x) zs.length) (hx : cn .f32 x = mean32 zs) (w : World) :
    root32 (fopR .quo .f32 d (floatOfInt .f32 zs.length) w) = spread32 zs := by
  unfold spread32
  refine root32_congr ?_
  rw [cn_fopR, hd, hx, cn_aop]
  rfl
theorem spread_end {zs : List Nat} {r x : Nat} (h : cn .f32 r = if fin .f32 x then cn .f32 x else 0) (hs : serB zs = true) (hx : cn .f32 x = spread32 zs) : cn .f32 r = spreadR zs ∧ fin .f32 x = spreadB zs := by
  have hf : fin .f32 x = fin .f32 (spread32 zs) := fin_congr (hx.trans (cn_spread zs).symm)
  have hB : spreadB zs = fin .f32 (spread32 zs) := by unfold spreadB; rw [hs]; rfl
  rw [h, hf, hx, hB]
  unfold spreadR
  rw [hB]
  exact ⟨rfl, rfl⟩
/-- A float and a bool, behind calls that make memory. -/
def RetFBb (k : FloatKind) (v : Nat) (b : Bool) (w : World) (e : Ending) (w' : World) : Prop := ∃ r, cn k r = v ∧ e = .returned (.tuple #[.float k r, .bool b]) ∧ Below w.heap.size w w'
theorem implSpread_any (a : Option Addr) (len cap : Nat) (zs : List Nat) (w : World) (h : FSl w a len zs) (hm : len ≤ 1048576) :
    Calls Try.prog 98 #[.slice a len cap] w (RetFB .f32 (spreadR zs) (spreadB zs) w) := by
  have H := Lib.hid h
  have HL := Lib.hid h.1
  clear h
  cases hs : meanB zs
  · have HS := Lib.hid hs
    have HB := Lib.hid (show spreadB zs = false from Bool.eq_false_iff.2 fun hb => Bool.false_ne_true (hs.symm.trans (spread_mean hb)))
    clear hs
    go_enter Try.func98, Try.ntmps98
    go_wp2_with (go_at_call 99; refine (implMean_any _ _ _ _ _ H.out hm).mono ?_; rw [HS.out]; rintro e w' ⟨r, m, hr, rfl, rfl⟩; clear hr)
    go_ret2
    exact ⟨_, m, by unfold spreadR; rw [HB.out]; exact cn_zero, by rw [HB.out]; rfl, rfl⟩
  · have HS := Lib.hid hs
    have HV := Lib.hid (show meanR zs = mean32 zs by unfold meanR; rw [hs]; rfl)
    have HSe := Lib.hid (show serB zs = true from (Bool.and_eq_true _ _ ▸ (show (serB zs && fin .f32 (mean32 zs)) = true from hs)).1)
    clear hs
    go_enter Try.func98, Try.ntmps98
    go_wp2_with fail
    refine (implMean_any _ _ _ _ _ H.out hm).mono ?_
    rw [HS.out, HV.out]
    rintro e w' ⟨x, m, hx, rfl, rfl⟩
    have HX := Lib.hid hx
    clear hx
    go_wp2_with fail
    refine (implSquares_any _ _ _ _ _ _ (FSl.drewN H.out m) hm).mono ?_
    rintro e w' ⟨d, n, hd, rfl, rfl⟩
    have HD := Lib.hid hd
    clear hd
    go_wp2_with fail
    refine (implRoot_any _ _).mono ?_
    rintro e w' ⟨r, n3, hr, rfl, rfl⟩
    have Hr := Lib.hid hr
    clear hr
    go_wp2_with fail
    refine (implOnly_any _ _).mono ?_
    rintro e w' ⟨r', n', hr', rfl, rfl⟩
    have HR' := Lib.hid hr'
    clear hr'
    go_wp2
    go_ret2
    have W := spread_end HR'.out HSe.out (by rw [Hr.out, ← HL.out]; exact spread_word (rs := zs) (by rw [HD.out, ← HL.out]) HX.out _)
    exact ⟨r', _, W.1, by rw [← W.2]; rfl, rfl⟩
end Go.Proofs.Ytpaelafopjmklaa
