/-
  OrderSize and OrderPoint, in both packages.
-/
import Derived.Test.YthlpmbddpenpmaaRch
import Derived.Test.YthlpmbddpenpmaaCSpr
import Derived.Test.YthlpmbddpenpmaaCIn
import Derived.Test.YthlpmbddpenpmaaMta
namespace Go.Proofs.Ythlpmbddpenpmaa
open Ieee Go.RowKit
set_option linter.unusedVariables false

def osB (n f h : Nat) : Bool := leaB n && (leaB f && abvB h)
def osW (n f h : Nat) : Nat := root32 (aop .quo .f32 (aop .mul .f32 (aop .mul .f32 1073741824 n) f) h)
def osOk (n f h : Nat) : Bool := osB n f h && fin .f32 (osW (cn .f32 n) (cn .f32 f) (cn .f32 h))
def osV (n f h : Nat) : Nat := if osOk n f h then osW (cn .f32 n) (cn .f32 f) (cn .f32 h) else 0
theorem os_bad {n f h : Nat} (hb : osB n f h = false) : osOk n f h = false ∧ osV n f h = 0 := by
  have : osOk n f h = false := by unfold osOk; rw [hb]; rfl
  exact ⟨this, by unfold osV; rw [this]; rfl⟩
theorem two_cnO : cn .f32 1073741824 = 1073741824 := by decide +kernel
theorem os_word (n f h : Nat) (w1 w2 w3 : World) : root32 (fopR .quo .f32 (fopR .mul .f32 (fopR .mul .f32 1073741824 n w1) f w2) h w3) = osW (cn .f32 n) (cn .f32 f) (cn .f32 h) := by
  unfold osW
  refine root32_congr ?_
  rw [cn_fopR, cn_fopR, cn_fopR, two_cnO, cn_aop]
theorem os_end {n f h r x : Nat} (hr : cn .f32 r = if fin .f32 x then cn .f32 x else 0) (hb : osB n f h = true) (hx : cn .f32 x = osW (cn .f32 n) (cn .f32 f) (cn .f32 h)) : cn .f32 r = osV n f h ∧ fin .f32 x = osOk n f h := by
  have hf : fin .f32 x = fin .f32 (osW (cn .f32 n) (cn .f32 f) (cn .f32 h)) := fin_congr (hx.trans (cn_root32 _).symm)
  have hB : osOk n f h = fin .f32 (osW (cn .f32 n) (cn .f32 f) (cn .f32 h)) := by unfold osOk; rw [hb]; rfl
  rw [hr, hf, hx, hB]
  unfold osV
  rw [hB]
  exact ⟨rfl, rfl⟩
theorem fsl3 (w : World) (x y z : Nat) (t : TypeId) : FSl (w.alloc (.cells #[.float .f32 x, .float .f32 y, .float .f32 z] t)) (some ⟨w.heap.size, 0, none⟩) 3 [x, y, z] := by
  refine ⟨rfl, .inr ⟨w.heap.size, 0, rfl, by simp, fun i hi => ?_⟩⟩
  rw [World.cell?_alloc_at _ _ _ _ rfl]
  match i, hi with
  | 0, _ => rfl
  | 1, _ => rfl
  | 2, _ => rfl
theorem spOs_any (n f h : Nat) (w : World) : Calls Try.prog 32 #[.float .f32 n, .float .f32 f, .float .f32 h] w (RetFBk (osV n f h) (osOk n f h) w.heap.size w) := by
  cases hb : osB n f h
  · have HB := Lib.hid (os_bad hb)
    cases h1 : leaB n
    · have HS := Lib.hid h1
      clear hb h1
      go_enter Try.func32, Try.ntmps32
      go_wp2_with (go_at_call 68; refine (lea_any _ _).mono ?_; rw [HS.out]; rintro e w' ⟨m, rfl, rfl⟩)
      go_ret2
      exact ⟨0, by rw [HB.out.2]; exact cn_zero, by rw [HB.out.1]; rfl, below_drewN (Below.refl _ _) _⟩
    · have HS := Lib.hid h1
      cases h2 : leaB f
      · have HS2 := Lib.hid h2
        clear hb h1 h2
        go_enter Try.func32, Try.ntmps32
        go_wp2_with fail
        refine (lea_any _ _).mono ?_
        rw [HS.out]
        rintro e w' ⟨m, rfl, rfl⟩
        go_wp2_with fail
        refine (lea_any _ _).mono ?_
        rw [HS2.out]
        rintro e w' ⟨m, rfl, rfl⟩
        go_wp2_with fail
        go_ret2
        exact ⟨0, by rw [HB.out.2]; exact cn_zero, by rw [HB.out.1]; rfl, below_drewN (Below.refl _ _) _⟩
      · have HS2 := Lib.hid h2
        have HS3 := Lib.hid (show abvB h = false by unfold osB at hb; rw [h1, h2] at hb; exact hb)
        clear hb h1 h2
        go_enter Try.func32, Try.ntmps32
        go_wp2_with fail
        refine (lea_any _ _).mono ?_
        rw [HS.out]
        rintro e w' ⟨m, rfl, rfl⟩
        go_wp2_with fail
        refine (lea_any _ _).mono ?_
        rw [HS2.out]
        rintro e w' ⟨m, rfl, rfl⟩
        go_wp2_with fail
        refine (abv_any _ _).mono ?_
        rw [HS3.out]
        rintro e w' ⟨m, rfl, rfl⟩
        go_wp2_with fail
        go_ret2
        exact ⟨0, by rw [HB.out.2]; exact cn_zero, by rw [HB.out.1]; rfl, below_drewN (Below.refl _ _) _⟩
  · have h1 := (Bool.and_eq_true _ _ ▸ hb).1
    have h23 := (Bool.and_eq_true _ _ ▸ hb).2
    have HS := Lib.hid h1
    have HS2 := Lib.hid (Bool.and_eq_true _ _ ▸ h23).1
    have HS3 := Lib.hid (Bool.and_eq_true _ _ ▸ h23).2
    have HB := Lib.hid hb
    clear hb h1 h23
    go_enter Try.func32, Try.ntmps32
    go_wp2_with fail
    refine (lea_any _ _).mono ?_
    rw [HS.out]
    rintro e w' ⟨m, rfl, rfl⟩
    go_wp2_with fail
    refine (lea_any _ _).mono ?_
    rw [HS2.out]
    rintro e w' ⟨m, rfl, rfl⟩
    go_wp2_with fail
    refine (abv_any _ _).mono ?_
    rw [HS3.out]
    rintro e w' ⟨m, rfl, rfl⟩
    go_wp2_with fail
    refine (specRoot_any _ _).mono ?_
    rintro e w' ⟨x, n2, hx, rfl, rfl⟩
    have HX := Lib.hid (hx.trans (os_word ..))
    clear hx
    go_wp2_with fail
    refine (specNumber_any _ _).mono ?_
    rintro e w' ⟨r', n', hr', rfl, rfl⟩
    have W := Lib.hid (os_end hr' HB.out HX.out)
    clear hr'
    go_wp2
    go_ret2
    exact ⟨r', W.out.1, by rw [← W.out.2]; rfl, below_drewN (Below.refl _ _) _⟩
theorem imOs_any (n f h : Nat) (w : World) : Calls Try.prog 33 #[.float .f32 n, .float .f32 f, .float .f32 h] w (RetFBk (osV n f h) (osOk n f h) w.heap.size w) := by
  have H3 := Lib.hid (fsl3 w n f h 23)
  have G := Lib.hid ((Below.refl w.heap.size w).alloc (Nat.le_refl _) (.cells #[.float .f32 n, .float .f32 f, .float .f32 h] 23))
  have hbad : fins [n, f, h] = false ∨ (fins [n, f, h] = true ∧ fin .f32 n = true ∧ fin .f32 f = true ∧ fin .f32 h = true) := by
    cases h1 : fin .f32 n
    · left; unfold fins; simp [h1]
    · cases h2 : fin .f32 f
      · left; unfold fins; simp [h2]
      · cases h3 : fin .f32 h
        · left; unfold fins; simp [h3]
        · right; exact ⟨by unfold fins; simp [h1, h2, h3], rfl, rfl, rfl⟩
  rcases hbad with hf | ⟨hf, f1, f2, f3⟩
  · have HF := Lib.hid hf
    have HB := Lib.hid (os_bad (n := n) (f := f) (h := h) (Bool.eq_false_iff.2 fun hb => by
      have h1 := (Bool.and_eq_true _ _ ▸ hb).1
      have h23 := (Bool.and_eq_true _ _ ▸ hb).2
      have h2 := (Bool.and_eq_true _ _ ▸ h23).1
      have h3 := (Bool.and_eq_true _ _ ▸ h23).2
      have g1 := (Bool.and_eq_true _ _ ▸ h1).1
      have g2 := (Bool.and_eq_true _ _ ▸ h2).1
      have g3 := (Bool.and_eq_true _ _ ▸ h3).1
      have : fins [n, f, h] = true := by unfold fins; simp [g1, g2, g3]
      rw [hf] at this; cases this))
    clear hf
    go_enter Try.func33, Try.ntmps33
    go_wp2_with fail
    refine (imFins_any _ _ _ _ _ H3.out (by omega)).mono ?_
    rw [HF.out]
    rintro e w' ⟨m, rfl, rfl⟩
    go_wp2_with fail
    go_ret2
    exact ⟨0, by rw [HB.out.2]; exact cn_zero, by rw [HB.out.1]; rfl, below_drewN G.out _⟩
  · have HF := Lib.hid hf
    have e1 := lt_ge f1
    have e2 := lt_ge f2
    have e3 := le_pos f3
    have hob : osB n f h = (geB n && (geB f && posB h)) := by unfold osB leaB abvB; rw [f1, f2, f3]; rfl
    clear hf f1 f2 f3
    cases g1 : geB n
    · rw [g1] at e1 hob
      have HB := Lib.hid (os_bad hob)
      clear hob e2 e3
      go_enter Try.func33, Try.ntmps33
      go_wp2_with fail
      refine (imFins_any _ _ _ _ _ H3.out (by omega)).mono ?_
      rw [HF.out]
      rintro e w' ⟨m, rfl, rfl⟩
      go_wp2_with fail
      go_ret2
      exact ⟨0, by rw [HB.out.2]; exact cn_zero, by rw [HB.out.1]; rfl, below_drewN G.out _⟩
    · cases g2 : geB f
      · rw [g1] at e1
        rw [g2] at e2
        rw [g1, g2] at hob
        have HB := Lib.hid (os_bad hob)
        clear hob e3
        go_enter Try.func33, Try.ntmps33
        go_wp2_with fail
        refine (imFins_any _ _ _ _ _ H3.out (by omega)).mono ?_
        rw [HF.out]
        rintro e w' ⟨m, rfl, rfl⟩
        go_wp2_with fail
        go_ret2
        exact ⟨0, by rw [HB.out.2]; exact cn_zero, by rw [HB.out.1]; rfl, below_drewN G.out _⟩
      · cases g3 : posB h
        · rw [g1] at e1
          rw [g2] at e2
          rw [g3] at e3
          rw [g1, g2, g3] at hob
          have HB := Lib.hid (os_bad hob)
          clear hob
          go_enter Try.func33, Try.ntmps33
          go_wp2_with fail
          refine (imFins_any _ _ _ _ _ H3.out (by omega)).mono ?_
          rw [HF.out]
          rintro e w' ⟨m, rfl, rfl⟩
          go_wp2_with fail
          go_ret2
          exact ⟨0, by rw [HB.out.2]; exact cn_zero, by rw [HB.out.1]; rfl, below_drewN G.out _⟩
        · rw [g1] at e1
          rw [g2] at e2
          rw [g3] at e3
          rw [g1, g2, g3] at hob
          have HB := Lib.hid (show osB n f h = true from hob)
          clear hob
          go_enter Try.func33, Try.ntmps33
          go_wp2_with fail
          refine (imFins_any _ _ _ _ _ H3.out (by omega)).mono ?_
          rw [HF.out]
          rintro e w' ⟨m, rfl, rfl⟩
          go_wp2_with fail
          refine (implRoot_any _ _).mono ?_
          rintro e w' ⟨x, n2, hx, rfl, rfl⟩
          have HX := Lib.hid (hx.trans (os_word ..))
          clear hx
          go_wp2_with fail
          refine (implOnly_any _ _).mono ?_
          rintro e w' ⟨r', n', hr', rfl, rfl⟩
          have W := Lib.hid (os_end hr' HB.out HX.out)
          clear hr'
          go_wp2
          go_ret2
          exact ⟨r', W.out.1, by rw [← W.out.2]; rfl, below_drewN G.out _⟩
end Go.Proofs.Ythlpmbddpenpmaa
