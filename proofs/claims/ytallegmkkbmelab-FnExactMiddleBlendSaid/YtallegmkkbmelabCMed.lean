/-
  Medians, in both packages.
-/
import Derived.Test.YtallegmkkbmelabCSrs
import Derived.Test.YtallegmkkbmelabCLag
import Derived.Test.YtallegmkkbmelabCMea
import Derived.Test.YtallegmkkbmelabFhf
namespace Go.Proofs.Ytallegmkkbmelab
open Ieee Go.RowKit
set_option linter.unusedVariables false

def med32 (zs : List Nat) : Nat := if zs.length % 2 = 1 then (srtL zs).getD (zs.length / 2) 0 else aop .quo .f32 (aop .add .f32 ((srtL zs).getD (zs.length / 2 - 1) 0) ((srtL zs).getD (zs.length / 2) 0)) 1073741824
def medB (zs : List Nat) : Bool := serB zs && fin .f32 (med32 zs)
def medR (zs : List Nat) : Nat := if medB zs then med32 zs else 0
theorem add_num {x y : Nat} (hx : fin .f32 x = true) (hy : fin .f32 y = true) : isN .f32 (aop .add .f32 x y) = false := by
  obtain ⟨s, m, p, h1⟩ := fin_datum hx
  obtain ⟨s', m', p', h2⟩ := fin_datum hy
  have hf : ∃ r, floatBits .add .f32 x y = some r := by
    show ∃ r, Option.map (FloatKind.format .f32).write (((FloatKind.format .f32).read x).sum ((FloatKind.format .f32).read y)) = some r
    rw [h1, h2]; exact ⟨_, rfl⟩
  obtain ⟨r, hf⟩ := hf
  unfold aop
  rw [hf]
  exact (floatBits_nan hf).2.2
theorem srtL_at {zs : List Nat} (h : fins zs = true) {k : Nat} (hk : k < zs.length) : fin .f32 ((srtL zs).getD k 0) = true := fins_at (srtL_fins h) (by rw [srtL_len]; exact hk)
theorem cn_med {zs : List Nat} (h : serB zs = true) : cn .f32 (med32 zs) = med32 zs := by
  unfold med32
  split
  · exact cn_num (fin_noN (srtL_at (serB_t h).2.2 (by have := (serB_t h).1; omega)))
  · exact cn_aop ..
/-- A float, behind blocks of the call's own. -/
def RetFw (v : Nat) (w : World) (e : Ending) (w' : World) : Prop := ∃ r, cn .f32 r = v ∧ e = .returned (.float .f32 r) ∧ Below w.heap.size w w'
def RetFBw (v : Nat) (b : Bool) (w : World) (e : Ending) (w' : World) : Prop := ∃ r, cn .f32 r = v ∧ e = .returned (.tuple #[.float .f32 r, .bool b]) ∧ Below w.heap.size w w'
theorem onlyX_any (x : Nat) (w : World) : Calls Try.prog 49 #[.float .f32 x] w (RetV (.tuple #[.float .f32 (if fin .f32 x then x else 0), .bool (fin .f32 x)]) w) := by
  cases hx : fin .f32 x
  all_goals
    have HX := Lib.hid hx
    clear hx
    go_enter Try.func49, Try.ntmps49
    go_wp2_with (go_at_call 54; refine (isFinite_any _ _).mono ?_; rw [HX.out]; rintro e w' ⟨m, rfl, rfl⟩)
    go_ret2
    exact ⟨m, rfl, rfl⟩

theorem l02Med_any (a : Option Addr) (len cap : Nat) (zs : List Nat) (w : World) (h : FSl w a len zs) (hm : len ≤ 1048576) (hs : serB zs = true) :
    Calls Try.prog 66 #[.slice a len cap] w (RetFw (med32 zs) w) := by
  have H := Lib.hid h
  have hl := h.1
  obtain ⟨hs1, hs2, hs3⟩ := serB_t hs
  rw [hl] at hs1 hs2
  have HF := Lib.hid hs3
  have HS := Lib.hid hs
  obtain ⟨b, off, rfl, -, -⟩ := h.at (by omega)
  clear h hs hs3
  obtain ⟨hf, hhf⟩ : ∃ hf : Nat, hf = len / 2 := ⟨_, rfl⟩
  have hfz : (len : Int) / 2 = (hf : Int) := by omega
  have f1 : 2 * hf ≤ len := by omega
  have f2 : len ≤ 2 * hf + 1 := by omega
  rcases (show len % 2 = 1 ∨ len % 2 = 0 by omega) with ho | ho
  · have HMd := Lib.hid (show med32 zs = (srtL zs).getD hf 0 by unfold med32; rw [hl, if_pos ho, hhf])
    have ho1 : ((len : Int) % 2 == 1) = true := by rw [beq_iff_eq]; omega
    have ho2 : decide ((len : Int) % 2 = 1) = true := decide_eq_true (by omega)
    have ho3 : (len : Int) % 2 = 1 := by omega
    have hlt : hf < len := by omega
    have HCn := Lib.hid (show cn .f32 ((srtL zs).getD hf 0) = med32 zs by rw [← HMd.out, cn_med HS.out])
    have HLs := Lib.hid (show (srtL zs).length = len by rw [srtL_len, hl])
    clear hhf ho hl
    go_enter Try.func66, Try.ntmps66
    go_wp2_with fail
    refine (specSort_any _ _ _ _ _ _ H.out (by omega) hm HF.out).mono ?_
    rintro e w1 ⟨v, rfl, hown, hb⟩
    obtain ⟨A, cp, rfl, hsl, _⟩ := hown.sl
    have HB := Lib.hid hb
    rw [HLs.out] at hsl ⊢
    obtain ⟨g, o, rfl, _, hc⟩ := hsl.at (by omega)
    have c1 := hc hf hlt
    clear hc hsl hown hb
    obtain ⟨x, hx⟩ : ∃ x, (srtL zs).getD hf 0 = x := ⟨_, rfl⟩
    rw [hx] at c1 HCn
    have l1 : (hf : Int) < (len : Int) := by omega
    have p1 : (0 : Int) ≤ (hf : Int) := by omega
    clear hx HMd
    go_wp2
    go_ret
    exact ⟨x, HCn.out, rfl, HB.out⟩
  · obtain ⟨hp, hhp⟩ : ∃ hp : Nat, hp + 1 = hf := ⟨hf - 1, by omega⟩
    have HMd := Lib.hid (show med32 zs = aop .quo .f32 (aop .add .f32 ((srtL zs).getD hp 0) ((srtL zs).getD hf 0)) 1073741824 by
      unfold med32; rw [hl, if_neg (by omega), ← hhf, show hf - 1 = hp by omega])
    have ho1 : ((len : Int) % 2 == 1) = false := beq_false_of_ne (by omega)
    have ho2 : decide ((len : Int) % 2 = 1) = false := decide_eq_false (by omega)
    have ho3 : (len : Int) % 2 = 0 := by omega
    have hlt : hf < len := by omega
    have hlp : hp < len := by omega
    have n1 := srtL_at HF.out (k := hp) (by rw [hl]; exact hlp)
    have n2 := srtL_at HF.out (k := hf) (by rw [hl]; exact hlt)
    have HLs := Lib.hid (show (srtL zs).length = len by rw [srtL_len, hl])
    have g1 : hp < hf := by omega
    have g2 : hf ≤ hp + 1 := by omega
    clear hhf ho hl hhp
    have r1 : IntKind.i64.wrap ((hf : Int) - 1) = (hp : Int) := by rw [IntKind.wrap_i64]; omega
    have r2 : (hf : Int) - 1 = (hp : Int) := by omega
    go_enter Try.func66, Try.ntmps66
    go_wp2_with fail
    refine (specSort_any _ _ _ _ _ _ H.out (by omega) hm HF.out).mono ?_
    rintro e w1 ⟨v, rfl, hown, hb⟩
    obtain ⟨A, cp, rfl, hsl, _⟩ := hown.sl
    have HB := Lib.hid hb
    rw [HLs.out] at hsl ⊢
    obtain ⟨g, o, rfl, _, hc⟩ := hsl.at (by omega)
    have c1 := hc hf hlt
    have c2 := hc hp hlp
    clear hc hsl hown hb
    obtain ⟨x, hx⟩ : ∃ x, (srtL zs).getD hp 0 = x := ⟨_, rfl⟩
    obtain ⟨y, hy⟩ : ∃ y, (srtL zs).getD hf 0 = y := ⟨_, rfl⟩
    rw [hy] at c1 n2
    rw [hx] at c2 n1
    rw [hx, hy] at HMd
    have e1 := fun W => add_run (P := Try.prog) 28 n1 n2 W
    have e2 := fun W => mulh_run (P := Try.prog) 28 (add_num n1 n2) W
    have l1 : (hf : Int) < (len : Int) := by omega
    have l2 : (hp : Int) < (len : Int) := by omega
    have p1 : (0 : Int) ≤ (hf : Int) := by omega
    have p2 : (0 : Int) ≤ (hp : Int) := by omega
    clear hx hy n1 n2
    go_wp2_with fail
    go_quiet (fail)
    clear c1 c2 e1 e2
    go_wp2
    go_ret
    exact ⟨_, by rw [HMd.out, cn_aop], rfl, below_drewN HB.out _⟩

theorem implMed_any (a : Option Addr) (len cap : Nat) (zs : List Nat) (w : World) (h : FSl w a len zs) (hm : len ≤ 1048576) :
    Calls Try.prog 70 #[.slice a len cap] w (RetFBw (medR zs) (medB zs) w) := by
  have H := Lib.hid h
  have hl := h.1
  cases hs : serB zs
  · have HS := Lib.hid hs
    have HB := Lib.hid (show medB zs = false by unfold medB; rw [hs]; rfl)
    clear hs h
    go_enter Try.func70, Try.ntmps70
    go_wp2_with (go_at_call 72; refine (implSeries_any _ _ _ _ _ H.out hm).mono ?_; rw [HS.out]; rintro e w' ⟨m, rfl, rfl⟩)
    go_ret2
    exact ⟨_, by unfold medR; rw [HB.out]; exact cn_zero, by rw [HB.out]; rfl, below_drewN (Below.refl _ _) _⟩
  · have HS := Lib.hid hs
    have HB := Lib.hid (show medB zs = fin .f32 (med32 zs) by unfold medB; rw [hs]; rfl)
    obtain ⟨hs1, hs2, hs3⟩ := serB_t hs
    rw [hl] at hs1 hs2
    have HF := Lib.hid hs3
    obtain ⟨b, off, rfl, -, -⟩ := h.at (by omega)
    clear h hs hs3
    obtain ⟨hf, hhf⟩ : ∃ hf : Nat, hf = len / 2 := ⟨_, rfl⟩
    have hfz : (len : Int) / 2 = (hf : Int) := by omega
    have f1 : 2 * hf ≤ len := by omega
    have f2 : len ≤ 2 * hf + 1 := by omega
    rcases (show len % 2 = 1 ∨ len % 2 = 0 by omega) with ho | ho
    · have HMd := Lib.hid (show med32 zs = (srtL zs).getD hf 0 by unfold med32; rw [hl, if_pos ho, hhf])
      have ho1 : ((len : Int) % 2 == 1) = true := by rw [beq_iff_eq]; omega
      have ho2 : decide ((len : Int) % 2 = 1) = true := decide_eq_true (by omega)
      have ho3 : (len : Int) % 2 = 1 := by omega
      have hlt : hf < len := by omega
      have HT := Lib.hid (show medB zs = true by rw [HB.out, HMd.out]; exact srtL_at HF.out (by rw [hl]; exact hlt))
      have HCn := Lib.hid (show cn .f32 ((srtL zs).getD hf 0) = medR zs by unfold medR; rw [HT.out, ← HMd.out, cn_med HS.out]; rfl)
      have HLs := Lib.hid (show (srtL zs).length = len by rw [srtL_len, hl])
      clear hhf ho hl
      go_enter Try.func70, Try.ntmps70
      go_wp2_with fail
      refine (implSeries_any _ _ _ _ _ H.out hm).mono ?_
      rw [HS.out]
      rintro e w' ⟨m, rfl, rfl⟩
      go_wp2_with fail
      refine (asc_any _ _ _ _ _ _ (FSl.drewN H.out m) (by omega) hm HF.out).mono ?_
      rintro e w1 ⟨v, rfl, hown, hb⟩
      obtain ⟨A, cp, rfl, hsl, _⟩ := hown.sl
      have HBl := Lib.hid ((below_drewN (Below.refl _ _) m).trans hb)
      rw [HLs.out] at hsl ⊢
      obtain ⟨g, o, rfl, _, hc⟩ := hsl.at (by omega)
      have c1 := hc hf hlt
      clear hc hsl hown hb
      obtain ⟨x, hx⟩ : ∃ x, (srtL zs).getD hf 0 = x := ⟨_, rfl⟩
      rw [hx] at c1 HCn
      have l1 : (hf : Int) < (len : Int) := by omega
      have p1 : (0 : Int) ≤ (hf : Int) := by omega
      clear hx HMd
      go_wp2
      go_ret2
      exact ⟨x, HCn.out, by rw [HT.out]; rfl, HBl.out⟩
    · obtain ⟨hp, hhp⟩ : ∃ hp : Nat, hp + 1 = hf := ⟨hf - 1, by omega⟩
      have HMd := Lib.hid (show med32 zs = aop .quo .f32 (aop .add .f32 ((srtL zs).getD hp 0) ((srtL zs).getD hf 0)) 1073741824 by
        unfold med32; rw [hl, if_neg (by omega), ← hhf, show hf - 1 = hp by omega])
      have ho1 : ((len : Int) % 2 == 1) = false := beq_false_of_ne (by omega)
      have ho2 : decide ((len : Int) % 2 = 1) = false := decide_eq_false (by omega)
      have ho3 : (len : Int) % 2 = 0 := by omega
      have hlt : hf < len := by omega
      have hlp : hp < len := by omega
      have n1 := srtL_at HF.out (k := hp) (by rw [hl]; exact hlp)
      have n2 := srtL_at HF.out (k := hf) (by rw [hl]; exact hlt)
      have HLs := Lib.hid (show (srtL zs).length = len by rw [srtL_len, hl])
      have g1 : hp < hf := by omega
      have g2 : hf ≤ hp + 1 := by omega
      clear hhf ho hl hhp
      have r1 : IntKind.i64.wrap ((hf : Int) - 1) = (hp : Int) := by rw [IntKind.wrap_i64]; omega
      have r2 : (hf : Int) - 1 = (hp : Int) := by omega
      go_enter Try.func70, Try.ntmps70
      go_wp2_with fail
      refine (implSeries_any _ _ _ _ _ H.out hm).mono ?_
      rw [HS.out]
      rintro e w' ⟨m, rfl, rfl⟩
      go_wp2_with fail
      refine (asc_any _ _ _ _ _ _ (FSl.drewN H.out m) (by omega) hm HF.out).mono ?_
      rintro e w1 ⟨v, rfl, hown, hb⟩
      obtain ⟨A, cp, rfl, hsl, _⟩ := hown.sl
      have HBl := Lib.hid ((below_drewN (Below.refl _ _) m).trans hb)
      rw [HLs.out] at hsl ⊢
      obtain ⟨g, o, rfl, _, hc⟩ := hsl.at (by omega)
      have c1 := hc hf hlt
      have c2 := hc hp hlp
      clear hc hsl hown hb
      obtain ⟨x, hx⟩ : ∃ x, (srtL zs).getD hp 0 = x := ⟨_, rfl⟩
      obtain ⟨y, hy⟩ : ∃ y, (srtL zs).getD hf 0 = y := ⟨_, rfl⟩
      rw [hy] at c1 n2
      rw [hx] at c2 n1
      rw [hx, hy] at HMd
      have e1 := fun W => add_run (P := Try.prog) 28 n1 n2 W
      have e2 := fun W => quo2_run (P := Try.prog) 28 (add_num n1 n2) W
      rw [← HMd.out] at e2
      obtain ⟨mm, hmm⟩ : ∃ mm, med32 zs = mm := ⟨_, rfl⟩
      have HCn := Lib.hid (show cn .f32 (if fin .f32 mm then mm else 0) = medR zs by
        unfold medR
        rw [HB.out, hmm]
        split
        · rw [← hmm, cn_med HS.out]
        · exact cn_zero)
      have HBm := Lib.hid (show fin .f32 mm = medB zs by rw [HB.out, hmm])
      rw [hmm] at e2
      obtain ⟨v, bb, hc, hv, hbb⟩ : ∃ (v : Nat) (bb : Bool), Hid (∀ W, Calls Try.prog 49 #[.float .f32 mm] W (RetV (.tuple #[.float .f32 v, .bool bb]) W)) ∧ Hid (cn .f32 v = medR zs) ∧ Hid (bb = medB zs) :=
        ⟨_, _, Lib.hid (fun W => onlyX_any mm W), Lib.hid HCn.out, Lib.hid HBm.out⟩
      clear HCn HBm
      have l1 : (hf : Int) < (len : Int) := by omega
      have l2 : (hp : Int) < (len : Int) := by omega
      have p1 : (0 : Int) ≤ (hf : Int) := by omega
      have p2 : (0 : Int) ≤ (hp : Int) := by omega
      clear hx hy n1 n2 hmm HMd
      go_wp2_with fail
      go_quiet ((go_at_call 49; first | exact quiet_V (hc.out _) | exact quiet_add_V (hc.out _)))
      clear c1 c2 e1 e2
      go_wp2
      go_ret2
      exact ⟨v, hv.out, by rw [← hbb.out]; rfl, below_drewN HBl.out _⟩
end Go.Proofs.Ytallegmkkbmelab
