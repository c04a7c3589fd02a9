/-
  GuessOf, in both packages.
-/
import Derived.Test.YtgddfhmddkhaeaaVst
import Derived.Deep.RegionWith
namespace Go.Proofs.Ytgddfhmddkhaeaa
open Ieee Go.RowKit
set_option linter.unusedVariables false

/-- A level, some slopes, and a number of the season. -/
def gW (l s d z : Nat) : Nat := aop .add .f32 (aop .add .f32 l (aop .mul .f32 d s)) z
theorem cn_gW (l s d z : Nat) : cn .f32 (gW l s d z) = gW l s d z := cn_aop ..
theorem gW_step (l s d z : Nat) (w1 w2 w3 : World) : cn .f32 (fopR .add .f32 (fopR .add .f32 l (fopR .mul .f32 d s w1) w2) z w3) = gW (cn .f32 l) (cn .f32 s) (cn .f32 d) (cn .f32 z) := by
  rw [cn_fopR, cn_fopR, cn_fopR]; rfl
def guW (l s : Nat) (zs : List Nat) (t : Int) (d : Nat) : Nat := gW (cn .f32 l) (cn .f32 s) (cn .f32 d) (cn .f32 (zs.getD t.toNat 0))
theorem cn_gu (l s : Nat) (zs : List Nat) (t : Int) (d : Nat) : cn .f32 (guW l s zs t d) = guW l s zs t d := cn_gW ..
def guB (l s : Nat) (zs : List Nat) (t : Int) (a b c d : Nat) : Bool := (stB l s zs t && shB4 a b c d) && fin .f32 (guW l s zs t d)
def guR (l s : Nat) (zs : List Nat) (t : Int) (a b c d : Nat) : Nat := if guB l s zs t a b c d then guW l s zs t d else 0
/-- A number and a bool. -/
def RetNB (v : Nat) (b : Bool) (w : World) (e : Ending) (w' : World) : Prop := ∃ r, cn .f32 r = v ∧ e = .returned (.tuple #[.float .f32 r, .bool b]) ∧ Below w.heap.size w w'
theorem gu_bad {l s : Nat} {zs : List Nat} {t : Int} {a b c d : Nat} (h : (stB l s zs t && shB4 a b c d) = false) : guB l s zs t a b c d = false ∧ guR l s zs t a b c d = 0 := by
  have : guB l s zs t a b c d = false := by unfold guB; rw [h]; rfl
  exact ⟨this, by unfold guR; rw [this]; rfl⟩
theorem gu_good {l s : Nat} {zs : List Nat} {t : Int} {a b c d r x : Nat} (h1 : stB l s zs t = true) (h2 : shB4 a b c d = true) (hx : cn .f32 x = guW l s zs t d) (hr : cn .f32 r = if fin .f32 x then cn .f32 x else 0) : cn .f32 r = guR l s zs t a b c d ∧ fin .f32 x = guB l s zs t a b c d := by
  have e : fin .f32 x = fin .f32 (guW l s zs t d) := fin_congr (by rw [hx, cn_gu])
  have e2 : guB l s zs t a b c d = fin .f32 (guW l s zs t d) := by unfold guB; rw [h1, h2]; rfl
  refine ⟨?_, by rw [e2, e]⟩
  rw [hr, e, hx]; unfold guR; rw [e2]

theorem at_any (l s : Nat) (a : Option Addr) (len cap : Nat) (zs : List Nat) (t : Int) (d k : Nat) (w : World) (h : FSl w a len zs) (hk : k < len) (hm : len ≤ 1048576) :
    Calls Try.prog 123 #[.agg #[.float .f32 l, .float .f32 s, .slice a len cap, .int .i64 t], .float .f32 d, .int .i64 k] w fun e w' => ∃ r, cn .f32 r = gW (cn .f32 l) (cn .f32 s) (cn .f32 d) (cn .f32 (zs.getD k 0)) ∧ e = .returned (.float .f32 r) ∧ Below w.heap.size w w' := by
  have G := Lib.hid ((Below.refl w.heap.size w).alloc (Nat.le_refl _) (.cells #[.float .f32 l, .float .f32 s, .slice a len cap, .int .i64 t] 29))
  have H := FSl.below h G.out
  obtain ⟨b, off, rfl, hb, hc⟩ := H.at (by omega)
  have hck := hc k hk
  generalize zs.getD k 0 = z at *
  have HT := Lib.hid (gW_step l s d z)
  clear hc hb H h
  go_enter Try.func123, Try.ntmps123
  go_wp2
  go_region
  all_goals
    go_wp2
    go_ret
    exact ⟨_, HT.out _ _ _, rfl, below_drewN G.out _⟩
set_option maxHeartbeats 1000000 in
theorem spGu_any (p q l s : Nat) (a : Option Addr) (len cap : Nat) (zs : List Nat) (t : Int) (x y c d k : Nat) (w : World) (hin : StIn w p l s a len cap t) (hsh : ShIn w q x y c d) (h : FSl w a len zs) (hk : k < len) (ht : t = (k : Int)) (hm : len ≤ 1048576) :
    Calls Try.prog 120 #[.pointer (some ⟨p, 0, none⟩), .pointer (some ⟨q, 0, none⟩)] w (RetF .f32 (gW (cn .f32 l) (cn .f32 s) (cn .f32 d) (cn .f32 (zs.getD k 0))) w) := by
  subst ht
  obtain ⟨b, off, rfl, hb, hc⟩ := h.at (by omega)
  have hck := hc k hk
  generalize zs.getD k 0 = z at *
  have HT := Lib.hid (gW_step l s d z)
  obtain ⟨c0, c1, c2, c3⟩ := hin
  obtain ⟨-, -, -, e3⟩ := hsh
  clear hc hb h
  go_enter Try.func120, Try.ntmps120
  go_wp2
  go_region
  all_goals
    go_wp2
    go_ret
    exact ⟨_, _, HT.out _ _ _, rfl, rfl⟩
theorem spCan_any (p q l s : Nat) (a : Option Addr) (len cap : Nat) (zs : List Nat) (t : Int) (x y c d : Nat) (w : World) (hin : StIn w p l s a len cap t) (hsh : ShIn w q x y c d) (h : FSl w a len zs) (hm : len ≤ 1048576) :
    Calls Try.prog 59 #[.pointer (some ⟨p, 0, none⟩), .pointer (some ⟨q, 0, none⟩)] w (RetV (.bool (stB l s zs t && shB4 x y c d)) w) := by
  have HI := Lib.hid hin
  have HJ := Lib.hid hsh
  have H := Lib.hid h
  clear hin hsh h
  cases hs : stB l s zs t
  · have HS := Lib.hid hs
    clear hs
    go_enter Try.func59, Try.ntmps59
    go_wp2_with fail
    refine (spIs_any _ _ _ _ _ _ _ _ _ HI.out H.out hm).mono ?_
    rw [HS.out]
    rintro e w' ⟨m, rfl, rfl⟩
    go_wp2_with fail
    go_ret
    exact ⟨_, rfl, rfl⟩
  · have HS := Lib.hid hs
    clear hs
    go_enter Try.func59, Try.ntmps59
    go_wp2_with fail
    refine (spIs_any _ _ _ _ _ _ _ _ _ HI.out H.out hm).mono ?_
    rw [HS.out]
    rintro e w' ⟨m, rfl, rfl⟩
    go_wp2_with fail
    refine (spSh4_any _ _ _ _ _ _ (HJ.out.drewN _)).mono ?_
    rintro e w' ⟨rfl, rfl⟩
    go_wp2_with fail
    go_ret
    exact ⟨_, rfl, rfl⟩

set_option maxHeartbeats 1000000 in
theorem imGuess_any (l s : Nat) (a : Option Addr) (len cap : Nat) (zs : List Nat) (t : Int) (x y c d : Nat) (w : World) (h : FSl w a len zs) (hm : len ≤ 1048576) :
    Calls Try.prog 63 #[.agg #[.float .f32 l, .float .f32 s, .slice a len cap, .int .i64 t], .agg #[.float .f32 x, .float .f32 y, .float .f32 c, .float .f32 d]] w (RetNB (guR l s zs t x y c d) (guB l s zs t x y c d) w) := by
  have G1 := (Below.refl w.heap.size w).alloc (Nat.le_refl _) (.cells #[.float .f32 l, .float .f32 s, .slice a len cap, .int .i64 t] 29)
  have G := Lib.hid (G1.alloc (by simp) (.cells #[.float .f32 x, .float .f32 y, .float .f32 c, .float .f32 d] 33))
  have HI := Lib.hid ((StIn.new w l s a len cap t 29).alloc (.cells #[.float .f32 x, .float .f32 y, .float .f32 c, .float .f32 d] 33))
  have HJ := Lib.hid (show ShIn _ (w.heap.size + 1) x y c d from by simpa using ShIn.new (w.alloc (.cells #[.float .f32 l, .float .f32 s, .slice a len cap, .int .i64 t] 29)) x y c d 33)
  have H := Lib.hid (FSl.below h G.out)
  have hlen := Lib.hid h.1
  clear h G1
  cases hs : stB l s zs t
  · have HS := Lib.hid hs
    have HB := Lib.hid (gu_bad (a := x) (b := y) (c := c) (d := d) (show (stB l s zs t && shB4 x y c d) = false by rw [hs]; rfl))
    clear hs
    go_enter Try.func63, Try.ntmps63
    go_wp2_with fail
    refine (imVSt_any _ _ _ _ _ _ _ _ H.out hm).mono ?_
    rw [HS.out]
    rintro e w1 ⟨rfl, b1⟩
    have G2 := Lib.hid (G.out.trans (b1.mono G.out.size))
    clear b1
    go_wp2_with fail
    go_ret2
    exact ⟨0, by rw [HB.out.2]; exact cn_zero, by rw [HB.out.1]; rfl, G2.out⟩
  · cases hh : shB4 x y c d
    · have HS := Lib.hid hs
      have HH := Lib.hid hh
      have HB := Lib.hid (gu_bad (a := x) (b := y) (c := c) (d := d) (show (stB l s zs t && shB4 x y c d) = false by rw [hs, hh]; rfl))
      clear hs hh
      go_enter Try.func63, Try.ntmps63
      go_wp2_with fail
      refine (imVSt_any _ _ _ _ _ _ _ _ H.out hm).mono ?_
      rw [HS.out]
      rintro e w1 ⟨rfl, b1⟩
      have G2 := Lib.hid (G.out.trans (b1.mono G.out.size))
      obtain ⟨e0, e1, e2, e3⟩ := HJ.out.below b1
      clear b1
      go_wp2_with fail
      refine (imVSh_any _ _ _ _ _).mono ?_
      rw [HH.out]
      rintro e w2 ⟨rfl, b2⟩
      have G3 := Lib.hid (G2.out.trans (b2.mono G2.out.size))
      clear b2
      go_wp2_with fail
      go_ret2
      exact ⟨0, by rw [HB.out.2]; exact cn_zero, by rw [HB.out.1]; rfl, G3.out⟩
    · obtain ⟨-, -, -, t0, t1⟩ := stB_t hs
      obtain ⟨k, hk⟩ : ∃ k : Nat, t = k := ⟨t.toNat, by omega⟩
      rw [hlen.out] at t1
      have hkl : k < len := by omega
      have HS := Lib.hid hs
      have HH := Lib.hid hh
      subst hk
      clear hs hh t0 t1
      go_enter Try.func63, Try.ntmps63
      go_wp2_with fail
      refine (imVSt_any _ _ _ _ _ _ _ _ H.out hm).mono ?_
      rw [HS.out]
      rintro e w1 ⟨rfl, b1⟩
      have G2 := Lib.hid (G.out.trans (b1.mono G.out.size))
      have HJ1 := Lib.hid (HJ.out.below b1)
      have HI1 := Lib.hid (HI.out.below b1)
      have H1 := Lib.hid (FSl.below H.out b1)
      clear b1
      obtain ⟨e0, e1, e2, e3⟩ := HJ1.out
      go_wp2_with fail
      refine (imVSh_any _ _ _ _ _).mono ?_
      rw [HH.out]
      rintro e w2 ⟨rfl, b2⟩
      have G3 := Lib.hid (G2.out.trans (b2.mono G2.out.size))
      have H2 := Lib.hid (FSl.below H1.out b2)
      have HI2 := Lib.hid (HI1.out.below b2)
      have HJ2 := Lib.hid (HJ1.out.below b2)
      clear b2 e0 e1 e2 e3
      obtain ⟨e0, e1, e2, e3⟩ := HJ2.out
      obtain ⟨c0, c1, c2, c3⟩ := HI2.out
      go_wp2_with fail
      refine (at_any _ _ _ _ _ _ _ _ k _ H2.out hkl hm).mono ?_
      rintro e w3 ⟨r, hr, rfl, b3⟩
      have G4 := Lib.hid (G3.out.trans (b3.mono G3.out.size))
      have HR := Lib.hid (show cn .f32 r = guW l s zs k d from hr)
      clear hr b3 e0 e1 e2 e3 c0 c1 c2 c3
      go_wp2_with fail
      refine (implOnly_any _ _).mono ?_
      rintro e w' ⟨r', m3, hr', rfl, rfl⟩
      have HW := Lib.hid (gu_good HS.out HH.out HR.out hr')
      clear hr'
      go_wp2_with fail
      go_ret2
      exact ⟨r', HW.out.1, by rw [← HW.out.2]; rfl, below_drewN G4.out _⟩
end Go.Proofs.Ytgddfhmddkhaeaa
