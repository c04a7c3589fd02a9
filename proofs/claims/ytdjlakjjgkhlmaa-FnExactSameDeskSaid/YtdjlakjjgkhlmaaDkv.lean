/-
  ValidDesk, in both packages.
-/
import Derived.Test.YtdjlakjjgkhlmaaVst
import Derived.Test.YtdjlakjjgkhlmaaDsk
import Derived.Test.YtdjlakjjgkhlmaaCDat
namespace Go.Proofs.Ytdjlakjjgkhlmaa
open Ieee Go.RowKit
set_option linter.unusedVariables false
/-- A state at offset 1, shares at offset 5 of a block. -/
def St1 (w : World) (p l s : Nat) (a : Option Addr) (len cap : Nat) (t : Int) : Prop := w.cell? ⟨p, 1, none⟩ = some (.float .f32 l) ∧ w.cell? ⟨p, 2, none⟩ = some (.float .f32 s) ∧ w.cell? ⟨p, 3, none⟩ = some (.slice a len cap) ∧ w.cell? ⟨p, 4, none⟩ = some (.int .i64 t)
def Sh5 (w : World) (p a b c d : Nat) : Prop := w.cell? ⟨p, 5, none⟩ = some (.float .f32 a) ∧ w.cell? ⟨p, 6, none⟩ = some (.float .f32 b) ∧ w.cell? ⟨p, 7, none⟩ = some (.float .f32 c) ∧ w.cell? ⟨p, 8, none⟩ = some (.float .f32 d)
/-- A desk is valid. -/
def dkB (z0 : List Nat) (l s : Nat) (zs : List Nat) (t : Int) (b0 b1 b2 b3 : Nat) (y : Int) : Bool := serB z0 && (stB l s zs t && (shB4 b0 b1 b2 b3 && dayB y))
set_option maxHeartbeats 1000000 in
theorem spIs1_any (p l s : Nat) (a : Option Addr) (len cap : Nat) (zs : List Nat) (t : Int) (w : World) (hin : St1 w p l s a len cap t) (h : FSl w a len zs) (hm : len ≤ 1048576) :
    Calls Try.prog 114 #[.pointer (some ⟨p, 1, none⟩)] w (RetV (.bool (stB l s zs t)) w) := by
  obtain ⟨c0, c1, c2, c3⟩ := hin
  have H := Lib.hid h
  have hlen := h.1
  clear h
  cases hl : fin .f32 l
  · have HL := Lib.hid hl
    have HB := Lib.hid (stB_1 (l := l) (s := s) (t := t) (zs := zs) hl)
    clear hl
    go_enter Try.func114, Try.ntmps114
    go_wp2_with fail
    refine (l01Finite_any _ _).mono ?_
    rw [HL.out]
    rintro e w' ⟨m1, rfl, rfl⟩
    go_wp2_with fail
    go_ret
    exact ⟨_, by rw [HB.out]; rfl, rfl⟩
  · have HL := Lib.hid hl
    clear hl
    cases hs : fin .f32 s
    · have HT := Lib.hid hs
      have HB := Lib.hid (stB_2 (l := l) (s := s) (t := t) (zs := zs) hs)
      clear hs
      go_enter Try.func114, Try.ntmps114
      go_wp2_with fail
      refine (l01Finite_any _ _).mono ?_
      rw [HL.out]
      rintro e w' ⟨m1, rfl, rfl⟩
      go_wp2_with fail
      refine (l01Finite_any _ _).mono ?_
      rw [HT.out]
      rintro e w' ⟨m2, rfl, rfl⟩
      go_wp2_with fail
      go_ret
      exact ⟨_, by rw [HB.out]; rfl, rfl⟩
    · have HT := Lib.hid hs
      clear hs
      by_cases h24 : 1 ≤ len ∧ len ≤ 24
      · cases hz : fins zs
        · have HS := Lib.hid hz
          have HB := Lib.hid (stB_0 (l := l) (s := s) (t := t) (zs := zs) (by rw [seB_short (by omega)]; exact hz))
          clear hz
          go_enter Try.func114, Try.ntmps114
          go_wp2_with fail
          refine (l01Finite_any _ _).mono ?_
          rw [HL.out]
          rintro e w' ⟨m1, rfl, rfl⟩
          go_wp2_with fail
          refine (l01Finite_any _ _).mono ?_
          rw [HT.out]
          rintro e w' ⟨m2, rfl, rfl⟩
          go_wp2_with fail
          refine (in_yes _ _ _ _ (by omega) (by omega)).mono ?_
          rintro e w' ⟨rfl, rfl⟩
          go_wp2_with fail
          refine (specFinite_any _ _ _ _ _ (FSl.drewN H.out _) hm).mono ?_
          rw [HS.out]
          rintro e w' ⟨m3, rfl, rfl⟩
          go_wp2_with fail
          go_ret
          exact ⟨_, by rw [HB.out]; rfl, rfl⟩
        · have HS := Lib.hid hz
          have hq := Lib.hid (show seB zs = true by rw [seB_short (by omega)]; exact hz)
          clear hz
          have hw : IntKind.i64.wrap ((len : Int) - 1) = (len : Int) - 1 := by rw [IntKind.wrap_i64]; omega
          by_cases h0 : 0 ≤ t ∧ t < (len : Int)
          · have HB := Lib.hid (stB_4 hq.out HL.out HT.out h0.1 (by omega))
            go_enter Try.func114, Try.ntmps114
            go_wp2_with fail
            refine (l01Finite_any _ _).mono ?_
            rw [HL.out]
            rintro e w' ⟨m1, rfl, rfl⟩
            go_wp2_with fail
            refine (l01Finite_any _ _).mono ?_
            rw [HT.out]
            rintro e w' ⟨m2, rfl, rfl⟩
            go_wp2_with fail
            refine (in_yes _ _ _ _ (by omega) (by omega)).mono ?_
            rintro e w' ⟨rfl, rfl⟩
            go_wp2_with fail
            refine (specFinite_any _ _ _ _ _ (FSl.drewN H.out _) hm).mono ?_
            rw [HS.out]
            rintro e w' ⟨m3, rfl, rfl⟩
            go_wp2_with fail
            refine (in_yes _ _ _ _ (by omega) (by omega)).mono ?_
            rintro e w' ⟨rfl, rfl⟩
            go_wp2_with fail
            go_ret
            exact ⟨_, by rw [HB.out]; rfl, rfl⟩
          · have HB := Lib.hid (stB_3 (l := l) (s := s) (t := t) (zs := zs) (by omega))
            go_enter Try.func114, Try.ntmps114
            go_wp2_with fail
            refine (l01Finite_any _ _).mono ?_
            rw [HL.out]
            rintro e w' ⟨m1, rfl, rfl⟩
            go_wp2_with fail
            refine (l01Finite_any _ _).mono ?_
            rw [HT.out]
            rintro e w' ⟨m2, rfl, rfl⟩
            go_wp2_with fail
            refine (in_yes _ _ _ _ (by omega) (by omega)).mono ?_
            rintro e w' ⟨rfl, rfl⟩
            go_wp2_with fail
            refine (specFinite_any _ _ _ _ _ (FSl.drewN H.out _) hm).mono ?_
            rw [HS.out]
            rintro e w' ⟨m3, rfl, rfl⟩
            go_wp2_with fail
            refine (in_no _ _ _ _ (by omega)).mono ?_
            rintro e w' ⟨rfl, rfl⟩
            go_wp2_with fail
            go_ret
            exact ⟨_, by rw [HB.out]; rfl, rfl⟩
      · have HB := Lib.hid (stB_0 (l := l) (s := s) (t := t) (seB_out (zs := zs) (by omega)))
        go_enter Try.func114, Try.ntmps114
        go_wp2_with fail
        refine (l01Finite_any _ _).mono ?_
        rw [HL.out]
        rintro e w' ⟨m1, rfl, rfl⟩
        go_wp2_with fail
        refine (l01Finite_any _ _).mono ?_
        rw [HT.out]
        rintro e w' ⟨m2, rfl, rfl⟩
        go_wp2_with fail
        refine (in_no _ _ _ _ (by omega)).mono ?_
        rintro e w' ⟨rfl, rfl⟩
        go_wp2_with fail
        go_ret
        exact ⟨_, by rw [HB.out]; rfl, rfl⟩
theorem spSh5_any (p a b c d : Nat) (w : World) (h : Sh5 w p a b c d) : Calls Try.prog 115 #[.pointer (some ⟨p, 5, none⟩)] w fun e w' => e = .returned (.bool (shB4 a b c d)) ∧ w = w' := by
  obtain ⟨c0, c1, c2, c3⟩ := h
  cases ha : shB a
  · have Ha := Lib.hid ha
    clear ha
    go_enter Try.func115, Try.ntmps115
    go_wp2_with fail
    refine (spSh_any _ _).mono ?_
    rw [Ha.out]
    rintro e w' ⟨rfl, rfl⟩
    go_wp2
    go_ret
    exact ⟨by unfold shB4; rw [Ha.out]; rfl, rfl⟩
  · cases hb : shB b
    · have Ha := Lib.hid ha
      have Hb := Lib.hid hb
      clear ha hb
      go_enter Try.func115, Try.ntmps115
      go_wp2_with fail
      refine (spSh_any _ _).mono ?_
      rw [Ha.out]
      rintro e w' ⟨rfl, rfl⟩
      go_wp2_with fail
      refine (spSh_any _ _).mono ?_
      rw [Hb.out]
      rintro e w' ⟨rfl, rfl⟩
      go_wp2
      go_ret
      exact ⟨by unfold shB4; rw [Ha.out, Hb.out]; rfl, rfl⟩
    · cases hc : shB c
      · have Ha := Lib.hid ha
        have Hb := Lib.hid hb
        have Hc := Lib.hid hc
        clear ha hb hc
        go_enter Try.func115, Try.ntmps115
        go_wp2_with fail
        refine (spSh_any _ _).mono ?_
        rw [Ha.out]
        rintro e w' ⟨rfl, rfl⟩
        go_wp2_with fail
        refine (spSh_any _ _).mono ?_
        rw [Hb.out]
        rintro e w' ⟨rfl, rfl⟩
        go_wp2_with fail
        refine (spSh_any _ _).mono ?_
        rw [Hc.out]
        rintro e w' ⟨rfl, rfl⟩
        go_wp2
        go_ret
        exact ⟨by unfold shB4; rw [Ha.out, Hb.out, Hc.out]; rfl, rfl⟩
      · cases hd : shB d
        · have Ha := Lib.hid ha
          have Hb := Lib.hid hb
          have Hc := Lib.hid hc
          have Hd := Lib.hid hd
          clear ha hb hc hd
          go_enter Try.func115, Try.ntmps115
          go_wp2_with fail
          refine (spSh_any _ _).mono ?_
          rw [Ha.out]
          rintro e w' ⟨rfl, rfl⟩
          go_wp2_with fail
          refine (spSh_any _ _).mono ?_
          rw [Hb.out]
          rintro e w' ⟨rfl, rfl⟩
          go_wp2_with fail
          refine (spSh_any _ _).mono ?_
          rw [Hc.out]
          rintro e w' ⟨rfl, rfl⟩
          go_wp2_with fail
          refine (spSh_any _ _).mono ?_
          rw [Hd.out]
          rintro e w' ⟨rfl, rfl⟩
          go_wp2
          go_ret
          exact ⟨by unfold shB4; rw [Ha.out, Hb.out, Hc.out, Hd.out]; rfl, rfl⟩
        · have Ha := Lib.hid ha
          have Hb := Lib.hid hb
          have Hc := Lib.hid hc
          have Hd := Lib.hid hd
          clear ha hb hc hd
          go_enter Try.func115, Try.ntmps115
          go_wp2_with fail
          refine (spSh_any _ _).mono ?_
          rw [Ha.out]
          rintro e w' ⟨rfl, rfl⟩
          go_wp2_with fail
          refine (spSh_any _ _).mono ?_
          rw [Hb.out]
          rintro e w' ⟨rfl, rfl⟩
          go_wp2_with fail
          refine (spSh_any _ _).mono ?_
          rw [Hc.out]
          rintro e w' ⟨rfl, rfl⟩
          go_wp2_with fail
          refine (spSh_any _ _).mono ?_
          rw [Hd.out]
          rintro e w' ⟨rfl, rfl⟩
          go_wp2
          go_ret
          exact ⟨by unfold shB4; rw [Ha.out, Hb.out, Hc.out, Hd.out]; rfl, rfl⟩
set_option maxHeartbeats 1000000 in
theorem imVDk_any (a0 : Option Addr) (len0 cap0 : Nat) (z0 : List Nat) (l s : Nat) (a : Option Addr) (len cap : Nat) (zs : List Nat) (t : Int) (b0 b1 b2 b3 : Nat) (y : Int) (w : World) (h0 : FSl w a0 len0 z0) (h : FSl w a len zs) (hm0 : len0 ≤ 1048576) (hm : len ≤ 1048576) :
    Calls Try.prog 18 #[.agg #[.slice a0 len0 cap0, .float .f32 l, .float .f32 s, .slice a len cap, .int .i64 t, .float .f32 b0, .float .f32 b1, .float .f32 b2, .float .f32 b3, .int .i64 y]] w fun e w' => e = .returned (.bool (dkB z0 l s zs t b0 b1 b2 b3 y)) ∧ Below w.heap.size w w' := by
  have G := Lib.hid ((Below.refl w.heap.size w).alloc (Nat.le_refl _) (.cells #[.slice a0 len0 cap0, .float .f32 l, .float .f32 s, .slice a len cap, .int .i64 t, .float .f32 b0, .float .f32 b1, .float .f32 b2, .float .f32 b3, .int .i64 y] 35))
  have C := Lib.hid (CIs.newAt w [.slice a0 len0 cap0, .float .f32 l, .float .f32 s, .slice a len cap, .int .i64 t, .float .f32 b0, .float .f32 b1, .float .f32 b2, .float .f32 b3, .int .i64 y] 35 rfl)
  have H0 := Lib.hid (FSl.below h0 G.out)
  have H := Lib.hid (FSl.below h G.out)
  clear h0 h
  have HU := Lib.hid (show dkB z0 l s zs t b0 b1 b2 b3 y = (serB z0 && (stB l s zs t && (shB4 b0 b1 b2 b3 && dayB y))) from rfl)
  cases h0 : serB z0
  · have E0 := Lib.hid h0
    have HB := Lib.hid (show dkB z0 l s zs t b0 b1 b2 b3 y = false by rw [HU.out, h0]; simp)
    clear h0 HU
    go_enter Try.func18, Try.ntmps18
    go_wp2_with fail
    refine (implSeries_any _ _ _ _ _ H0.out hm0).mono ?_
    rw [E0.out]
    rintro e u1 ⟨m1, rfl, rfl⟩
    go_wp2_with fail
    go_ret
    exact ⟨by rw [HB.out]; try rfl, below_drewN G.out m1⟩
  · have E0 := Lib.hid h0
    clear h0
    cases h1 : stB l s zs t
    · have E1 := Lib.hid h1
      have HB := Lib.hid (show dkB z0 l s zs t b0 b1 b2 b3 y = false by rw [HU.out, h1, E0.out]; simp)
      clear h1 HU
      go_enter Try.func18, Try.ntmps18
      go_wp2_with fail
      refine (implSeries_any _ _ _ _ _ H0.out hm0).mono ?_
      rw [E0.out]
      rintro e u1 ⟨m1, rfl, rfl⟩
      go_wp2_with fail
      refine (imVSt_any _ _ _ _ _ _ _ _ (FSl.drewN H.out m1) hm).mono ?_
      rw [E1.out]
      rintro e u2 ⟨rfl, bb⟩
      have C2 := Lib.hid ((C.out.drewN m1).below bb)
      have G2 := Lib.hid ((below_drewN G.out m1).trans (bb.mono (below_drewN G.out m1).size))
      clear bb
      obtain ⟨k0, k1, k2, k3, k4, k5, k6, k7, k8, k9⟩ := C2.out.c10
      go_wp2_with fail
      go_ret
      exact ⟨by rw [HB.out]; try rfl, G2.out⟩
    · have E1 := Lib.hid h1
      clear h1
      cases h2 : shB4 b0 b1 b2 b3
      · have E2 := Lib.hid h2
        have HB := Lib.hid (show dkB z0 l s zs t b0 b1 b2 b3 y = false by rw [HU.out, h2, E0.out, E1.out]; simp)
        clear h2 HU
        go_enter Try.func18, Try.ntmps18
        go_wp2_with fail
        refine (implSeries_any _ _ _ _ _ H0.out hm0).mono ?_
        rw [E0.out]
        rintro e u1 ⟨m1, rfl, rfl⟩
        go_wp2_with fail
        refine (imVSt_any _ _ _ _ _ _ _ _ (FSl.drewN H.out m1) hm).mono ?_
        rw [E1.out]
        rintro e u2 ⟨rfl, bb⟩
        have C2 := Lib.hid ((C.out.drewN m1).below bb)
        have G2 := Lib.hid ((below_drewN G.out m1).trans (bb.mono (below_drewN G.out m1).size))
        clear bb
        obtain ⟨k0, k1, k2, k3, k4, k5, k6, k7, k8, k9⟩ := C2.out.c10
        go_wp2_with fail
        refine (imVSh_any _ _ _ _ _).mono ?_
        rw [E2.out]
        rintro e u3 ⟨rfl, bc⟩
        have C3 := Lib.hid (C2.out.below bc)
        have G3 := Lib.hid (G2.out.trans (bc.mono G2.out.size))
        clear bc k0 k1 k2 k3 k4 k5 k6 k7 k8 k9
        obtain ⟨k0, k1, k2, k3, k4, k5, k6, k7, k8, k9⟩ := C3.out.c10
        go_wp2_with fail
        go_ret
        exact ⟨by rw [HB.out]; try rfl, G3.out⟩
      · have E2 := Lib.hid h2
        clear h2
        have HB := Lib.hid (show dkB z0 l s zs t b0 b1 b2 b3 y = dayB y by rw [HU.out, E0.out, E1.out, E2.out]; rfl)
        clear HU
        go_enter Try.func18, Try.ntmps18
        go_wp2_with fail
        refine (implSeries_any _ _ _ _ _ H0.out hm0).mono ?_
        rw [E0.out]
        rintro e u1 ⟨m1, rfl, rfl⟩
        go_wp2_with fail
        refine (imVSt_any _ _ _ _ _ _ _ _ (FSl.drewN H.out m1) hm).mono ?_
        rw [E1.out]
        rintro e u2 ⟨rfl, bb⟩
        have C2 := Lib.hid ((C.out.drewN m1).below bb)
        have G2 := Lib.hid ((below_drewN G.out m1).trans (bb.mono (below_drewN G.out m1).size))
        clear bb
        obtain ⟨k0, k1, k2, k3, k4, k5, k6, k7, k8, k9⟩ := C2.out.c10
        go_wp2_with fail
        refine (imVSh_any _ _ _ _ _).mono ?_
        rw [E2.out]
        rintro e u3 ⟨rfl, bc⟩
        have C3 := Lib.hid (C2.out.below bc)
        have G3 := Lib.hid (G2.out.trans (bc.mono G2.out.size))
        clear bc k0 k1 k2 k3 k4 k5 k6 k7 k8 k9
        obtain ⟨k0, k1, k2, k3, k4, k5, k6, k7, k8, k9⟩ := C3.out.c10
        go_wp2_with fail
        refine (implIsDay_any _ _).mono ?_
        rintro e u4 ⟨rfl, rfl⟩
        go_wp2_with fail
        go_ret
        exact ⟨by rw [HB.out]; try rfl, G3.out⟩
set_option maxHeartbeats 1000000 in
theorem spDkIs_any (p : Nat) (a0 : Option Addr) (len0 cap0 : Nat) (z0 : List Nat) (l s : Nat) (a : Option Addr) (len cap : Nat) (zs : List Nat) (t : Int) (b0 b1 b2 b3 : Nat) (y : Int) (w : World) (h0 : FSl w a0 len0 z0) (h : FSl w a len zs) (hm0 : len0 ≤ 1048576) (hm : len ≤ 1048576) (hd : CIs w p [.slice a0 len0 cap0, .float .f32 l, .float .f32 s, .slice a len cap, .int .i64 t, .float .f32 b0, .float .f32 b1, .float .f32 b2, .float .f32 b3, .int .i64 y]) :
    Calls Try.prog 70 #[.pointer (some ⟨p, 0, none⟩)] w (RetV (.bool (dkB z0 l s zs t b0 b1 b2 b3 y)) w) := by
  have C := Lib.hid hd
  have H0 := Lib.hid h0
  have H := Lib.hid h
  clear h0 h hd
  have HU := Lib.hid (show dkB z0 l s zs t b0 b1 b2 b3 y = (serB z0 && (stB l s zs t && (shB4 b0 b1 b2 b3 && dayB y))) from rfl)
  cases h0 : serB z0
  · have E0 := Lib.hid h0
    have HB := Lib.hid (show dkB z0 l s zs t b0 b1 b2 b3 y = false by rw [HU.out, h0]; simp)
    clear h0 HU
    obtain ⟨k0, k1, k2, k3, k4, k5, k6, k7, k8, k9⟩ := C.out.c10
    have HS1 := Lib.hid (show St1 w p l s a len cap t from ⟨k1, k2, k3, k4⟩)
    have HS5 := Lib.hid (show Sh5 w p b0 b1 b2 b3 from ⟨k5, k6, k7, k8⟩)
    go_enter Try.func70, Try.ntmps70
    go_wp2_with fail
    refine (specSeries_any _ _ _ _ _ H0.out hm0).mono ?_
    rw [E0.out]
    rintro e u1 ⟨m1, rfl, rfl⟩
    go_wp2_with fail
    go_ret
    exact ⟨_, by rw [HB.out]; try rfl, rfl⟩
  · have E0 := Lib.hid h0
    clear h0
    cases h1 : stB l s zs t
    · have E1 := Lib.hid h1
      have HB := Lib.hid (show dkB z0 l s zs t b0 b1 b2 b3 y = false by rw [HU.out, h1, E0.out]; simp)
      clear h1 HU
      obtain ⟨k0, k1, k2, k3, k4, k5, k6, k7, k8, k9⟩ := C.out.c10
      have HS1 := Lib.hid (show St1 w p l s a len cap t from ⟨k1, k2, k3, k4⟩)
      have HS5 := Lib.hid (show Sh5 w p b0 b1 b2 b3 from ⟨k5, k6, k7, k8⟩)
      go_enter Try.func70, Try.ntmps70
      go_wp2_with fail
      refine (specSeries_any _ _ _ _ _ H0.out hm0).mono ?_
      rw [E0.out]
      rintro e u1 ⟨m1, rfl, rfl⟩
      go_wp2_with fail
      refine (spIs1_any _ _ _ _ _ _ _ _ _ (show St1 (w.drewN m1) p l s a len cap t from HS1.out) (FSl.drewN H.out m1) hm).mono ?_
      rw [E1.out]
      rintro e u2 ⟨m2, rfl, rfl⟩
      go_wp2_with fail
      go_ret
      exact ⟨_, by rw [HB.out]; try rfl, rfl⟩
    · have E1 := Lib.hid h1
      clear h1
      cases h2 : shB4 b0 b1 b2 b3
      · have E2 := Lib.hid h2
        have HB := Lib.hid (show dkB z0 l s zs t b0 b1 b2 b3 y = false by rw [HU.out, h2, E0.out, E1.out]; simp)
        clear h2 HU
        obtain ⟨k0, k1, k2, k3, k4, k5, k6, k7, k8, k9⟩ := C.out.c10
        have HS1 := Lib.hid (show St1 w p l s a len cap t from ⟨k1, k2, k3, k4⟩)
        have HS5 := Lib.hid (show Sh5 w p b0 b1 b2 b3 from ⟨k5, k6, k7, k8⟩)
        go_enter Try.func70, Try.ntmps70
        go_wp2_with fail
        refine (specSeries_any _ _ _ _ _ H0.out hm0).mono ?_
        rw [E0.out]
        rintro e u1 ⟨m1, rfl, rfl⟩
        go_wp2_with fail
        refine (spIs1_any _ _ _ _ _ _ _ _ _ (show St1 (w.drewN m1) p l s a len cap t from HS1.out) (FSl.drewN H.out m1) hm).mono ?_
        rw [E1.out]
        rintro e u2 ⟨m2, rfl, rfl⟩
        go_wp2_with fail
        refine (spSh5_any _ _ _ _ _ _ (show Sh5 (w.drewN (m1 + m2)) p b0 b1 b2 b3 from HS5.out)).mono ?_
        rw [E2.out]
        rintro e u3 ⟨rfl, rfl⟩
        go_wp2_with fail
        go_ret
        exact ⟨_, by rw [HB.out]; try rfl, rfl⟩
      · have E2 := Lib.hid h2
        clear h2
        have HB := Lib.hid (show dkB z0 l s zs t b0 b1 b2 b3 y = dayB y by rw [HU.out, E0.out, E1.out, E2.out]; rfl)
        clear HU
        obtain ⟨k0, k1, k2, k3, k4, k5, k6, k7, k8, k9⟩ := C.out.c10
        have HS1 := Lib.hid (show St1 w p l s a len cap t from ⟨k1, k2, k3, k4⟩)
        have HS5 := Lib.hid (show Sh5 w p b0 b1 b2 b3 from ⟨k5, k6, k7, k8⟩)
        go_enter Try.func70, Try.ntmps70
        go_wp2_with fail
        refine (specSeries_any _ _ _ _ _ H0.out hm0).mono ?_
        rw [E0.out]
        rintro e u1 ⟨m1, rfl, rfl⟩
        go_wp2_with fail
        refine (spIs1_any _ _ _ _ _ _ _ _ _ (show St1 (w.drewN m1) p l s a len cap t from HS1.out) (FSl.drewN H.out m1) hm).mono ?_
        rw [E1.out]
        rintro e u2 ⟨m2, rfl, rfl⟩
        go_wp2_with fail
        refine (spSh5_any _ _ _ _ _ _ (show Sh5 (w.drewN (m1 + m2)) p b0 b1 b2 b3 from HS5.out)).mono ?_
        rw [E2.out]
        rintro e u3 ⟨rfl, rfl⟩
        go_wp2_with fail
        refine (specIsDay_any _ _).mono ?_
        rintro e u4 ⟨rfl, rfl⟩
        go_wp2_with fail
        go_ret
        exact ⟨_, by rw [HB.out]; try rfl, rfl⟩
theorem spVDk_any (a0 : Option Addr) (len0 cap0 : Nat) (z0 : List Nat) (l s : Nat) (a : Option Addr) (len cap : Nat) (zs : List Nat) (t : Int) (b0 b1 b2 b3 : Nat) (y : Int) (w : World) (h0 : FSl w a0 len0 z0) (h : FSl w a len zs) (hm0 : len0 ≤ 1048576) (hm : len ≤ 1048576) :
    Calls Try.prog 16 #[.agg #[.slice a0 len0 cap0, .float .f32 l, .float .f32 s, .slice a len cap, .int .i64 t, .float .f32 b0, .float .f32 b1, .float .f32 b2, .float .f32 b3, .int .i64 y]] w fun e w' => e = .returned (.bool (dkB z0 l s zs t b0 b1 b2 b3 y)) ∧ Below w.heap.size w w' := by
  have G := Lib.hid ((Below.refl w.heap.size w).alloc (Nat.le_refl _) (.cells #[.slice a0 len0 cap0, .float .f32 l, .float .f32 s, .slice a len cap, .int .i64 t, .float .f32 b0, .float .f32 b1, .float .f32 b2, .float .f32 b3, .int .i64 y] 35))
  have C := Lib.hid (CIs.newAt w [.slice a0 len0 cap0, .float .f32 l, .float .f32 s, .slice a len cap, .int .i64 t, .float .f32 b0, .float .f32 b1, .float .f32 b2, .float .f32 b3, .int .i64 y] 35 rfl)
  have H0 := Lib.hid (FSl.below h0 G.out)
  have H := Lib.hid (FSl.below h G.out)
  clear h0 h
  go_enter Try.func16, Try.ntmps16
  go_wp2_with fail
  refine (spDkIs_any _ _ _ _ _ _ _ _ _ _ _ _ _ _ _ _ _ _ H0.out H.out hm0 hm C.out).mono ?_
  rintro e w' ⟨m, rfl, rfl⟩
  go_wp2
  go_ret
  exact ⟨rfl, below_drewN G.out _⟩
end Go.Proofs.Ytdjlakjjgkhlmaa
