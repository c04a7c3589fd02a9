/-
  TrendStep: spec.
-/
import Derived.Test.YthohhiaeaefdcaaTns
import Derived.Deep.DeepCutAuto
import Derived.Deep.QuietTactic
import Derived.BigQuiet
import Derived.Deep.RegionHeld3
import Derived.Test.YthohhiaeaefdcaaDrg
namespace Go.Proofs.Ythohhiaeaefdcaa
open Ieee Go.RowKit
set_option linter.unusedVariables false
/-- The parameter and the result stand in their blocks. -/
def TsV (w : World) (a b c d s t u v : Nat) (wx : World) : Prop := NumsIn wx w.heap.size [a, b, c, d, s, t, u, v] ∧ NumsIn wx (w.heap.size + 1) [0, 0, 0, 0, 0, 0, 0, 0] ∧ Below w.heap.size w wx
def TsW (w : World) (a b c d s t u v L S A B C k : Nat) (wx : World) : Prop := TsV w a b c d s t u v wx ∧ NumsIn wx k [L, S, A, B, C, t, u, v]
section
variable {w wx : World} {a b c d s t u v L S A B C k : Nat}
theorem TsV.drewN (h : TsV w a b c d s t u v wx) (n : Nat) : TsV w a b c d s t u v (wx.drewN n) := ⟨h.1.drewN n, h.2.1.drewN n, below_drewN h.2.2 n⟩
theorem TsV.lt (h : TsV w a b c d s t u v wx) : w.heap.size + 1 < wx.heap.size := h.2.1.lt
theorem TsV.new (h : TsV w a b c d s t u v wx) (L S A B C : Nat) (T : TypeId) : TsW w a b c d s t u v L S A B C wx.heap.size (wx.alloc (.cells #[.float .f32 L, .float .f32 S, .float .f32 A, .float .f32 B, .float .f32 C, .float .f32 t, .float .f32 u, .float .f32 v] T)) := ⟨⟨h.1.alloc _, h.2.1.alloc _, h.2.2.alloc (by have := h.2.1.lt; omega) _⟩, NumsIn.new wx [L, S, A, B, C, t, u, v] T⟩
theorem TsW.drewN (h : TsW w a b c d s t u v L S A B C k wx) (n : Nat) : TsW w a b c d s t u v L S A B C k (wx.drewN n) := ⟨h.1.drewN n, h.2.drewN n⟩
theorem TsW.below {wy : World} (h : TsW w a b c d s t u v L S A B C k wx) (hb : Below wx.heap.size wx wy) : TsW w a b c d s t u v L S A B C k wy := ⟨⟨h.1.1.below hb, h.1.2.1.below hb, h.1.2.2.trans (hb.mono h.1.2.2.size)⟩, h.2.below hb⟩
theorem TsW.put0 (h : TsW w a b c d s t u v L S A B C k wx) (hk : w.heap.size + 1 < k) (q : Nat) : TsW w a b c d s t u v q S A B C k (wx.setCell ⟨k, 0, none⟩ (.float .f32 q)) := ⟨⟨h.1.1.set (by omega), h.1.2.1.set (by omega), h.1.2.2.setCell (by show w.heap.size ≤ k; omega) _⟩, h.2.put (i := 0) (by simp) q⟩
theorem TsW.put1 (h : TsW w a b c d s t u v L S A B C k wx) (hk : w.heap.size + 1 < k) (q : Nat) : TsW w a b c d s t u v L q A B C k (wx.setCell ⟨k, 1, none⟩ (.float .f32 q)) := ⟨⟨h.1.1.set (by omega), h.1.2.1.set (by omega), h.1.2.2.setCell (by show w.heap.size ≤ k; omega) _⟩, h.2.put (i := 1) (by simp) q⟩
theorem TsW.put2 (h : TsW w a b c d s t u v L S A B C k wx) (hk : w.heap.size + 1 < k) (q : Nat) : TsW w a b c d s t u v L S q B C k (wx.setCell ⟨k, 2, none⟩ (.float .f32 q)) := ⟨⟨h.1.1.set (by omega), h.1.2.1.set (by omega), h.1.2.2.setCell (by show w.heap.size ≤ k; omega) _⟩, h.2.put (i := 2) (by simp) q⟩
theorem TsW.put3 (h : TsW w a b c d s t u v L S A B C k wx) (hk : w.heap.size + 1 < k) (q : Nat) : TsW w a b c d s t u v L S A q C k (wx.setCell ⟨k, 3, none⟩ (.float .f32 q)) := ⟨⟨h.1.1.set (by omega), h.1.2.1.set (by omega), h.1.2.2.setCell (by show w.heap.size ≤ k; omega) _⟩, h.2.put (i := 3) (by simp) q⟩
theorem TsW.put4 (h : TsW w a b c d s t u v L S A B C k wx) (hk : w.heap.size + 1 < k) (q : Nat) : TsW w a b c d s t u v L S A B q k (wx.setCell ⟨k, 4, none⟩ (.float .f32 q)) := ⟨⟨h.1.1.set (by omega), h.1.2.1.set (by omega), h.1.2.2.setCell (by show w.heap.size ≤ k; omega) _⟩, h.2.put (i := 4) (by simp) q⟩
theorem TsW.put5 (h : TsW w a b c d s t u v L S A B C k wx) (hk : w.heap.size + 1 < k) : TsW w a b c d s t u v L S A B C k (wx.setCell ⟨k, 5, none⟩ (.float .f32 t)) := ⟨⟨h.1.1.set (by omega), h.1.2.1.set (by omega), h.1.2.2.setCell (by show w.heap.size ≤ k; omega) _⟩, h.2.put (i := 5) (by simp) t⟩
theorem TsW.put6 (h : TsW w a b c d s t u v L S A B C k wx) (hk : w.heap.size + 1 < k) : TsW w a b c d s t u v L S A B C k (wx.setCell ⟨k, 6, none⟩ (.float .f32 u)) := ⟨⟨h.1.1.set (by omega), h.1.2.1.set (by omega), h.1.2.2.setCell (by show w.heap.size ≤ k; omega) _⟩, h.2.put (i := 6) (by simp) u⟩
theorem TsW.put7 (h : TsW w a b c d s t u v L S A B C k wx) (hk : w.heap.size + 1 < k) : TsW w a b c d s t u v L S A B C k (wx.setCell ⟨k, 7, none⟩ (.float .f32 v)) := ⟨⟨h.1.1.set (by omega), h.1.2.1.set (by omega), h.1.2.2.setCell (by show w.heap.size ≤ k; omega) _⟩, h.2.put (i := 7) (by simp) v⟩
end
theorem ts_e {a b : Nat} (w : World) : cn .f32 (fopR .add .f32 a b w) = tsE a b := by rw [cn_fopR]; rfl
theorem ts_a {c d s u : Nat} (w1 w2 w3 w4 : World) : cn .f32 (fopR .add .f32 (fopR .add .f32 (fopR .add .f32 c d w1) (fopR .add .f32 d s w2) w3) u w4) = tsA c d s u := by rw [cn_fopR, cn_fopR, cn_fopR, cn_fopR]; rfl
theorem ts_b {d s : Nat} (w : World) : cn .f32 (fopR .add .f32 d s w) = tsB d s := by rw [cn_fopR]; rfl
theorem ts_c {s v : Nat} (w : World) : cn .f32 (fopR .add .f32 s v w) = tsC s v := by rw [cn_fopR]; rfl
theorem ts_op (op : BinOp) {x y X Y : Nat} (hx : cn .f32 x = X) (hy : cn .f32 y = Y) (w : World) : cn .f32 (fopR op .f32 x y w) = aop op .f32 X Y := by rw [cn_fopR, hx, hy]
theorem ts_mul (op : BinOp) {x y z X Y Z : Nat} (hx : cn .f32 x = X) (hy : cn .f32 y = Y) (hz : cn .f32 z = Z) (w1 w2 : World) : cn .f32 (fopR op .f32 x (fopR .mul .f32 y z w1) w2) = aop op .f32 X (aop .mul .f32 Y Z) := by rw [cn_fopR, cn_fopR, hx, hy, hz]
set_option maxHeartbeats 4000000 in
set_option maxRecDepth 100000 in
theorem spTns_any (a b c d s t u v x : Nat) (z : Bool) (w : World) :
    Calls Try.prog 29 #[.agg #[.float .f32 a, .float .f32 b, .float .f32 c, .float .f32 d, .float .f32 s, .float .f32 t, .float .f32 u, .float .f32 v], .float .f32 x, .bool z] w (tsR z a b c d s t u v x w) := by
  have HRES := Lib.hid (show Try.f29.results = #[.cell 6 39, .tmp 7, .tmp 8] by kernel_rfl)
  have HI := Lib.hid (show NumsIn ((w.alloc (.cells #[.float .f32 a, .float .f32 b, .float .f32 c, .float .f32 d, .float .f32 s, .float .f32 t, .float .f32 u, .float .f32 v] 39)).alloc (.cells #[.float .f32 0, .float .f32 0, .float .f32 0, .float .f32 0, .float .f32 0, .float .f32 0, .float .f32 0, .float .f32 0] 39)) w.heap.size [a, b, c, d, s, t, u, v] from (NumsIn.new w [a, b, c, d, s, t, u, v] 39).alloc (.cells #[.float .f32 0, .float .f32 0, .float .f32 0, .float .f32 0, .float .f32 0, .float .f32 0, .float .f32 0, .float .f32 0] 39))
  have HR := Lib.hid (show NumsIn ((w.alloc (.cells #[.float .f32 a, .float .f32 b, .float .f32 c, .float .f32 d, .float .f32 s, .float .f32 t, .float .f32 u, .float .f32 v] 39)).alloc (.cells #[.float .f32 0, .float .f32 0, .float .f32 0, .float .f32 0, .float .f32 0, .float .f32 0, .float .f32 0, .float .f32 0] 39)) (w.heap.size + 1) [0, 0, 0, 0, 0, 0, 0, 0] from NumsIn.newAt (w.alloc (.cells #[.float .f32 a, .float .f32 b, .float .f32 c, .float .f32 d, .float .f32 s, .float .f32 t, .float .f32 u, .float .f32 v] 39)) [0, 0, 0, 0, 0, 0, 0, 0] 39 (p := w.heap.size + 1) (by simp))
  have G := Lib.hid (((Below.refl w.heap.size w).alloc (Nat.le_refl _) (.cells #[.float .f32 a, .float .f32 b, .float .f32 c, .float .f32 d, .float .f32 s, .float .f32 t, .float .f32 u, .float .f32 v] 39)).alloc (by simp) (.cells #[.float .f32 0, .float .f32 0, .float .f32 0, .float .f32 0, .float .f32 0, .float .f32 0, .float .f32 0, .float .f32 0] 39))
  cases hv : tnB a b c d s t u v
  · have HV := Lib.hid hv
    have HB := Lib.hid (tsOk_0 (z := z) (show tsB0 a b c d s t u v x = false by unfold tsB0; rw [hv]; rfl))
    clear hv
    go_enter Try.func29, Try.ntmps29
    go_wp2_with fail
    refine (sptn_any _ _ _ _ _ _ _ _ _ _ HI.out).mono ?_
    rw [HV.out]
    rintro e w1 ⟨m1, rfl, rfl⟩
    have HL := Lib.hid (show TsV w a b c d s t u v _ from ⟨HI.out.drewN m1, HR.out.drewN m1, below_drewN G.out m1⟩)
    generalize World.drewN _ m1 = w1 at *
    obtain ⟨r0, r1, r2, r3, r4, r5, r6, r7⟩ := HL.out.2.1.c8
    obtain ⟨f0, f1, f2, f3, f4, f5, f6, f7⟩ := HL.out.2.1.f8
    go_wp2_with fail
    refine bodyPost_ret (v := .tuple #[.agg #[.float .f32 0, .float .f32 0, .float .f32 0, .float .f32 0, .float .f32 0, .float .f32 0, .float .f32 0, .float .f32 0], .float .f32 0, .bool false]) ?_ rfl (tsR_no HB.out ?_)
    · have hres := HRES.out
      simp only [results, hres]
      go_simp
    · exact ((((((((((((((((HL.out.2.2).setCell (by show w.heap.size ≤ w.heap.size + 1; omega) _)).setCell (by show w.heap.size ≤ w.heap.size + 1; omega) _)).setCell (by show w.heap.size ≤ w.heap.size + 1; omega) _)).setCell (by show w.heap.size ≤ w.heap.size + 1; omega) _)).setCell (by show w.heap.size ≤ w.heap.size + 1; omega) _)).setCell (by show w.heap.size ≤ w.heap.size + 1; omega) _)).setCell (by show w.heap.size ≤ w.heap.size + 1; omega) _)).setCell (by show w.heap.size ≤ w.heap.size + 1; omega) _)
  cases hx : fin .f32 x
  · have HV := Lib.hid hv
    have HX := Lib.hid hx
    have HB := Lib.hid (tsOk_0 (z := z) (show tsB0 a b c d s t u v x = false by unfold tsB0; rw [hv, hx]; rfl))
    clear hv hx
    go_enter Try.func29, Try.ntmps29
    go_wp2_with fail
    refine (sptn_any _ _ _ _ _ _ _ _ _ _ HI.out).mono ?_
    rw [HV.out]
    rintro e w1 ⟨m1, rfl, rfl⟩
    have HL := Lib.hid (show TsV w a b c d s t u v _ from ⟨HI.out.drewN m1, HR.out.drewN m1, below_drewN G.out m1⟩)
    generalize World.drewN _ m1 = w1 at *
    go_wp2_with fail
    refine (l01Finite_any _ _).mono ?_
    rw [HX.out]
    rintro e w' ⟨m2, rfl, rfl⟩
    replace HL := Lib.hid (HL.out.drewN m2)
    generalize w1.drewN m2 = wq at *
    obtain ⟨r0, r1, r2, r3, r4, r5, r6, r7⟩ := HL.out.2.1.c8
    obtain ⟨f0, f1, f2, f3, f4, f5, f6, f7⟩ := HL.out.2.1.f8
    go_wp2_with fail
    refine bodyPost_ret (v := .tuple #[.agg #[.float .f32 0, .float .f32 0, .float .f32 0, .float .f32 0, .float .f32 0, .float .f32 0, .float .f32 0, .float .f32 0], .float .f32 0, .bool false]) ?_ rfl (tsR_no HB.out ?_)
    · have hres := HRES.out
      simp only [results, hres]
      go_simp
    · exact ((((((((((((((((HL.out.2.2).setCell (by show w.heap.size ≤ w.heap.size + 1; omega) _)).setCell (by show w.heap.size ≤ w.heap.size + 1; omega) _)).setCell (by show w.heap.size ≤ w.heap.size + 1; omega) _)).setCell (by show w.heap.size ≤ w.heap.size + 1; omega) _)).setCell (by show w.heap.size ≤ w.heap.size + 1; omega) _)).setCell (by show w.heap.size ≤ w.heap.size + 1; omega) _)).setCell (by show w.heap.size ≤ w.heap.size + 1; omega) _)).setCell (by show w.heap.size ≤ w.heap.size + 1; omega) _)
  have h0 : tsB0 a b c d s t u v x = true := by unfold tsB0; rw [hv, hx]; rfl
  have HV := Lib.hid hv
  have HX := Lib.hid hx
  have H0 := Lib.hid h0
  clear hv hx h0
  go_enter Try.func29, Try.ntmps29
  go_wp2_with fail
  refine (sptn_any _ _ _ _ _ _ _ _ _ _ HI.out).mono ?_
  rw [HV.out]
  rintro e w1 ⟨m1, rfl, rfl⟩
  have HL := Lib.hid (show TsV w a b c d s t u v _ from ⟨HI.out.drewN m1, HR.out.drewN m1, below_drewN G.out m1⟩)
  generalize World.drewN _ m1 = w1 at *
  go_wp2_with fail
  refine (l01Finite_any _ _).mono ?_
  rw [HX.out]
  rintro e w' ⟨m2, rfl, rfl⟩
  replace HL := Lib.hid (HL.out.drewN m2)
  generalize w1.drewN m2 = wq at *
  go_upto_region 3 with fail
  go_cut [9] (fun s9 wx => ∃ E, s9 = .float .f32 E ∧ Hid (cn .f32 E = tsE a b) ∧ Hid (TsV w a b c d s t u v wx))
  case first =>
    obtain ⟨i0, i1, i2, i3, i4, i5, i6, i7⟩ := HL.out.1.c8
    go_wp2_with fail
    go_meet
    case rel =>
      refine ⟨_, rfl, ?_, Lib.hid (HL.out.drewN _)⟩
      exact Lib.hid (ts_e _)
  case rest =>
    obtain ⟨E, rfl, HE, hL⟩ := hcut
    replace HL := hL
    go_upto_region 4 with fail
    go_cut [10] (fun s10 wx => ∃ A, s10 = .float .f32 A ∧ Hid (cn .f32 A = tsA c d s u) ∧ Hid (TsV w a b c d s t u v wx))
    case first =>
      obtain ⟨i0, i1, i2, i3, i4, i5, i6, i7⟩ := HL.out.1.c8
      go_wp2_with fail
      go_meet
      case rel =>
        refine ⟨_, rfl, ?_, Lib.hid (HL.out.drewN _)⟩
        exact Lib.hid (ts_a _ _ _ _)
    case rest =>
      obtain ⟨A, rfl, HA, hL⟩ := hcut
      replace HL := hL
      go_upto_region 5 with fail
      go_cut [11] (fun s11 wx => ∃ B, s11 = .float .f32 B ∧ Hid (cn .f32 B = tsB d s) ∧ Hid (TsV w a b c d s t u v wx))
      case first =>
        obtain ⟨i0, i1, i2, i3, i4, i5, i6, i7⟩ := HL.out.1.c8
        go_wp2_with fail
        go_meet
        case rel =>
          refine ⟨_, rfl, ?_, Lib.hid (HL.out.drewN _)⟩
          exact Lib.hid (ts_b _)
      case rest =>
        obtain ⟨B, rfl, HBv, hL⟩ := hcut
        replace HL := hL
        go_upto_region 6 with fail
        go_cut [12] (fun s12 wx => ∃ C, s12 = .float .f32 C ∧ Hid (cn .f32 C = tsC s v) ∧ Hid (TsV w a b c d s t u v wx))
        case first =>
          obtain ⟨i0, i1, i2, i3, i4, i5, i6, i7⟩ := HL.out.1.c8
          go_wp2_with fail
          go_meet
          case rel =>
            refine ⟨_, rfl, ?_, Lib.hid (HL.out.drewN _)⟩
            exact Lib.hid (ts_c _)
        case rest =>
          obtain ⟨C, rfl, HC, hL⟩ := hcut
          replace HL := hL
          generalize wc = w5 at *
          have hk : w.heap.size + 1 < w5.heap.size := HL.out.lt
          have hk0 : w.heap.size < w5.heap.size := by omega
          have hn0 : w.heap.size ≠ w5.heap.size := by omega
          have hn1 : w.heap.size + 1 ≠ w5.heap.size := by omega
          obtain ⟨j0, j1, j2, j3, j4, j5, j6, j7⟩ := HL.out.1.c8
          go_upto_region 8 with fail
          clear j0 j1 j2 j3 j4 j5 j6 j7
          have HL5 := Lib.hid (HL.out.new E b A B C 39)
          replace HL := HL5
          clear HL5
          cases z
          · skip
            have hb := tsOk_1 (z := false) (x := x) H0.out (show cn .f32 E = _ from HE.out) (show cn .f32 b = _ from rfl) (show cn .f32 A = _ from HA.out) (show cn .f32 B = _ from HBv.out) (show cn .f32 C = _ from HC.out)
            go_wp2_with fail
            refine (sptn_any _ _ _ _ _ _ _ _ _ _ HL.out.2).mono ?_
            rintro e w2 ⟨m3, rfl, rfl⟩
            replace HL := Lib.hid (HL.out.drewN m3)
            generalize World.drewN _ m3 = w2 at *
            cases hn : tnB E b A B C t u v
            · have HB := Lib.hid (hb.trans hn)
              clear hb hn
              obtain ⟨r0, r1, r2, r3, r4, r5, r6, r7⟩ := HL.out.1.2.1.c8
              obtain ⟨f0, f1, f2, f3, f4, f5, f6, f7⟩ := HL.out.1.2.1.f8
              go_wp2_with fail
              refine bodyPost_ret (v := .tuple #[.agg #[.float .f32 0, .float .f32 0, .float .f32 0, .float .f32 0, .float .f32 0, .float .f32 0, .float .f32 0, .float .f32 0], .float .f32 0, .bool false]) ?_ rfl (tsR_no HB.out ?_)
              · have hres := HRES.out
                simp only [results, hres]
                go_simp
              · exact ((((((((((((((((HL.out.1.2.2).setCell (by show w.heap.size ≤ w.heap.size + 1; omega) _)).setCell (by show w.heap.size ≤ w.heap.size + 1; omega) _)).setCell (by show w.heap.size ≤ w.heap.size + 1; omega) _)).setCell (by show w.heap.size ≤ w.heap.size + 1; omega) _)).setCell (by show w.heap.size ≤ w.heap.size + 1; omega) _)).setCell (by show w.heap.size ≤ w.heap.size + 1; omega) _)).setCell (by show w.heap.size ≤ w.heap.size + 1; omega) _)).setCell (by show w.heap.size ≤ w.heap.size + 1; omega) _)
            · have HB := Lib.hid (hb.trans hn)
              have hfl : fin .f32 E = true := by rw [tnB_spec] at hn; exact (Bool.and_eq_true _ _ ▸ hn).1
              have HF := Lib.hid hfl
              clear hb hn hfl
              go_wp2_with fail
              refine (l01Finite_any _ _).mono ?_
              rw [HF.out]
              rintro e w' ⟨m4, rfl, rfl⟩
              replace HL := Lib.hid (HL.out.drewN m4)
              generalize World.drewN _ m4 = w3 at *
              obtain ⟨r0, r1, r2, r3, r4, r5, r6, r7⟩ := HL.out.1.2.1.c8
              obtain ⟨f0, f1, f2, f3, f4, f5, f6, f7⟩ := HL.out.1.2.1.f8
              obtain ⟨n0, n1, n2, n3, n4, n5, n6, n7⟩ := HL.out.2.c8
              go_wp2_with fail
              refine bodyPost_ret (v := .tuple #[.agg #[.float .f32 E, .float .f32 b, .float .f32 A, .float .f32 B, .float .f32 C, .float .f32 t, .float .f32 u, .float .f32 v], .float .f32 E, .bool true]) ?_ rfl (tsR_yes HB.out (show cn .f32 E = _ from HE.out) (show cn .f32 b = _ from rfl) (show cn .f32 A = _ from HA.out) (show cn .f32 B = _ from HBv.out) (show cn .f32 C = _ from HC.out) HE.out ?_)
              · have hres := HRES.out
                simp only [results, hres]
                go_simp
              · exact ((((((((((((((((HL.out.1.2.2).setCell (by show w.heap.size ≤ w.heap.size + 1; omega) _)).setCell (by show w.heap.size ≤ w.heap.size + 1; omega) _)).setCell (by show w.heap.size ≤ w.heap.size + 1; omega) _)).setCell (by show w.heap.size ≤ w.heap.size + 1; omega) _)).setCell (by show w.heap.size ≤ w.heap.size + 1; omega) _)).setCell (by show w.heap.size ≤ w.heap.size + 1; omega) _)).setCell (by show w.heap.size ≤ w.heap.size + 1; omega) _)).setCell (by show w.heap.size ≤ w.heap.size + 1; omega) _)
          · skip
            go_upto_region 9 with fail
            go_cut [14] (fun s14 wx => ∃ F, s14 = .float .f32 F ∧ Hid (cn .f32 F = tsF c d s t u) ∧ Hid (TsW w a b c d s t u v E b A B C w5.heap.size wx))
            case first =>
              obtain ⟨i0, i1, i2, i3, i4, i5, i6, i7⟩ := HL.out.1.1.c8
              obtain ⟨n0, n1, n2, n3, n4, n5, n6, n7⟩ := HL.out.2.c8
              obtain ⟨g0, g1, g2, g3, g4, g5, g6, g7⟩ := HL.out.2.f8
              go_wp2_with fail
              go_meet
              case rel =>
                refine ⟨_, rfl, ?_, Lib.hid (HL.out.drewN _)⟩
                exact Lib.hid (ts_op .add HA.out rfl _)
            case rest =>
              obtain ⟨F, rfl, HF, hL⟩ := hcut
              replace HL := hL
              go_upto_region 10 with fail
              go_cut [15] (fun s15 wx => ∃ K, s15 = .float .f32 K ∧ Hid (cn .f32 K = tsK c d s t u) ∧ Hid (TsW w a b c d s t u v E b A B C w5.heap.size wx))
              case first =>
                obtain ⟨i0, i1, i2, i3, i4, i5, i6, i7⟩ := HL.out.1.1.c8
                obtain ⟨n0, n1, n2, n3, n4, n5, n6, n7⟩ := HL.out.2.c8
                obtain ⟨g0, g1, g2, g3, g4, g5, g6, g7⟩ := HL.out.2.f8
                go_wp2_with fail
                go_meet
                case rel =>
                  refine ⟨_, rfl, ?_, Lib.hid (HL.out.drewN _)⟩
                  exact Lib.hid (ts_op .quo HA.out HF.out _)
              case rest =>
                obtain ⟨K, rfl, HK, hL⟩ := hcut
                replace HL := hL
                go_upto_region 11 with fail
                go_cut [16] (fun s16 wx => ∃ H, s16 = .float .f32 H ∧ Hid (cn .f32 H = tsH c d s t u) ∧ Hid (TsW w a b c d s t u v E b A B C w5.heap.size wx))
                case first =>
                  obtain ⟨i0, i1, i2, i3, i4, i5, i6, i7⟩ := HL.out.1.1.c8
                  obtain ⟨n0, n1, n2, n3, n4, n5, n6, n7⟩ := HL.out.2.c8
                  obtain ⟨g0, g1, g2, g3, g4, g5, g6, g7⟩ := HL.out.2.f8
                  go_wp2_with fail
                  go_meet
                  case rel =>
                    refine ⟨_, rfl, ?_, Lib.hid (HL.out.drewN _)⟩
                    exact Lib.hid (ts_op .quo HBv.out HF.out _)
                case rest =>
                  obtain ⟨H, rfl, HH, hL⟩ := hcut
                  replace HL := hL
                  go_upto_region 12 with fail
                  go_cut [17] (fun s17 wx => ∃ D, s17 = .float .f32 D ∧ Hid (cn .f32 D = tsD a b x) ∧ Hid (TsW w a b c d s t u v E b A B C w5.heap.size wx))
                  case first =>
                    obtain ⟨i0, i1, i2, i3, i4, i5, i6, i7⟩ := HL.out.1.1.c8
                    obtain ⟨n0, n1, n2, n3, n4, n5, n6, n7⟩ := HL.out.2.c8
                    obtain ⟨g0, g1, g2, g3, g4, g5, g6, g7⟩ := HL.out.2.f8
                    go_wp2_with fail
                    go_meet
                    case rel =>
                      refine ⟨_, rfl, ?_, Lib.hid (HL.out.drewN _)⟩
                      exact Lib.hid (ts_op .sub rfl HE.out _)
                  case rest =>
                    obtain ⟨D, rfl, HD, hL⟩ := hcut
                    replace HL := hL
                    go_upto_region 13 with fail
                    go_cut [] (fun wx => ∃ L, Hid (cn .f32 L = tsL a b c d s t u x) ∧ Hid (TsW w a b c d s t u v L b A B C w5.heap.size wx))
                    case first =>
                      obtain ⟨i0, i1, i2, i3, i4, i5, i6, i7⟩ := HL.out.1.1.c8
                      obtain ⟨n0, n1, n2, n3, n4, n5, n6, n7⟩ := HL.out.2.c8
                      obtain ⟨g0, g1, g2, g3, g4, g5, g6, g7⟩ := HL.out.2.f8
                      go_wp2_with fail
                      go_meet
                      case rel =>
                        refine ⟨_, ?_, Lib.hid ((HL.out.drewN _).put0 hk _)⟩
                        exact Lib.hid (ts_mul .add HE.out HK.out HD.out _ _)
                    case rest =>
                      obtain ⟨L, HL0, hL⟩ := hcut
                      replace HL := hL
                      go_upto_region 14 with fail
                      go_cut [] (fun wx => ∃ S, Hid (cn .f32 S = tsS a b c d s t u x) ∧ Hid (TsW w a b c d s t u v L S A B C w5.heap.size wx))
                      case first =>
                        obtain ⟨i0, i1, i2, i3, i4, i5, i6, i7⟩ := HL.out.1.1.c8
                        obtain ⟨n0, n1, n2, n3, n4, n5, n6, n7⟩ := HL.out.2.c8
                        obtain ⟨g0, g1, g2, g3, g4, g5, g6, g7⟩ := HL.out.2.f8
                        go_wp2_with fail
                        go_meet
                        case rel =>
                          refine ⟨_, ?_, Lib.hid ((HL.out.drewN _).put1 hk _)⟩
                          exact Lib.hid (ts_mul .add rfl HH.out HD.out _ _)
                      case rest =>
                        obtain ⟨S, HS, hL⟩ := hcut
                        replace HL := hL
                        go_upto_region 15 with fail
                        go_cut [] (fun wx => ∃ A2, Hid (cn .f32 A2 = tsA2 c d s t u) ∧ Hid (TsW w a b c d s t u v L S A2 B C w5.heap.size wx))
                        case first =>
                          obtain ⟨i0, i1, i2, i3, i4, i5, i6, i7⟩ := HL.out.1.1.c8
                          obtain ⟨n0, n1, n2, n3, n4, n5, n6, n7⟩ := HL.out.2.c8
                          obtain ⟨g0, g1, g2, g3, g4, g5, g6, g7⟩ := HL.out.2.f8
                          go_wp2_with fail
                          refine (spNb_any _ _).mono ?_
                          rintro e w' ⟨⟨r, hr, rfl⟩, rfl⟩
                          have HQ := Lib.hid (show cn .f32 r = tsA2 c d s t u from hr.trans (nbW_congr ((ts_mul .sub HA.out HK.out HA.out _ _).trans (cn_aop ..).symm)))
                          clear hr
                          go_wp2_with fail
                          go_meet
                          case rel =>
                            refine ⟨_, ?_, Lib.hid ((HL.out.drewN _).put2 hk _)⟩
                            exact Lib.hid (HQ.out)
                        case rest =>
                          obtain ⟨A2, HA2, hL⟩ := hcut
                          replace HL := hL
                          go_upto_region 16 with fail
                          go_cut [] (fun wx => ∃ B2, Hid (cn .f32 B2 = tsB2 c d s t u) ∧ Hid (TsW w a b c d s t u v L S A2 B2 C w5.heap.size wx))
                          case first =>
                            obtain ⟨i0, i1, i2, i3, i4, i5, i6, i7⟩ := HL.out.1.1.c8
                            obtain ⟨n0, n1, n2, n3, n4, n5, n6, n7⟩ := HL.out.2.c8
                            obtain ⟨g0, g1, g2, g3, g4, g5, g6, g7⟩ := HL.out.2.f8
                            go_wp2_with fail
                            go_meet
                            case rel =>
                              refine ⟨_, ?_, Lib.hid ((HL.out.drewN _).put3 hk _)⟩
                              exact Lib.hid (ts_mul .sub HBv.out HK.out HBv.out _ _)
                          case rest =>
                            obtain ⟨B2, HB2, hL⟩ := hcut
                            replace HL := hL
                            go_upto_region 17 with fail
                            go_cut [] (fun wx => ∃ C2, Hid (cn .f32 C2 = tsC2 c d s t u v) ∧ Hid (TsW w a b c d s t u v L S A2 B2 C2 w5.heap.size wx))
                            case first =>
                              obtain ⟨i0, i1, i2, i3, i4, i5, i6, i7⟩ := HL.out.1.1.c8
                              obtain ⟨n0, n1, n2, n3, n4, n5, n6, n7⟩ := HL.out.2.c8
                              obtain ⟨g0, g1, g2, g3, g4, g5, g6, g7⟩ := HL.out.2.f8
                              go_wp2_with fail
                              refine (spNb_any _ _).mono ?_
                              rintro e w' ⟨⟨r, hr, rfl⟩, rfl⟩
                              have HQ := Lib.hid (show cn .f32 r = tsC2 c d s t u v from hr.trans (nbW_congr ((ts_mul .sub HC.out HH.out HBv.out _ _).trans (cn_aop ..).symm)))
                              clear hr
                              go_wp2_with fail
                              go_meet
                              case rel =>
                                refine ⟨_, ?_, Lib.hid ((HL.out.drewN _).put4 hk _)⟩
                                exact Lib.hid (HQ.out)
                            case rest =>
                              obtain ⟨C2, HC2, hL⟩ := hcut
                              replace HL := hL
                              have hb := tsOk_1 (z := true) (x := x) H0.out (show cn .f32 L = _ from HL0.out) (show cn .f32 S = _ from HS.out) (show cn .f32 A2 = _ from HA2.out) (show cn .f32 B2 = _ from HB2.out) (show cn .f32 C2 = _ from HC2.out)
                              go_wp2_with fail
                              refine (sptn_any _ _ _ _ _ _ _ _ _ _ HL.out.2).mono ?_
                              rintro e w2 ⟨m3, rfl, rfl⟩
                              replace HL := Lib.hid (HL.out.drewN m3)
                              generalize World.drewN _ m3 = w2 at *
                              cases hn : tnB L S A2 B2 C2 t u v
                              · have HB := Lib.hid (hb.trans hn)
                                clear hb hn
                                obtain ⟨r0, r1, r2, r3, r4, r5, r6, r7⟩ := HL.out.1.2.1.c8
                                obtain ⟨f0, f1, f2, f3, f4, f5, f6, f7⟩ := HL.out.1.2.1.f8
                                go_wp2_with fail
                                refine bodyPost_ret (v := .tuple #[.agg #[.float .f32 0, .float .f32 0, .float .f32 0, .float .f32 0, .float .f32 0, .float .f32 0, .float .f32 0, .float .f32 0], .float .f32 0, .bool false]) ?_ rfl (tsR_no HB.out ?_)
                                · have hres := HRES.out
                                  simp only [results, hres]
                                  go_simp
                                · exact ((((((((((((((((HL.out.1.2.2).setCell (by show w.heap.size ≤ w.heap.size + 1; omega) _)).setCell (by show w.heap.size ≤ w.heap.size + 1; omega) _)).setCell (by show w.heap.size ≤ w.heap.size + 1; omega) _)).setCell (by show w.heap.size ≤ w.heap.size + 1; omega) _)).setCell (by show w.heap.size ≤ w.heap.size + 1; omega) _)).setCell (by show w.heap.size ≤ w.heap.size + 1; omega) _)).setCell (by show w.heap.size ≤ w.heap.size + 1; omega) _)).setCell (by show w.heap.size ≤ w.heap.size + 1; omega) _)
                              · have HB := Lib.hid (hb.trans hn)
                                have hfl : fin .f32 L = true := by rw [tnB_spec] at hn; exact (Bool.and_eq_true _ _ ▸ hn).1
                                have HF := Lib.hid (show fin .f32 E = true from (fin_congr (show cn .f32 E = cn .f32 (tsE a b) by rw [HE.out, ← HE.out, cn_cn])).trans (fin_tsE_of_tsL (show fin .f32 (tsL a b c d s t u x) = true from (fin_congr (show cn .f32 L = cn .f32 (tsL a b c d s t u x) by rw [HL0.out, ← HL0.out, cn_cn])).symm.trans hfl)))
                                clear hb hn hfl
                                go_wp2_with fail
                                refine (l01Finite_any _ _).mono ?_
                                rw [HF.out]
                                rintro e w' ⟨m4, rfl, rfl⟩
                                replace HL := Lib.hid (HL.out.drewN m4)
                                generalize World.drewN _ m4 = w3 at *
                                obtain ⟨r0, r1, r2, r3, r4, r5, r6, r7⟩ := HL.out.1.2.1.c8
                                obtain ⟨f0, f1, f2, f3, f4, f5, f6, f7⟩ := HL.out.1.2.1.f8
                                obtain ⟨n0, n1, n2, n3, n4, n5, n6, n7⟩ := HL.out.2.c8
                                go_wp2_with fail
                                refine bodyPost_ret (v := .tuple #[.agg #[.float .f32 L, .float .f32 S, .float .f32 A2, .float .f32 B2, .float .f32 C2, .float .f32 t, .float .f32 u, .float .f32 v], .float .f32 E, .bool true]) ?_ rfl (tsR_yes HB.out (show cn .f32 L = _ from HL0.out) (show cn .f32 S = _ from HS.out) (show cn .f32 A2 = _ from HA2.out) (show cn .f32 B2 = _ from HB2.out) (show cn .f32 C2 = _ from HC2.out) HE.out ?_)
                                · have hres := HRES.out
                                  simp only [results, hres]
                                  go_simp
                                · exact ((((((((((((((((HL.out.1.2.2).setCell (by show w.heap.size ≤ w.heap.size + 1; omega) _)).setCell (by show w.heap.size ≤ w.heap.size + 1; omega) _)).setCell (by show w.heap.size ≤ w.heap.size + 1; omega) _)).setCell (by show w.heap.size ≤ w.heap.size + 1; omega) _)).setCell (by show w.heap.size ≤ w.heap.size + 1; omega) _)).setCell (by show w.heap.size ≤ w.heap.size + 1; omega) _)).setCell (by show w.heap.size ≤ w.heap.size + 1; omega) _)).setCell (by show w.heap.size ≤ w.heap.size + 1; omega) _)
end Go.Proofs.Ythohhiaeaefdcaa
