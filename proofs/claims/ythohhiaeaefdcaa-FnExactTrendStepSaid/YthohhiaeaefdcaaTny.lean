/-
  TrendStep: impl.
-/
import Derived.Test.YthohhiaeaefdcaaTnz
import Derived.Deep.DeepCutAuto
import Derived.Deep.QuietTactic
import Derived.BigQuiet
import Derived.Deep.RegionHeld3
import Derived.Test.YthohhiaeaefdcaaDrg
import Derived.Test.YthohhiaeaefdcaaTnx
namespace Go.Proofs.Ythohhiaeaefdcaa
open Ieee Go.RowKit
set_option linter.unusedVariables false
theorem se_tsL {a b c d s t u x E A : Nat} (hE : cn .f32 E = tsE a b) (hA : cn .f32 A = tsA c d s u) : seL E A t x = tsL a b c d s t u x := by unfold seL seK seF seD; rw [hE, hA]; rfl
theorem se_tsS {a b c d s t u x E A B : Nat} (hE : cn .f32 E = tsE a b) (hA : cn .f32 A = tsA c d s u) (hB : cn .f32 B = tsB d s) : seS E b A B t x = tsS a b c d s t u x := by unfold seS seH seF seD; rw [hE, hA, hB]; rfl
theorem se_tsA {c d s t u A : Nat} (hA : cn .f32 A = tsA c d s u) : seA A t = tsA2 c d s t u := by unfold seA seK seF; rw [hA]; rfl
theorem se_tsB {c d s t u A B : Nat} (hA : cn .f32 A = tsA c d s u) (hB : cn .f32 B = tsB d s) : seB A B t = tsB2 c d s t u := by unfold seB seK seF; rw [hA, hB]; rfl
theorem se_tsC {c d s t u v A B C : Nat} (hA : cn .f32 A = tsA c d s u) (hB : cn .f32 B = tsB d s) (hC : cn .f32 C = tsC s v) : seC A B C t = tsC2 c d s t u v := by unfold seC seH seF; rw [hA, hB, hC]; rfl
set_option maxHeartbeats 4000000 in
set_option maxRecDepth 100000 in
theorem imTns_any (a b c d s t u v x : Nat) (z : Bool) (w : World) :
    Calls Try.prog 30 #[.agg #[.float .f32 a, .float .f32 b, .float .f32 c, .float .f32 d, .float .f32 s, .float .f32 t, .float .f32 u, .float .f32 v], .float .f32 x, .bool z] w (tsR z a b c d s t u v x w) := by
  have HRES := Lib.hid (show Try.f30.results = #[.cell 6 39, .tmp 7, .tmp 8] by kernel_rfl)
  have HI := Lib.hid (show NumsIn ((w.alloc (.cells #[.float .f32 a, .float .f32 b, .float .f32 c, .float .f32 d, .float .f32 s, .float .f32 t, .float .f32 u, .float .f32 v] 39)).alloc (.cells #[.float .f32 0, .float .f32 0, .float .f32 0, .float .f32 0, .float .f32 0, .float .f32 0, .float .f32 0, .float .f32 0] 39)) w.heap.size [a, b, c, d, s, t, u, v] from (NumsIn.new w [a, b, c, d, s, t, u, v] 39).alloc (.cells #[.float .f32 0, .float .f32 0, .float .f32 0, .float .f32 0, .float .f32 0, .float .f32 0, .float .f32 0, .float .f32 0] 39))
  have HR := Lib.hid (show NumsIn ((w.alloc (.cells #[.float .f32 a, .float .f32 b, .float .f32 c, .float .f32 d, .float .f32 s, .float .f32 t, .float .f32 u, .float .f32 v] 39)).alloc (.cells #[.float .f32 0, .float .f32 0, .float .f32 0, .float .f32 0, .float .f32 0, .float .f32 0, .float .f32 0, .float .f32 0] 39)) (w.heap.size + 1) [0, 0, 0, 0, 0, 0, 0, 0] from NumsIn.newAt (w.alloc (.cells #[.float .f32 a, .float .f32 b, .float .f32 c, .float .f32 d, .float .f32 s, .float .f32 t, .float .f32 u, .float .f32 v] 39)) [0, 0, 0, 0, 0, 0, 0, 0] 39 (p := w.heap.size + 1) (by simp))
  have G := Lib.hid (((Below.refl w.heap.size w).alloc (Nat.le_refl _) (.cells #[.float .f32 a, .float .f32 b, .float .f32 c, .float .f32 d, .float .f32 s, .float .f32 t, .float .f32 u, .float .f32 v] 39)).alloc (by simp) (.cells #[.float .f32 0, .float .f32 0, .float .f32 0, .float .f32 0, .float .f32 0, .float .f32 0, .float .f32 0, .float .f32 0] 39))
  cases hv : tnB a b c d s t u v
  · have HV := Lib.hid hv
    have HB := Lib.hid (tsOk_0 (z := z) (show tsB0 a b c d s t u v x = false by unfold tsB0; rw [hv]; rfl))
    clear hv
    go_enter Try.func30, Try.ntmps30
    go_wp2_with fail
    refine (imVtn_any _ _ _ _ _ _ _ _ _).mono ?_
    rw [HV.out]
    rintro e w1 ⟨rfl, b1⟩
    have HL := Lib.hid (show TsV w a b c d s t u v _ from ⟨HI.out.below b1, HR.out.below b1, G.out.trans (b1.mono G.out.size)⟩)
    clear b1
    obtain ⟨r0, r1, r2, r3, r4, r5, r6, r7⟩ := HL.out.2.1.c8
    obtain ⟨f0, f1, f2, f3, f4, f5, f6, f7⟩ := HL.out.2.1.f8
    go_wp2_with fail
    refine bodyPost_ret (v := .tuple #[.agg #[.float .f32 0, .float .f32 0, .float .f32 0, .float .f32 0, .float .f32 0, .float .f32 0, .float .f32 0, .float .f32 0], .float .f32 0, .bool false]) ?_ rfl (tsR_no HB.out ?_)
    · have hres := HRES.out
      simp only [results, hres]
      go_simp
    · exact ((((((((((((((((HL.out.2.2).setCell (by show w.heap.size ≤ w.heap.size + 1; omega) _)).setCell (by show w.heap.size ≤ w.heap.size + 1; omega) _)).setCell (by show w.heap.size ≤ w.heap.size + 1; omega) _)).setCell (by show w.heap.size ≤ w.heap.size + 1; omega) _)).setCell (by show w.heap.size ≤ w.heap.size + 1; omega) _)).setCell (by show w.heap.size ≤ w.heap.size + 1; omega) _)).setCell (by show w.heap.size ≤ w.heap.size + 1; omega) _)).setCell (by show w.heap.size ≤ w.heap.size + 1; omega) _)
  cases hx : fin .f32 x
  · have HV := Lib.hid hv
    have HX := Lib.hid hx
    have HB := Lib.hid (tsOk_0 (z := z) (show tsB0 a b c d s t u v x = false by unfold tsB0; rw [hv, hx]; rfl))
    clear hv hx
    go_enter Try.func30, Try.ntmps30
    go_wp2_with fail
    refine (imVtn_any _ _ _ _ _ _ _ _ _).mono ?_
    rw [HV.out]
    rintro e w1 ⟨rfl, b1⟩
    have HL := Lib.hid (show TsV w a b c d s t u v _ from ⟨HI.out.below b1, HR.out.below b1, G.out.trans (b1.mono G.out.size)⟩)
    clear b1
    go_wp2_with fail
    refine (isFinite_any _ _).mono ?_
    rw [HX.out]
    rintro e w' ⟨m2, rfl, rfl⟩
    replace HL := Lib.hid (HL.out.drewN m2)
    generalize w1.drewN m2 = wq at *
    obtain ⟨r0, r1, r2, r3, r4, r5, r6, r7⟩ := HL.out.2.1.c8
    obtain ⟨f0, f1, f2, f3, f4, f5, f6, f7⟩ := HL.out.2.1.f8
    go_wp2_with fail
    refine bodyPost_ret (v := .tuple #[.agg #[.float .f32 0, .float .f32 0, .float .f32 0, .float .f32 0, .float .f32 0, .float .f32 0, .float .f32 0, .float .f32 0], .float .f32 0, .bool false]) ?_ rfl (tsR_no HB.out ?_)
    · have hres := HRES.out
      simp only [results, hres]
      go_simp
    · exact ((((((((((((((((HL.out.2.2).setCell (by show w.heap.size ≤ w.heap.size + 1; omega) _)).setCell (by show w.heap.size ≤ w.heap.size + 1; omega) _)).setCell (by show w.heap.size ≤ w.heap.size + 1; omega) _)).setCell (by show w.heap.size ≤ w.heap.size + 1; omega) _)).setCell (by show w.heap.size ≤ w.heap.size + 1; omega) _)).setCell (by show w.heap.size ≤ w.heap.size + 1; omega) _)).setCell (by show w.heap.size ≤ w.heap.size + 1; omega) _)).setCell (by show w.heap.size ≤ w.heap.size + 1; omega) _)
  have h0 : tsB0 a b c d s t u v x = true := by unfold tsB0; rw [hv, hx]; rfl
  have HV := Lib.hid hv
  have HX := Lib.hid hx
  have H0 := Lib.hid h0
  clear hv hx h0
  go_enter Try.func30, Try.ntmps30
  go_wp2_with fail
  refine (imVtn_any _ _ _ _ _ _ _ _ _).mono ?_
  rw [HV.out]
  rintro e w1 ⟨rfl, b1⟩
  have HL := Lib.hid (show TsV w a b c d s t u v _ from ⟨HI.out.below b1, HR.out.below b1, G.out.trans (b1.mono G.out.size)⟩)
  clear b1
  go_wp2_with fail
  refine (isFinite_any _ _).mono ?_
  rw [HX.out]
  rintro e w' ⟨m2, rfl, rfl⟩
  replace HL := Lib.hid (HL.out.drewN m2)
  generalize w1.drewN m2 = wq at *
  go_upto_region 3 with fail
  go_cut [9] (fun s9 wx => ∃ E, s9 = .float .f32 E ∧ Hid (cn .f32 E = tsE a b) ∧ Hid (TsV w a b c d s t u v wx))
  case first =>
    obtain ⟨i0, i1, i2, i3, i4, i5, i6, i7⟩ := HL.out.1.c8
    go_wp2_with fail
    go_meet
    case rel =>
      refine ⟨_, rfl, ?_, Lib.hid (HL.out.drewN _)⟩
      exact Lib.hid (ts_e _)
  case rest =>
    obtain ⟨E, rfl, HE, hL⟩ := hcut
    replace HL := hL
    generalize wc = w5 at *
    have hk : w.heap.size + 1 < w5.heap.size := HL.out.lt
    have hk0 : w.heap.size < w5.heap.size := by omega
    have hn0 : w.heap.size ≠ w5.heap.size := by omega
    have hn1 : w.heap.size + 1 ≠ w5.heap.size := by omega
    obtain ⟨j0, j1, j2, j3, j4, j5, j6, j7⟩ := HL.out.1.c8
    go_upto_region 5 with fail
    clear j0 j1 j2 j3 j4 j5 j6 j7
    have HV5 := HL
    have HL5 := Lib.hid (HL.out.new a b c d s 39)
    replace HL := HL5
    clear HL5
    go_upto_region 5 with fail
    go_cut [] (fun wx => Hid (TsW w a b c d s t u v E b c d s w5.heap.size wx))
    case first =>
      obtain ⟨i0, i1, i2, i3, i4, i5, i6, i7⟩ := HL.out.1.1.c8
      obtain ⟨n0, n1, n2, n3, n4, n5, n6, n7⟩ := HL.out.2.c8
      obtain ⟨g0, g1, g2, g3, g4, g5, g6, g7⟩ := HL.out.2.f8
      go_wp2_with fail
      go_meet
      case rel =>
        exact Lib.hid (HV5.out.new E b c d s 39)
    case rest =>
      have hL := hcut
      replace HL := hL
      go_upto_region 6 with fail
      go_cut [] (fun wx => ∃ A, Hid (cn .f32 A = tsA c d s u) ∧ Hid (TsW w a b c d s t u v E b A d s w5.heap.size wx))
      case first =>
        obtain ⟨i0, i1, i2, i3, i4, i5, i6, i7⟩ := HL.out.1.1.c8
        obtain ⟨n0, n1, n2, n3, n4, n5, n6, n7⟩ := HL.out.2.c8
        obtain ⟨g0, g1, g2, g3, g4, g5, g6, g7⟩ := HL.out.2.f8
        go_wp2_with fail
        go_meet
        case rel =>
          refine ⟨_, ?_, Lib.hid ((HL.out.drewN _).put2 hk _)⟩
          exact Lib.hid (ts_a _ _ _ _)
      case rest =>
        obtain ⟨A, HA, hL⟩ := hcut
        replace HL := hL
        go_upto_region 7 with fail
        go_cut [] (fun wx => ∃ B, Hid (cn .f32 B = tsB d s) ∧ Hid (TsW w a b c d s t u v E b A B s w5.heap.size wx))
        case first =>
          obtain ⟨i0, i1, i2, i3, i4, i5, i6, i7⟩ := HL.out.1.1.c8
          obtain ⟨n0, n1, n2, n3, n4, n5, n6, n7⟩ := HL.out.2.c8
          obtain ⟨g0, g1, g2, g3, g4, g5, g6, g7⟩ := HL.out.2.f8
          go_wp2_with fail
          go_meet
          case rel =>
            refine ⟨_, ?_, Lib.hid ((HL.out.drewN _).put3 hk _)⟩
            exact Lib.hid (ts_b _)
        case rest =>
          obtain ⟨B, HBv, hL⟩ := hcut
          replace HL := hL
          go_upto_region 8 with fail
          go_cut [] (fun wx => ∃ C, Hid (cn .f32 C = tsC s v) ∧ Hid (TsW w a b c d s t u v E b A B C w5.heap.size wx))
          case first =>
            obtain ⟨i0, i1, i2, i3, i4, i5, i6, i7⟩ := HL.out.1.1.c8
            obtain ⟨n0, n1, n2, n3, n4, n5, n6, n7⟩ := HL.out.2.c8
            obtain ⟨g0, g1, g2, g3, g4, g5, g6, g7⟩ := HL.out.2.f8
            go_wp2_with fail
            go_meet
            case rel =>
              refine ⟨_, ?_, Lib.hid ((HL.out.drewN _).put4 hk _)⟩
              exact Lib.hid (ts_c _)
          case rest =>
            obtain ⟨C, HC, hL⟩ := hcut
            replace HL := hL
            cases z
            · skip
              have hb := tsOk_1 (z := false) (x := x) H0.out (show cn .f32 E = _ from HE.out) (show cn .f32 b = _ from rfl) (show cn .f32 A = _ from HA.out) (show cn .f32 B = _ from HBv.out) (show cn .f32 C = _ from HC.out)
              obtain ⟨n0, n1, n2, n3, n4, n5, n6, n7⟩ := HL.out.2.c8
              go_wp2_with fail
              refine (imVtn_any _ _ _ _ _ _ _ _ _).mono ?_
              rintro e w2 ⟨rfl, b2⟩
              replace HL := Lib.hid (HL.out.below b2)
              clear b2 n0 n1 n2 n3 n4 n5 n6 n7
              cases hn : tnB E b A B C t u v
              · have HB := Lib.hid (hb.trans hn)
                clear hb hn
                obtain ⟨r0, r1, r2, r3, r4, r5, r6, r7⟩ := HL.out.1.2.1.c8
                obtain ⟨f0, f1, f2, f3, f4, f5, f6, f7⟩ := HL.out.1.2.1.f8
                go_wp2_with fail
                refine bodyPost_ret (v := .tuple #[.agg #[.float .f32 0, .float .f32 0, .float .f32 0, .float .f32 0, .float .f32 0, .float .f32 0, .float .f32 0, .float .f32 0], .float .f32 0, .bool false]) ?_ rfl (tsR_no HB.out ?_)
                · have hres := HRES.out
                  simp only [results, hres]
                  go_simp
                · exact ((((((((((((((((HL.out.1.2.2).setCell (by show w.heap.size ≤ w.heap.size + 1; omega) _)).setCell (by show w.heap.size ≤ w.heap.size + 1; omega) _)).setCell (by show w.heap.size ≤ w.heap.size + 1; omega) _)).setCell (by show w.heap.size ≤ w.heap.size + 1; omega) _)).setCell (by show w.heap.size ≤ w.heap.size + 1; omega) _)).setCell (by show w.heap.size ≤ w.heap.size + 1; omega) _)).setCell (by show w.heap.size ≤ w.heap.size + 1; omega) _)).setCell (by show w.heap.size ≤ w.heap.size + 1; omega) _)
              · have HB := Lib.hid (hb.trans hn)
                clear hb hn
                obtain ⟨r0, r1, r2, r3, r4, r5, r6, r7⟩ := HL.out.1.2.1.c8
                obtain ⟨f0, f1, f2, f3, f4, f5, f6, f7⟩ := HL.out.1.2.1.f8
                obtain ⟨n0, n1, n2, n3, n4, n5, n6, n7⟩ := HL.out.2.c8
                go_wp2_with fail
                refine bodyPost_ret (v := .tuple #[.agg #[.float .f32 E, .float .f32 b, .float .f32 A, .float .f32 B, .float .f32 C, .float .f32 t, .float .f32 u, .float .f32 v], .float .f32 E, .bool true]) ?_ rfl (tsR_yes HB.out (show cn .f32 E = _ from HE.out) (show cn .f32 b = _ from rfl) (show cn .f32 A = _ from HA.out) (show cn .f32 B = _ from HBv.out) (show cn .f32 C = _ from HC.out) HE.out ?_)
                · have hres := HRES.out
                  simp only [results, hres]
                  go_simp
                · exact ((((((((((((((((HL.out.1.2.2).setCell (by show w.heap.size ≤ w.heap.size + 1; omega) _)).setCell (by show w.heap.size ≤ w.heap.size + 1; omega) _)).setCell (by show w.heap.size ≤ w.heap.size + 1; omega) _)).setCell (by show w.heap.size ≤ w.heap.size + 1; omega) _)).setCell (by show w.heap.size ≤ w.heap.size + 1; omega) _)).setCell (by show w.heap.size ≤ w.heap.size + 1; omega) _)).setCell (by show w.heap.size ≤ w.heap.size + 1; omega) _)).setCell (by show w.heap.size ≤ w.heap.size + 1; omega) _)
            · skip
              go_upto_region 10 with fail
              go_cut [] (fun wx => ∃ L S A2 B2 C2, Hid (cn .f32 L = tsL a b c d s t u x) ∧ Hid (cn .f32 S = tsS a b c d s t u x) ∧ Hid (cn .f32 A2 = tsA2 c d s t u) ∧ Hid (cn .f32 B2 = tsB2 c d s t u) ∧ Hid (cn .f32 C2 = tsC2 c d s t u v) ∧ Hid (TsW w a b c d s t u v L S A2 B2 C2 w5.heap.size wx))
              case first =>
                obtain ⟨n0, n1, n2, n3, n4, n5, n6, n7⟩ := HL.out.2.c8
                go_wp2_with fail
                refine (seeing_any _ _ _ _ _ _ _ _ _ _).mono ?_
                rintro e w2 ⟨⟨L, S, A2, B2, C2, h1, h2, h3, h4, h5, rfl⟩, b2⟩
                replace HL := Lib.hid (HL.out.below b2)
                clear b2 n0 n1 n2 n3 n4 n5 n6 n7
                have g1 := Lib.hid (h1.trans (se_tsL HE.out HA.out))
                have g2 := Lib.hid (h2.trans (se_tsS HE.out HA.out HBv.out))
                have g3 := Lib.hid (h3.trans (se_tsA HA.out))
                have g4 := Lib.hid (h4.trans (se_tsB HA.out HBv.out))
                have g5 := Lib.hid (h5.trans (se_tsC HA.out HBv.out HC.out))
                clear h1 h2 h3 h4 h5
                obtain ⟨n0, n1, n2, n3, n4, n5, n6, n7⟩ := HL.out.2.c8
                obtain ⟨y0, y1, y2, y3, y4, y5, y6, y7⟩ := HL.out.2.f8
                go_wp2_with fail
                go_meet
                case rel => exact ⟨L, S, A2, B2, C2, g1, g2, g3, g4, g5, Lib.hid ((((((((HL.out.put0 hk L).put1 hk S).put2 hk A2).put3 hk B2).put4 hk C2).put5 hk).put6 hk).put7 hk)⟩
              case rest =>
                obtain ⟨L, S, A2, B2, C2, HL0, HS, HA2, HB2, HC2, hL⟩ := hcut
                replace HL := hL
                have hb := tsOk_1 (z := true) (x := x) H0.out (show cn .f32 L = _ from HL0.out) (show cn .f32 S = _ from HS.out) (show cn .f32 A2 = _ from HA2.out) (show cn .f32 B2 = _ from HB2.out) (show cn .f32 C2 = _ from HC2.out)
                obtain ⟨n0, n1, n2, n3, n4, n5, n6, n7⟩ := HL.out.2.c8
                go_wp2_with fail
                refine (imVtn_any _ _ _ _ _ _ _ _ _).mono ?_
                rintro e w2 ⟨rfl, b2⟩
                replace HL := Lib.hid (HL.out.below b2)
                clear b2 n0 n1 n2 n3 n4 n5 n6 n7
                cases hn : tnB L S A2 B2 C2 t u v
                · have HB := Lib.hid (hb.trans hn)
                  clear hb hn
                  obtain ⟨r0, r1, r2, r3, r4, r5, r6, r7⟩ := HL.out.1.2.1.c8
                  obtain ⟨f0, f1, f2, f3, f4, f5, f6, f7⟩ := HL.out.1.2.1.f8
                  go_wp2_with fail
                  refine bodyPost_ret (v := .tuple #[.agg #[.float .f32 0, .float .f32 0, .float .f32 0, .float .f32 0, .float .f32 0, .float .f32 0, .float .f32 0, .float .f32 0], .float .f32 0, .bool false]) ?_ rfl (tsR_no HB.out ?_)
                  · have hres := HRES.out
                    simp only [results, hres]
                    go_simp
                  · exact ((((((((((((((((HL.out.1.2.2).setCell (by show w.heap.size ≤ w.heap.size + 1; omega) _)).setCell (by show w.heap.size ≤ w.heap.size + 1; omega) _)).setCell (by show w.heap.size ≤ w.heap.size + 1; omega) _)).setCell (by show w.heap.size ≤ w.heap.size + 1; omega) _)).setCell (by show w.heap.size ≤ w.heap.size + 1; omega) _)).setCell (by show w.heap.size ≤ w.heap.size + 1; omega) _)).setCell (by show w.heap.size ≤ w.heap.size + 1; omega) _)).setCell (by show w.heap.size ≤ w.heap.size + 1; omega) _)
                · have HB := Lib.hid (hb.trans hn)
                  clear hb hn
                  obtain ⟨r0, r1, r2, r3, r4, r5, r6, r7⟩ := HL.out.1.2.1.c8
                  obtain ⟨f0, f1, f2, f3, f4, f5, f6, f7⟩ := HL.out.1.2.1.f8
                  obtain ⟨n0, n1, n2, n3, n4, n5, n6, n7⟩ := HL.out.2.c8
                  go_wp2_with fail
                  refine bodyPost_ret (v := .tuple #[.agg #[.float .f32 L, .float .f32 S, .float .f32 A2, .float .f32 B2, .float .f32 C2, .float .f32 t, .float .f32 u, .float .f32 v], .float .f32 E, .bool true]) ?_ rfl (tsR_yes HB.out (show cn .f32 L = _ from HL0.out) (show cn .f32 S = _ from HS.out) (show cn .f32 A2 = _ from HA2.out) (show cn .f32 B2 = _ from HB2.out) (show cn .f32 C2 = _ from HC2.out) HE.out ?_)
                  · have hres := HRES.out
                    simp only [results, hres]
                    go_simp
                  · exact ((((((((((((((((HL.out.1.2.2).setCell (by show w.heap.size ≤ w.heap.size + 1; omega) _)).setCell (by show w.heap.size ≤ w.heap.size + 1; omega) _)).setCell (by show w.heap.size ≤ w.heap.size + 1; omega) _)).setCell (by show w.heap.size ≤ w.heap.size + 1; omega) _)).setCell (by show w.heap.size ≤ w.heap.size + 1; omega) _)).setCell (by show w.heap.size ≤ w.heap.size + 1; omega) _)).setCell (by show w.heap.size ≤ w.heap.size + 1; omega) _)).setCell (by show w.heap.size ≤ w.heap.size + 1; omega) _)
end Go.Proofs.Ythohhiaeaefdcaa
