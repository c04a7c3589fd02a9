/-
  LevelStep, in both packages.
-/
import Derived.Test.YtldaamgohdnjnaaLvs
import Derived.Deep.DeepCutAuto
namespace Go.Proofs.Ytldaamgohdnjnaa
open Ieee Go.RowKit
set_option linter.unusedVariables false
theorem aop_lt (op : BinOp) (x y : Nat) : aop op .f32 x y < 4294967296 := by
  unfold aop
  cases h : floatBits op .f32 x y with
  | some r => have := floatBits_wf h; exact of_decide_eq_true this
  | none => decide
/-- The parameter, the result and the level that is told stand in their blocks. -/
def LsW (w : World) (a b c d M P k : Nat) (wx : World) : Prop := NumsIn wx w.heap.size [a, b, c, d] ∧ NumsIn wx (w.heap.size + 1) [0, 0, 0, 0] ∧ NumsIn wx k [M, P, c, d] ∧ Below w.heap.size w wx
section
variable {w wx : World} {a b c d M P k : Nat}
theorem LsW.drewN (h : LsW w a b c d M P k wx) (n : Nat) : LsW w a b c d M P k (wx.drewN n) := ⟨h.1.drewN n, h.2.1.drewN n, h.2.2.1.drewN n, below_drewN h.2.2.2 n⟩
theorem LsW.putM (h : LsW w a b c d M P k wx) (hk : w.heap.size + 1 < k) (v : Nat) : LsW w a b c d v P k (wx.setCell ⟨k, 0, none⟩ (.float .f32 v)) := ⟨h.1.set (by omega), h.2.1.set (by omega), h.2.2.1.put (i := 0) (by simp) v, h.2.2.2.setCell (by show w.heap.size ≤ k; omega) _⟩
theorem LsW.putP (h : LsW w a b c d M P k wx) (hk : w.heap.size + 1 < k) (v : Nat) : LsW w a b c d M v k (wx.setCell ⟨k, 1, none⟩ (.float .f32 v)) := ⟨h.1.set (by omega), h.2.1.set (by omega), h.2.2.1.put (i := 1) (by simp) v, h.2.2.2.setCell (by show w.heap.size ≤ k; omega) _⟩
theorem LsW.below {wy : World} (h : LsW w a b c d M P k wx) (hb : Below wx.heap.size wx wy) : LsW w a b c d M P k wy := ⟨h.1.below hb, h.2.1.below hb, h.2.2.1.below hb, h.2.2.2.trans (hb.mono h.2.2.2.size)⟩
end
theorem fop32_lt (op : BinOp) (x y : Nat) (w : World) : fopR op .f32 x y w < 4294967296 := fopR_lt op .f32 x y w
theorem fin_zero : fin .f32 0 = true := by decide +kernel
theorem ls_add {b d : Nat} (w : World) : cn .f32 (fopR .add .f32 b d w) = lsS b d := by rw [cn_fopR]; rfl
section
variable {S F D K b c d a x : Nat}
theorem ls_f (hS : cn .f32 S = lsS b d) (w : World) : cn .f32 (fopR .add .f32 S c w) = lsF b c d := by rw [cn_fopR, hS]; rfl
theorem ls_d (w : World) : cn .f32 (fopR .sub .f32 x a w) = lsD a x := by rw [cn_fopR]; rfl
theorem ls_k (hS : cn .f32 S = lsS b d) (hF : cn .f32 F = lsF b c d) (w : World) : cn .f32 (fopR .quo .f32 S F w) = lsK b c d := by rw [cn_fopR, hS, hF]; rfl
theorem ls_m (hK : cn .f32 K = lsK b c d) (hD : cn .f32 D = lsD a x) (w1 w2 : World) : cn .f32 (fopR .add .f32 a (fopR .mul .f32 K D w1) w2) = sM true a b c d x := by rw [cn_fopR, cn_fopR, hK, hD]; rfl
theorem ls_p (hS : cn .f32 S = lsS b d) (hK : cn .f32 K = lsK b c d) (w1 w2 : World) : cn .f32 (fopR .sub .f32 S (fopR .mul .f32 K S w1) w2) = sP true b c d := by rw [cn_fopR, cn_fopR, hS, hK]; rfl
theorem ls_u {D F l : Nat} (hD : cn .f32 D = lsD a x) (hF : cn .f32 F = lsF b c d) (hl : cn .f32 l = log32 F) (w1 w2 w3 w4 : World) : cn .f32 (fopR .mul .f32 1056964608 (fopR .add .f32 l (fopR .quo .f32 (fopR .mul .f32 D D w1) F w2) w3) w4) = sQ true a b c d x := unl_step hD hF hl w1 w2 w3 w4
theorem ls_u' {D F q : Nat} (hD : cn .f32 D = lsD a x) (hF : cn .f32 F = lsF b c d) (hq : cn .f32 q = unlW (cn .f32 D) (cn .f32 F)) : cn .f32 q = sQ true a b c d x := by rw [hq, hD, hF]; rfl
end

set_option maxHeartbeats 4000000 in
set_option maxRecDepth 100000 in
theorem imLvs_any (a b c d x : Nat) (s : Bool) (w : World) :
    Calls Try.prog 85 #[.agg #[.float .f32 a, .float .f32 b, .float .f32 c, .float .f32 d], .float .f32 x, .bool s] w (lsR s a b c d x w) := by
  have HRES := Lib.hid (show Try.f85.results = #[.cell 6 41, .tmp 7, .tmp 8] by kernel_rfl)
  have HI := Lib.hid (show NumsIn ((w.alloc (.cells #[.float .f32 a, .float .f32 b, .float .f32 c, .float .f32 d] 41)).alloc (.cells #[.float .f32 0, .float .f32 0, .float .f32 0, .float .f32 0] 41)) w.heap.size [a, b, c, d] from (NumsIn.new w [a, b, c, d] 41).alloc (.cells #[.float .f32 0, .float .f32 0, .float .f32 0, .float .f32 0] 41))
  have HR := Lib.hid (show NumsIn ((w.alloc (.cells #[.float .f32 a, .float .f32 b, .float .f32 c, .float .f32 d] 41)).alloc (.cells #[.float .f32 0, .float .f32 0, .float .f32 0, .float .f32 0] 41)) (w.heap.size + 1) [0, 0, 0, 0] from NumsIn.newAt (w.alloc (.cells #[.float .f32 a, .float .f32 b, .float .f32 c, .float .f32 d] 41)) [0, 0, 0, 0] 41 (p := w.heap.size + 1) (by simp))
  have G := Lib.hid (((Below.refl w.heap.size w).alloc (Nat.le_refl _) (.cells #[.float .f32 a, .float .f32 b, .float .f32 c, .float .f32 d] 41)).alloc (by simp) (.cells #[.float .f32 0, .float .f32 0, .float .f32 0, .float .f32 0] 41))
  cases hv : lvB a b c d
  · have HV := Lib.hid hv
    have HB := Lib.hid (lsB_0 (s := s) (show lsB0 a b c d x = false by unfold lsB0; rw [hv]; rfl))
    clear hv
    go_enter Try.func85, Try.ntmps85
    go_wp2_with fail
    refine (imVlv_any _ _ _ _ _).mono ?_
    rw [HV.out]
    rintro e w1 ⟨rfl, b1⟩
    have HI1 := Lib.hid (HI.out.below b1)
    have HR1 := Lib.hid (HR.out.below b1)
    have G1 := Lib.hid (G.out.trans (b1.mono G.out.size))
    clear b1
    obtain ⟨r0, r1, r2, r3⟩ := HR1.out.c4
    obtain ⟨f0, f1, f2, f3⟩ := HR1.out.f4
    go_wp2_with fail
    refine bodyPost_ret (v := .tuple #[.agg #[.float .f32 0, .float .f32 0, .float .f32 0, .float .f32 0], .float .f32 0, .bool false]) ?_ rfl (lsR_no HB.out ?_)
    · have hres := HRES.out
      simp only [results, hres]
      go_simp
    · exact ((((((((G1.out).setCell (by show w.heap.size ≤ w.heap.size + 1; omega) _)).setCell (by show w.heap.size ≤ w.heap.size + 1; omega) _)).setCell (by show w.heap.size ≤ w.heap.size + 1; omega) _)).setCell (by show w.heap.size ≤ w.heap.size + 1; omega) _)
  cases hx : fin .f32 x
  · have HV := Lib.hid hv
    have HX := Lib.hid hx
    have HB := Lib.hid (lsB_0 (s := s) (show lsB0 a b c d x = false by unfold lsB0; rw [hv, hx]; rfl))
    clear hv hx
    go_enter Try.func85, Try.ntmps85
    go_wp2_with fail
    refine (imVlv_any _ _ _ _ _).mono ?_
    rw [HV.out]
    rintro e w1 ⟨rfl, b1⟩
    have HI1 := Lib.hid (HI.out.below b1)
    have HR1 := Lib.hid (HR.out.below b1)
    have G1 := Lib.hid (G.out.trans (b1.mono G.out.size))
    clear b1
    go_wp2_with fail
    refine (isFinite_any _ _).mono ?_
    rw [HX.out]
    rintro e w' ⟨m2, rfl, rfl⟩
    replace HI1 := Lib.hid (HI1.out.drewN m2)
    replace HR1 := Lib.hid (HR1.out.drewN m2)
    replace G1 := Lib.hid (below_drewN G1.out m2)
    generalize w1.drewN m2 = wq at *
    obtain ⟨r0, r1, r2, r3⟩ := HR1.out.c4
    obtain ⟨f0, f1, f2, f3⟩ := HR1.out.f4
    go_wp2_with fail
    refine bodyPost_ret (v := .tuple #[.agg #[.float .f32 0, .float .f32 0, .float .f32 0, .float .f32 0], .float .f32 0, .bool false]) ?_ rfl (lsR_no HB.out ?_)
    · have hres := HRES.out
      simp only [results, hres]
      go_simp
    · exact ((((((((G1.out).setCell (by show w.heap.size ≤ w.heap.size + 1; omega) _)).setCell (by show w.heap.size ≤ w.heap.size + 1; omega) _)).setCell (by show w.heap.size ≤ w.heap.size + 1; omega) _)).setCell (by show w.heap.size ≤ w.heap.size + 1; omega) _)
  have h0 : lsB0 a b c d x = true := by unfold lsB0; rw [hv, hx]; rfl
  have HV := Lib.hid hv
  have HX := Lib.hid hx
  have H0 := Lib.hid h0
  clear hv hx h0
  cases s
  · skip
    go_enter Try.func85, Try.ntmps85
    go_wp2_with fail
    refine (imVlv_any _ _ _ _ _).mono ?_
    rw [HV.out]
    rintro e w1 ⟨rfl, b1⟩
    have HI1 := Lib.hid (HI.out.below b1)
    have HR1 := Lib.hid (HR.out.below b1)
    have G1 := Lib.hid (G.out.trans (b1.mono G.out.size))
    clear b1
    go_wp2_with fail
    refine (isFinite_any _ _).mono ?_
    rw [HX.out]
    rintro e w' ⟨m2, rfl, rfl⟩
    replace HI1 := Lib.hid (HI1.out.drewN m2)
    replace HR1 := Lib.hid (HR1.out.drewN m2)
    replace G1 := Lib.hid (below_drewN G1.out m2)
    generalize w1.drewN m2 = wq at *
    have hs1 : w.heap.size + 1 < wq.heap.size := HR1.out.lt
    have hs0 : w.heap.size < wq.heap.size := by omega
    have hn0 : w.heap.size ≠ wq.heap.size := by omega
    have hn1 : w.heap.size + 1 ≠ wq.heap.size := by omega
    obtain ⟨i0, i1, i2, i3⟩ := HI1.out.c4
    go_wp2_with fail
    refine (imVlv_any _ _ _ _ _).mono ?_
    rintro e w2 ⟨rfl, b2⟩
    have hP := ls_add (b := b) (d := d) (wq.alloc (.cells #[.float .f32 a, .float .f32 b, .float .f32 c, .float .f32 d] 41))
    have HN := Lib.hid (show NumsIn w2 wq.heap.size [a, fopR .add .f32 b d (wq.alloc (.cells #[.float .f32 a, .float .f32 b, .float .f32 c, .float .f32 d] 41)), c, d] from (NumsIn.put (i := 1) ((NumsIn.new wq [a, b, c, d] 41).drewN _) (by simp) _).below b2)
    have HR2 := Lib.hid ((((HR1.out.alloc (.cells #[.float .f32 a, .float .f32 b, .float .f32 c, .float .f32 d] 41)).drewN _).set (by omega)).below b2)
    have G2 := Lib.hid (((below_drewN (G1.out.alloc (by omega) (.cells #[.float .f32 a, .float .f32 b, .float .f32 c, .float .f32 d] 41)) _).setCell (by show w.heap.size ≤ wq.heap.size; omega) _).trans (b2.mono (by simp [World.setCell] <;> omega)))
    clear b2
    generalize fopR .add .f32 b d (wq.alloc (.cells #[.float .f32 a, .float .f32 b, .float .f32 c, .float .f32 d] 41)) = S at *
    have hb := lsB_1 (s := false) (x := x) (q := 0) H0.out (show cn .f32 a = sM false a b c d x from rfl) (show cn .f32 S = sP false b c d from hP) cn_zero
    have HP := Lib.hid hP
    clear hP
    cases hn : lvB a S c d
    · have HB := Lib.hid (hb.trans (by rw [hn]; try rfl))
      clear hb hn
      obtain ⟨r0, r1, r2, r3⟩ := HR2.out.c4
      obtain ⟨f0, f1, f2, f3⟩ := HR2.out.f4
      go_wp2_with fail
      refine bodyPost_ret (v := .tuple #[.agg #[.float .f32 0, .float .f32 0, .float .f32 0, .float .f32 0], .float .f32 0, .bool false]) ?_ rfl (lsR_no HB.out ?_)
      · have hres := HRES.out
        simp only [results, hres]
        go_simp
      · exact ((((((((G2.out).setCell (by show w.heap.size ≤ w.heap.size + 1; omega) _)).setCell (by show w.heap.size ≤ w.heap.size + 1; omega) _)).setCell (by show w.heap.size ≤ w.heap.size + 1; omega) _)).setCell (by show w.heap.size ≤ w.heap.size + 1; omega) _)
    · have HB := Lib.hid (hb.trans (by rw [hn, fin_zero]; try rfl))
      clear hb hn
      go_wp2_with fail
      refine (isFinite_any _ _).mono ?_
      rw [fin_zero]
      rintro e w' ⟨m4, rfl, rfl⟩
      obtain ⟨r0, r1, r2, r3⟩ := (HR2.out.drewN m4).c4
      obtain ⟨f0, f1, f2, f3⟩ := (HR2.out.drewN m4).f4
      obtain ⟨n0, n1, n2, n3⟩ := (HN.out.drewN m4).c4
      go_wp2_with fail
      refine bodyPost_ret (v := .tuple #[.agg #[.float .f32 a, .float .f32 S, .float .f32 c, .float .f32 d], .float .f32 0, .bool true]) ?_ rfl (lsR_yes HB.out rfl HP.out rfl ?_)
      · have hres := HRES.out
        simp only [results, hres]
        go_simp
      · exact ((((((((below_drewN G2.out m4).setCell (by show w.heap.size ≤ w.heap.size + 1; omega) _)).setCell (by show w.heap.size ≤ w.heap.size + 1; omega) _)).setCell (by show w.heap.size ≤ w.heap.size + 1; omega) _)).setCell (by show w.heap.size ≤ w.heap.size + 1; omega) _)
  · skip
    go_enter Try.func85, Try.ntmps85
    go_wp2_with fail
    refine (imVlv_any _ _ _ _ _).mono ?_
    rw [HV.out]
    rintro e w1 ⟨rfl, b1⟩
    have HI1 := Lib.hid (HI.out.below b1)
    have HR1 := Lib.hid (HR.out.below b1)
    have G1 := Lib.hid (G.out.trans (b1.mono G.out.size))
    clear b1
    go_wp2_with fail
    refine (isFinite_any _ _).mono ?_
    rw [HX.out]
    rintro e w' ⟨m2, rfl, rfl⟩
    replace HI1 := Lib.hid (HI1.out.drewN m2)
    replace HR1 := Lib.hid (HR1.out.drewN m2)
    replace G1 := Lib.hid (below_drewN G1.out m2)
    generalize w1.drewN m2 = wq at *
    have hs1 : w.heap.size + 1 < wq.heap.size := HR1.out.lt
    have hs0 : w.heap.size < wq.heap.size := by omega
    have hn0 : w.heap.size ≠ wq.heap.size := by omega
    have hn1 : w.heap.size + 1 ≠ wq.heap.size := by omega
    obtain ⟨i0, i1, i2, i3⟩ := HI1.out.c4
    have hk : w.heap.size + 1 < wq.heap.size := hs1
    have HL := Lib.hid (show LsW w a b c d a b wq.heap.size (wq.alloc (.cells #[.float .f32 a, .float .f32 b, .float .f32 c, .float .f32 d] 41)) from ⟨HI1.out.alloc _, HR1.out.alloc _, NumsIn.new wq [a, b, c, d] 41, G1.out.alloc (by omega) _⟩)
    go_upto_region 4 with fail
    go_cut [] (fun wx => ∃ S, Hid (cn .f32 S = lsS b d) ∧ S < 4294967296 ∧ Hid (LsW w a b c d a S wq.heap.size wx))
    case first =>
      obtain ⟨i0, i1, i2, i3⟩ := HL.out.1.c4
      obtain ⟨n0, n1, n2, n3⟩ := HL.out.2.2.1.c4
      obtain ⟨g0, g1, g2, g3⟩ := HL.out.2.2.1.f4
      go_wp2_with fail
      go_meet
      case rel =>
        refine ⟨_, ?_, ?_, Lib.hid ((HL.out.drewN _).putP hk _)⟩
        · exact Lib.hid (ls_add _)
        · exact fop32_lt ..
    case rest =>
      obtain ⟨S, HS, ltS, hL⟩ := hcut
      replace HL := hL
      go_upto_region 6 with fail
      go_cut [11] (fun s11 wx => ∃ F, s11 = .float .f32 F ∧ Hid (cn .f32 F = lsF b c d) ∧ F < 4294967296 ∧ Hid (LsW w a b c d a S wq.heap.size wx))
      case first =>
        obtain ⟨i0, i1, i2, i3⟩ := HL.out.1.c4
        obtain ⟨n0, n1, n2, n3⟩ := HL.out.2.2.1.c4
        obtain ⟨g0, g1, g2, g3⟩ := HL.out.2.2.1.f4
        go_wp2_with fail
        go_meet
        case rel =>
          refine ⟨_, rfl, ?_, ?_, Lib.hid (HL.out.drewN _)⟩
          · exact Lib.hid (ls_f HS.out _)
          · exact fop32_lt ..
      case rest =>
        obtain ⟨F, rfl, HF, ltF, hL⟩ := hcut
        replace HL := hL
        go_upto_region 7 with fail
        go_cut [12] (fun s12 wx => ∃ D, s12 = .float .f32 D ∧ Hid (cn .f32 D = lsD a x) ∧ D < 4294967296 ∧ Hid (LsW w a b c d a S wq.heap.size wx))
        case first =>
          obtain ⟨i0, i1, i2, i3⟩ := HL.out.1.c4
          obtain ⟨n0, n1, n2, n3⟩ := HL.out.2.2.1.c4
          obtain ⟨g0, g1, g2, g3⟩ := HL.out.2.2.1.f4
          go_wp2_with fail
          go_meet
          case rel =>
            refine ⟨_, rfl, ?_, ?_, Lib.hid (HL.out.drewN _)⟩
            · exact Lib.hid (ls_d _)
            · exact fop32_lt ..
        case rest =>
          obtain ⟨D, rfl, HD, ltD, hL⟩ := hcut
          replace HL := hL
          go_upto_region 8 with fail
          go_cut [13] (fun s13 wx => ∃ K, s13 = .float .f32 K ∧ Hid (cn .f32 K = lsK b c d) ∧ K < 4294967296 ∧ Hid (LsW w a b c d a S wq.heap.size wx))
          case first =>
            obtain ⟨i0, i1, i2, i3⟩ := HL.out.1.c4
            obtain ⟨n0, n1, n2, n3⟩ := HL.out.2.2.1.c4
            obtain ⟨g0, g1, g2, g3⟩ := HL.out.2.2.1.f4
            go_wp2_with fail
            go_meet
            case rel =>
              refine ⟨_, rfl, ?_, ?_, Lib.hid (HL.out.drewN _)⟩
              · exact Lib.hid (ls_k HS.out HF.out _)
              · exact fop32_lt ..
          case rest =>
            obtain ⟨K, rfl, HK, ltK, hL⟩ := hcut
            replace HL := hL
            go_upto_region 9 with fail
            go_cut [] (fun wx => ∃ M, Hid (cn .f32 M = sM true a b c d x) ∧ M < 4294967296 ∧ Hid (LsW w a b c d M S wq.heap.size wx))
            case first =>
              obtain ⟨i0, i1, i2, i3⟩ := HL.out.1.c4
              obtain ⟨n0, n1, n2, n3⟩ := HL.out.2.2.1.c4
              obtain ⟨g0, g1, g2, g3⟩ := HL.out.2.2.1.f4
              go_wp2_with fail
              go_meet
              case rel =>
                refine ⟨_, ?_, ?_, Lib.hid ((HL.out.drewN _).putM hk _)⟩
                · exact Lib.hid (ls_m HK.out HD.out _ _)
                · exact fop32_lt ..
            case rest =>
              obtain ⟨M, HM, ltM, hL⟩ := hcut
              replace HL := hL
              go_upto_region 10 with fail
              go_cut [] (fun wx => ∃ P, Hid (cn .f32 P = sP true b c d) ∧ P < 4294967296 ∧ Hid (LsW w a b c d M P wq.heap.size wx))
              case first =>
                obtain ⟨i0, i1, i2, i3⟩ := HL.out.1.c4
                obtain ⟨n0, n1, n2, n3⟩ := HL.out.2.2.1.c4
                obtain ⟨g0, g1, g2, g3⟩ := HL.out.2.2.1.f4
                go_wp2_with fail
                go_meet
                case rel =>
                  refine ⟨_, ?_, ?_, Lib.hid ((HL.out.drewN _).putP hk _)⟩
                  · exact Lib.hid (ls_p HS.out HK.out _ _)
                  · exact fop32_lt ..
              case rest =>
                obtain ⟨P, HP, ltP, hL⟩ := hcut
                replace HL := hL
                go_upto_region 11 with fail
                go_cut [10] (fun sq wx => ∃ Q, sq = .float .f32 Q ∧ Hid (cn .f32 Q = sQ true a b c d x) ∧ Hid (LsW w a b c d M P wq.heap.size wx))
                case first =>
                  go_wp2_with fail
                  refine (unl_any _ _ _ ltF).mono ?_
                  rintro e w' ⟨q, mq, hq, rfl, rfl⟩
                  have HQ := Lib.hid (ls_u' HD.out HF.out hq)
                  clear hq
                  go_wp2_with fail
                  go_meet
                  case rel => exact ⟨q, rfl, HQ, Lib.hid (HL.out.drewN _)⟩
                case rest =>
                  obtain ⟨Q, rfl, HQ, hL⟩ := hcut
                  replace HL := hL
                  have hb := lsB_1 (s := true) (x := x) (q := Q) H0.out HM.out HP.out HQ.out
                  obtain ⟨n0, n1, n2, n3⟩ := HL.out.2.2.1.c4
                  go_wp2_with fail
                  refine (imVlv_any _ _ _ _ _).mono ?_
                  rintro e w2 ⟨rfl, b2⟩
                  replace HL := Lib.hid (HL.out.below b2)
                  clear b2 n0 n1 n2 n3
                  cases hn : lvB M P c d
                  · have HB := Lib.hid (hb.trans (by rw [hn]; try rfl))
                    clear hb hn
                    obtain ⟨r0, r1, r2, r3⟩ := HL.out.2.1.c4
                    obtain ⟨f0, f1, f2, f3⟩ := HL.out.2.1.f4
                    go_wp2_with fail
                    refine bodyPost_ret (v := .tuple #[.agg #[.float .f32 0, .float .f32 0, .float .f32 0, .float .f32 0], .float .f32 0, .bool false]) ?_ rfl (lsR_no HB.out ?_)
                    · have hres := HRES.out
                      simp only [results, hres]
                      go_simp
                    · exact ((((((((HL.out.2.2.2).setCell (by show w.heap.size ≤ w.heap.size + 1; omega) _)).setCell (by show w.heap.size ≤ w.heap.size + 1; omega) _)).setCell (by show w.heap.size ≤ w.heap.size + 1; omega) _)).setCell (by show w.heap.size ≤ w.heap.size + 1; omega) _)
                  · cases hq : fin .f32 Q
                    · have HB := Lib.hid (hb.trans (by rw [hn, hq]; try rfl))
                      have HF := Lib.hid hq
                      clear hb hn hq
                      go_wp2_with fail
                      refine (isFinite_any _ _).mono ?_
                      rw [HF.out]
                      rintro e w' ⟨m4, rfl, rfl⟩
                      replace HL := Lib.hid (HL.out.drewN m4)
                      generalize World.drewN _ m4 = w3 at *
                      obtain ⟨r0, r1, r2, r3⟩ := HL.out.2.1.c4
                      obtain ⟨f0, f1, f2, f3⟩ := HL.out.2.1.f4
                      go_wp2_with fail
                      refine bodyPost_ret (v := .tuple #[.agg #[.float .f32 0, .float .f32 0, .float .f32 0, .float .f32 0], .float .f32 0, .bool false]) ?_ rfl (lsR_no HB.out ?_)
                      · have hres := HRES.out
                        simp only [results, hres]
                        go_simp
                      · exact ((((((((HL.out.2.2.2).setCell (by show w.heap.size ≤ w.heap.size + 1; omega) _)).setCell (by show w.heap.size ≤ w.heap.size + 1; omega) _)).setCell (by show w.heap.size ≤ w.heap.size + 1; omega) _)).setCell (by show w.heap.size ≤ w.heap.size + 1; omega) _)
                    · have HB := Lib.hid (hb.trans (by rw [hn, hq]; try rfl))
                      have HF := Lib.hid hq
                      clear hb hn hq
                      go_wp2_with fail
                      refine (isFinite_any _ _).mono ?_
                      rw [HF.out]
                      rintro e w' ⟨m4, rfl, rfl⟩
                      replace HL := Lib.hid (HL.out.drewN m4)
                      generalize World.drewN _ m4 = w3 at *
                      obtain ⟨r0, r1, r2, r3⟩ := HL.out.2.1.c4
                      obtain ⟨f0, f1, f2, f3⟩ := HL.out.2.1.f4
                      obtain ⟨n0, n1, n2, n3⟩ := HL.out.2.2.1.c4
                      go_wp2_with fail
                      refine bodyPost_ret (v := .tuple #[.agg #[.float .f32 M, .float .f32 P, .float .f32 c, .float .f32 d], .float .f32 Q, .bool true]) ?_ rfl (lsR_yes HB.out HM.out HP.out HQ.out ?_)
                      · have hres := HRES.out
                        simp only [results, hres]
                        go_simp
                      · exact ((((((((HL.out.2.2.2).setCell (by show w.heap.size ≤ w.heap.size + 1; omega) _)).setCell (by show w.heap.size ≤ w.heap.size + 1; omega) _)).setCell (by show w.heap.size ≤ w.heap.size + 1; omega) _)).setCell (by show w.heap.size ≤ w.heap.size + 1; omega) _)
set_option maxHeartbeats 4000000 in
set_option maxRecDepth 100000 in
theorem spLvs_any (a b c d x : Nat) (s : Bool) (w : World) :
    Calls Try.prog 83 #[.agg #[.float .f32 a, .float .f32 b, .float .f32 c, .float .f32 d], .float .f32 x, .bool s] w (lsR s a b c d x w) := by
  have HRES := Lib.hid (show Try.f83.results = #[.cell 6 41, .tmp 7, .tmp 8] by kernel_rfl)
  have HI := Lib.hid (show NumsIn ((w.alloc (.cells #[.float .f32 a, .float .f32 b, .float .f32 c, .float .f32 d] 41)).alloc (.cells #[.float .f32 0, .float .f32 0, .float .f32 0, .float .f32 0] 41)) w.heap.size [a, b, c, d] from (NumsIn.new w [a, b, c, d] 41).alloc (.cells #[.float .f32 0, .float .f32 0, .float .f32 0, .float .f32 0] 41))
  have HR := Lib.hid (show NumsIn ((w.alloc (.cells #[.float .f32 a, .float .f32 b, .float .f32 c, .float .f32 d] 41)).alloc (.cells #[.float .f32 0, .float .f32 0, .float .f32 0, .float .f32 0] 41)) (w.heap.size + 1) [0, 0, 0, 0] from NumsIn.newAt (w.alloc (.cells #[.float .f32 a, .float .f32 b, .float .f32 c, .float .f32 d] 41)) [0, 0, 0, 0] 41 (p := w.heap.size + 1) (by simp))
  have G := Lib.hid (((Below.refl w.heap.size w).alloc (Nat.le_refl _) (.cells #[.float .f32 a, .float .f32 b, .float .f32 c, .float .f32 d] 41)).alloc (by simp) (.cells #[.float .f32 0, .float .f32 0, .float .f32 0, .float .f32 0] 41))
  cases hv : lvB a b c d
  · have HV := Lib.hid hv
    have HB := Lib.hid (lsB_0 (s := s) (show lsB0 a b c d x = false by unfold lsB0; rw [hv]; rfl))
    clear hv
    go_enter Try.func83, Try.ntmps83
    go_wp2_with fail
    refine (splv_any _ _ _ _ _ _ HI.out).mono ?_
    rw [HV.out]
    rintro e w1 ⟨m1, rfl, rfl⟩
    have HI1 := Lib.hid (HI.out.drewN m1)
    have HR1 := Lib.hid (HR.out.drewN m1)
    have G1 := Lib.hid (below_drewN G.out m1)
    generalize World.drewN _ m1 = w1 at *
    obtain ⟨r0, r1, r2, r3⟩ := HR1.out.c4
    obtain ⟨f0, f1, f2, f3⟩ := HR1.out.f4
    go_wp2_with fail
    refine bodyPost_ret (v := .tuple #[.agg #[.float .f32 0, .float .f32 0, .float .f32 0, .float .f32 0], .float .f32 0, .bool false]) ?_ rfl (lsR_no HB.out ?_)
    · have hres := HRES.out
      simp only [results, hres]
      go_simp
    · exact ((((((((G1.out).setCell (by show w.heap.size ≤ w.heap.size + 1; omega) _)).setCell (by show w.heap.size ≤ w.heap.size + 1; omega) _)).setCell (by show w.heap.size ≤ w.heap.size + 1; omega) _)).setCell (by show w.heap.size ≤ w.heap.size + 1; omega) _)
  cases hx : fin .f32 x
  · have HV := Lib.hid hv
    have HX := Lib.hid hx
    have HB := Lib.hid (lsB_0 (s := s) (show lsB0 a b c d x = false by unfold lsB0; rw [hv, hx]; rfl))
    clear hv hx
    go_enter Try.func83, Try.ntmps83
    go_wp2_with fail
    refine (splv_any _ _ _ _ _ _ HI.out).mono ?_
    rw [HV.out]
    rintro e w1 ⟨m1, rfl, rfl⟩
    have HI1 := Lib.hid (HI.out.drewN m1)
    have HR1 := Lib.hid (HR.out.drewN m1)
    have G1 := Lib.hid (below_drewN G.out m1)
    generalize World.drewN _ m1 = w1 at *
    go_wp2_with fail
    refine (l01Finite_any _ _).mono ?_
    rw [HX.out]
    rintro e w' ⟨m2, rfl, rfl⟩
    replace HI1 := Lib.hid (HI1.out.drewN m2)
    replace HR1 := Lib.hid (HR1.out.drewN m2)
    replace G1 := Lib.hid (below_drewN G1.out m2)
    generalize w1.drewN m2 = wq at *
    obtain ⟨r0, r1, r2, r3⟩ := HR1.out.c4
    obtain ⟨f0, f1, f2, f3⟩ := HR1.out.f4
    go_wp2_with fail
    refine bodyPost_ret (v := .tuple #[.agg #[.float .f32 0, .float .f32 0, .float .f32 0, .float .f32 0], .float .f32 0, .bool false]) ?_ rfl (lsR_no HB.out ?_)
    · have hres := HRES.out
      simp only [results, hres]
      go_simp
    · exact ((((((((G1.out).setCell (by show w.heap.size ≤ w.heap.size + 1; omega) _)).setCell (by show w.heap.size ≤ w.heap.size + 1; omega) _)).setCell (by show w.heap.size ≤ w.heap.size + 1; omega) _)).setCell (by show w.heap.size ≤ w.heap.size + 1; omega) _)
  have h0 : lsB0 a b c d x = true := by unfold lsB0; rw [hv, hx]; rfl
  have HV := Lib.hid hv
  have HX := Lib.hid hx
  have H0 := Lib.hid h0
  clear hv hx h0
  cases s
  · skip
    go_enter Try.func83, Try.ntmps83
    go_wp2_with fail
    refine (splv_any _ _ _ _ _ _ HI.out).mono ?_
    rw [HV.out]
    rintro e w1 ⟨m1, rfl, rfl⟩
    have HI1 := Lib.hid (HI.out.drewN m1)
    have HR1 := Lib.hid (HR.out.drewN m1)
    have G1 := Lib.hid (below_drewN G.out m1)
    generalize World.drewN _ m1 = w1 at *
    go_wp2_with fail
    refine (l01Finite_any _ _).mono ?_
    rw [HX.out]
    rintro e w' ⟨m2, rfl, rfl⟩
    replace HI1 := Lib.hid (HI1.out.drewN m2)
    replace HR1 := Lib.hid (HR1.out.drewN m2)
    replace G1 := Lib.hid (below_drewN G1.out m2)
    generalize w1.drewN m2 = wq at *
    have hs1 : w.heap.size + 1 < wq.heap.size := HR1.out.lt
    have hs0 : w.heap.size < wq.heap.size := by omega
    have hn0 : w.heap.size ≠ wq.heap.size := by omega
    have hn1 : w.heap.size + 1 ≠ wq.heap.size := by omega
    obtain ⟨i0, i1, i2, i3⟩ := HI1.out.c4
    have hfn : fin .f32 b = true ∧ fin .f32 d = true := by have q := HV.out; rw [lvB_spec] at q; simp only [leaB, Bool.and_eq_true] at q; exact ⟨q.2.1.1, q.2.2.2.1⟩
    have hadd := fun W => add_run (P := Try.prog) 32 hfn.1 hfn.2 W
    have HA := Lib.hid (show cn .f32 (aop .add .f32 b d) = lsS b d by rw [cn_aop, ← aop_cn]; rfl)
    have HSlt := Lib.hid (aop_lt .add b d)
    clear hfn
    generalize aop .add .f32 b d = S at *
    go_wp2_with fail
    have hP := HA.out
    have HN := Lib.hid (show NumsIn (wq.alloc (.cells #[.float .f32 a, .float .f32 S, .float .f32 c, .float .f32 d] 41)) wq.heap.size [a, S, c, d] from NumsIn.new wq [a, S, c, d] 41)
    refine (splv_any _ _ _ _ _ _ HN.out).mono ?_
    rintro e w2 ⟨m3, rfl, rfl⟩
    replace HN := Lib.hid (HN.out.drewN m3)
    have HR2 := Lib.hid ((HR1.out.alloc (.cells #[.float .f32 a, .float .f32 S, .float .f32 c, .float .f32 d] 41)).drewN m3)
    have G2 := Lib.hid (below_drewN (G1.out.alloc (by omega) (.cells #[.float .f32 a, .float .f32 S, .float .f32 c, .float .f32 d] 41)) m3)
    generalize World.drewN _ m3 = w2 at *
    have hb := lsB_1 (s := false) (x := x) (q := 0) H0.out (show cn .f32 a = sM false a b c d x from rfl) (show cn .f32 S = sP false b c d from hP) cn_zero
    have HP := Lib.hid hP
    clear hP
    cases hn : lvB a S c d
    · have HB := Lib.hid (hb.trans (by rw [hn]; try rfl))
      clear hb hn
      obtain ⟨r0, r1, r2, r3⟩ := HR2.out.c4
      obtain ⟨f0, f1, f2, f3⟩ := HR2.out.f4
      go_wp2_with fail
      refine bodyPost_ret (v := .tuple #[.agg #[.float .f32 0, .float .f32 0, .float .f32 0, .float .f32 0], .float .f32 0, .bool false]) ?_ rfl (lsR_no HB.out ?_)
      · have hres := HRES.out
        simp only [results, hres]
        go_simp
      · exact ((((((((G2.out).setCell (by show w.heap.size ≤ w.heap.size + 1; omega) _)).setCell (by show w.heap.size ≤ w.heap.size + 1; omega) _)).setCell (by show w.heap.size ≤ w.heap.size + 1; omega) _)).setCell (by show w.heap.size ≤ w.heap.size + 1; omega) _)
    · have HB := Lib.hid (hb.trans (by rw [hn, fin_zero]; try rfl))
      clear hb hn
      go_wp2_with fail
      refine (l01Finite_any _ _).mono ?_
      rw [fin_zero]
      rintro e w' ⟨m4, rfl, rfl⟩
      obtain ⟨r0, r1, r2, r3⟩ := (HR2.out.drewN m4).c4
      obtain ⟨f0, f1, f2, f3⟩ := (HR2.out.drewN m4).f4
      obtain ⟨n0, n1, n2, n3⟩ := (HN.out.drewN m4).c4
      go_wp2_with fail
      refine bodyPost_ret (v := .tuple #[.agg #[.float .f32 a, .float .f32 S, .float .f32 c, .float .f32 d], .float .f32 0, .bool true]) ?_ rfl (lsR_yes HB.out rfl HP.out rfl ?_)
      · have hres := HRES.out
        simp only [results, hres]
        go_simp
      · exact ((((((((below_drewN G2.out m4).setCell (by show w.heap.size ≤ w.heap.size + 1; omega) _)).setCell (by show w.heap.size ≤ w.heap.size + 1; omega) _)).setCell (by show w.heap.size ≤ w.heap.size + 1; omega) _)).setCell (by show w.heap.size ≤ w.heap.size + 1; omega) _)
  · skip
    go_enter Try.func83, Try.ntmps83
    go_wp2_with fail
    refine (splv_any _ _ _ _ _ _ HI.out).mono ?_
    rw [HV.out]
    rintro e w1 ⟨m1, rfl, rfl⟩
    have HI1 := Lib.hid (HI.out.drewN m1)
    have HR1 := Lib.hid (HR.out.drewN m1)
    have G1 := Lib.hid (below_drewN G.out m1)
    generalize World.drewN _ m1 = w1 at *
    go_wp2_with fail
    refine (l01Finite_any _ _).mono ?_
    rw [HX.out]
    rintro e w' ⟨m2, rfl, rfl⟩
    replace HI1 := Lib.hid (HI1.out.drewN m2)
    replace HR1 := Lib.hid (HR1.out.drewN m2)
    replace G1 := Lib.hid (below_drewN G1.out m2)
    generalize w1.drewN m2 = wq at *
    have hs1 : w.heap.size + 1 < wq.heap.size := HR1.out.lt
    have hs0 : w.heap.size < wq.heap.size := by omega
    have hn0 : w.heap.size ≠ wq.heap.size := by omega
    have hn1 : w.heap.size + 1 ≠ wq.heap.size := by omega
    obtain ⟨i0, i1, i2, i3⟩ := HI1.out.c4
    have hfn : fin .f32 b = true ∧ fin .f32 d = true := by have q := HV.out; rw [lvB_spec] at q; simp only [leaB, Bool.and_eq_true] at q; exact ⟨q.2.1.1, q.2.2.2.1⟩
    have hadd := fun W => add_run (P := Try.prog) 32 hfn.1 hfn.2 W
    have HA := Lib.hid (show cn .f32 (aop .add .f32 b d) = lsS b d by rw [cn_aop, ← aop_cn]; rfl)
    have HSlt := Lib.hid (aop_lt .add b d)
    clear hfn
    generalize aop .add .f32 b d = S at *
    have hk : w.heap.size + 1 < wq.heap.size := hs1
    have HS := HA
    have HL := Lib.hid (show LsW w a b c d a S wq.heap.size (wq.alloc (.cells #[.float .f32 a, .float .f32 S, .float .f32 c, .float .f32 d] 41)) from ⟨HI1.out.alloc _, HR1.out.alloc _, NumsIn.new wq [a, S, c, d] 41, G1.out.alloc (by omega) _⟩)
    go_upto_region 7 with fail
    go_cut [12] (fun s12 wx => ∃ F, s12 = .float .f32 F ∧ Hid (cn .f32 F = lsF b c d) ∧ F < 4294967296 ∧ Hid (LsW w a b c d a S wq.heap.size wx))
    case first =>
      obtain ⟨i0, i1, i2, i3⟩ := HL.out.1.c4
      obtain ⟨n0, n1, n2, n3⟩ := HL.out.2.2.1.c4
      obtain ⟨g0, g1, g2, g3⟩ := HL.out.2.2.1.f4
      go_wp2_with fail
      go_meet
      case rel =>
        refine ⟨_, rfl, ?_, ?_, Lib.hid (HL.out.drewN _)⟩
        · exact Lib.hid (ls_f HS.out _)
        · exact fop32_lt ..
    case rest =>
      obtain ⟨F, rfl, HF, ltF, hL⟩ := hcut
      replace HL := hL
      go_upto_region 8 with fail
      go_cut [13] (fun s13 wx => ∃ D, s13 = .float .f32 D ∧ Hid (cn .f32 D = lsD a x) ∧ D < 4294967296 ∧ Hid (LsW w a b c d a S wq.heap.size wx))
      case first =>
        obtain ⟨i0, i1, i2, i3⟩ := HL.out.1.c4
        obtain ⟨n0, n1, n2, n3⟩ := HL.out.2.2.1.c4
        obtain ⟨g0, g1, g2, g3⟩ := HL.out.2.2.1.f4
        go_wp2_with fail
        go_meet
        case rel =>
          refine ⟨_, rfl, ?_, ?_, Lib.hid (HL.out.drewN _)⟩
          · exact Lib.hid (ls_d _)
          · exact fop32_lt ..
      case rest =>
        obtain ⟨D, rfl, HD, ltD, hL⟩ := hcut
        replace HL := hL
        go_upto_region 9 with fail
        go_cut [14] (fun s14 wx => ∃ K, s14 = .float .f32 K ∧ Hid (cn .f32 K = lsK b c d) ∧ K < 4294967296 ∧ Hid (LsW w a b c d a S wq.heap.size wx))
        case first =>
          obtain ⟨i0, i1, i2, i3⟩ := HL.out.1.c4
          obtain ⟨n0, n1, n2, n3⟩ := HL.out.2.2.1.c4
          obtain ⟨g0, g1, g2, g3⟩ := HL.out.2.2.1.f4
          go_wp2_with fail
          go_meet
          case rel =>
            refine ⟨_, rfl, ?_, ?_, Lib.hid (HL.out.drewN _)⟩
            · exact Lib.hid (ls_k HS.out HF.out _)
            · exact fop32_lt ..
        case rest =>
          obtain ⟨K, rfl, HK, ltK, hL⟩ := hcut
          replace HL := hL
          go_upto_region 10 with fail
          go_cut [] (fun wx => ∃ M, Hid (cn .f32 M = sM true a b c d x) ∧ M < 4294967296 ∧ Hid (LsW w a b c d M S wq.heap.size wx))
          case first =>
            obtain ⟨i0, i1, i2, i3⟩ := HL.out.1.c4
            obtain ⟨n0, n1, n2, n3⟩ := HL.out.2.2.1.c4
            obtain ⟨g0, g1, g2, g3⟩ := HL.out.2.2.1.f4
            go_wp2_with fail
            go_meet
            case rel =>
              refine ⟨_, ?_, ?_, Lib.hid ((HL.out.drewN _).putM hk _)⟩
              · exact Lib.hid (ls_m HK.out HD.out _ _)
              · exact fop32_lt ..
          case rest =>
            obtain ⟨M, HM, ltM, hL⟩ := hcut
            replace HL := hL
            go_upto_region 11 with fail
            go_cut [] (fun wx => ∃ P, Hid (cn .f32 P = sP true b c d) ∧ P < 4294967296 ∧ Hid (LsW w a b c d M P wq.heap.size wx))
            case first =>
              obtain ⟨i0, i1, i2, i3⟩ := HL.out.1.c4
              obtain ⟨n0, n1, n2, n3⟩ := HL.out.2.2.1.c4
              obtain ⟨g0, g1, g2, g3⟩ := HL.out.2.2.1.f4
              go_wp2_with fail
              go_meet
              case rel =>
                refine ⟨_, ?_, ?_, Lib.hid ((HL.out.drewN _).putP hk _)⟩
                · exact Lib.hid (ls_p HS.out HK.out _ _)
                · exact fop32_lt ..
            case rest =>
              obtain ⟨P, HP, ltP, hL⟩ := hcut
              replace HL := hL
              go_upto_region 12 with fail
              go_cut [11] (fun sq wx => ∃ Q, sq = .float .f32 Q ∧ Hid (cn .f32 Q = sQ true a b c d x) ∧ Hid (LsW w a b c d M P wq.heap.size wx))
              case first =>
                go_wp2_with fail
                refine (specLogNumber_any _ _ ltF).mono ?_
                rintro e w' ⟨l, ml, hl, rfl, rfl⟩
                have HQ := Lib.hid (ls_u (a := a) (x := x) HD.out HF.out hl)
                clear hl
                go_wp2_with fail
                go_meet
                case rel => exact ⟨_, rfl, Lib.hid (HQ.out _ _ _ _), Lib.hid (HL.out.drewN _)⟩
              case rest =>
                obtain ⟨Q, rfl, HQ, hL⟩ := hcut
                replace HL := hL
                have hb := lsB_1 (s := true) (x := x) (q := Q) H0.out HM.out HP.out HQ.out
                go_wp2_with fail
                refine (splv_any _ _ _ _ _ _ HL.out.2.2.1).mono ?_
                rintro e w2 ⟨m3, rfl, rfl⟩
                replace HL := Lib.hid (HL.out.drewN m3)
                generalize World.drewN _ m3 = w2 at *
                cases hn : lvB M P c d
                · have HB := Lib.hid (hb.trans (by rw [hn]; try rfl))
                  clear hb hn
                  obtain ⟨r0, r1, r2, r3⟩ := HL.out.2.1.c4
                  obtain ⟨f0, f1, f2, f3⟩ := HL.out.2.1.f4
                  go_wp2_with fail
                  refine bodyPost_ret (v := .tuple #[.agg #[.float .f32 0, .float .f32 0, .float .f32 0, .float .f32 0], .float .f32 0, .bool false]) ?_ rfl (lsR_no HB.out ?_)
                  · have hres := HRES.out
                    simp only [results, hres]
                    go_simp
                  · exact ((((((((HL.out.2.2.2).setCell (by show w.heap.size ≤ w.heap.size + 1; omega) _)).setCell (by show w.heap.size ≤ w.heap.size + 1; omega) _)).setCell (by show w.heap.size ≤ w.heap.size + 1; omega) _)).setCell (by show w.heap.size ≤ w.heap.size + 1; omega) _)
                · cases hq : fin .f32 Q
                  · have HB := Lib.hid (hb.trans (by rw [hn, hq]; try rfl))
                    have HF := Lib.hid hq
                    clear hb hn hq
                    go_wp2_with fail
                    refine (l01Finite_any _ _).mono ?_
                    rw [HF.out]
                    rintro e w' ⟨m4, rfl, rfl⟩
                    replace HL := Lib.hid (HL.out.drewN m4)
                    generalize World.drewN _ m4 = w3 at *
                    obtain ⟨r0, r1, r2, r3⟩ := HL.out.2.1.c4
                    obtain ⟨f0, f1, f2, f3⟩ := HL.out.2.1.f4
                    go_wp2_with fail
                    refine bodyPost_ret (v := .tuple #[.agg #[.float .f32 0, .float .f32 0, .float .f32 0, .float .f32 0], .float .f32 0, .bool false]) ?_ rfl (lsR_no HB.out ?_)
                    · have hres := HRES.out
                      simp only [results, hres]
                      go_simp
                    · exact ((((((((HL.out.2.2.2).setCell (by show w.heap.size ≤ w.heap.size + 1; omega) _)).setCell (by show w.heap.size ≤ w.heap.size + 1; omega) _)).setCell (by show w.heap.size ≤ w.heap.size + 1; omega) _)).setCell (by show w.heap.size ≤ w.heap.size + 1; omega) _)
                  · have HB := Lib.hid (hb.trans (by rw [hn, hq]; try rfl))
                    have HF := Lib.hid hq
                    clear hb hn hq
                    go_wp2_with fail
                    refine (l01Finite_any _ _).mono ?_
                    rw [HF.out]
                    rintro e w' ⟨m4, rfl, rfl⟩
                    replace HL := Lib.hid (HL.out.drewN m4)
                    generalize World.drewN _ m4 = w3 at *
                    obtain ⟨r0, r1, r2, r3⟩ := HL.out.2.1.c4
                    obtain ⟨f0, f1, f2, f3⟩ := HL.out.2.1.f4
                    obtain ⟨n0, n1, n2, n3⟩ := HL.out.2.2.1.c4
                    go_wp2_with fail
                    refine bodyPost_ret (v := .tuple #[.agg #[.float .f32 M, .float .f32 P, .float .f32 c, .float .f32 d], .float .f32 Q, .bool true]) ?_ rfl (lsR_yes HB.out HM.out HP.out HQ.out ?_)
                    · have hres := HRES.out
                      simp only [results, hres]
                      go_simp
                    · exact ((((((((HL.out.2.2.2).setCell (by show w.heap.size ≤ w.heap.size + 1; omega) _)).setCell (by show w.heap.size ≤ w.heap.size + 1; omega) _)).setCell (by show w.heap.size ≤ w.heap.size + 1; omega) _)).setCell (by show w.heap.size ≤ w.heap.size + 1; omega) _)
end Go.Proofs.Ytldaamgohdnjnaa
